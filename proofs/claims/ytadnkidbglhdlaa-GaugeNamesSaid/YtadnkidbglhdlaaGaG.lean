/-
  gauge: a gauge of two counters: New, Enter, Get free; Leave of an empty one under notes; gauges that are none.
-/
import Derived.Test.YtadnkidbglhdlaaGaC
import Derived.Test.YtadnkidbglhdlaaGf
import Derived.RegionTactic
import Derived.RegionCalls
import Derived.BigRegion
import Derived.WalkMore
import Derived.Deep.RegionHeld3
import Derived.StillTailTactics
import Derived.IntWalk
set_option linter.unusedVariables false
set_option linter.unusedSimpArgs false
namespace Go.Proofs.Ytadnkidbglhdlaa.gag
open Go.RowKit Go.Proofs.Ytadnkidbglhdlaa.oc Go.Proofs.Ytadnkidbglhdlaa.mz Go.Proofs.Ytadnkidbglhdlaa.gac
/-- block G is a gauge of the counters C and E, its limit is L; i are in, the peak is p -/
structure Gg (w : World) (G C E L i p : Nat) : Prop where
  blk : Blk w G 55 [.pointer (some ⟨G, 0, none⟩), .int .u64 (L : Int), .pointer (some ⟨C, 0, none⟩), .pointer (some ⟨E, 0, none⟩)]
  c : Cnt w C i
  e : Cnt w E p
  ne : G ≠ C ∧ G ≠ E ∧ C ≠ E
  lim : 1 ≤ L ∧ L ≤ 1048576
section
variable {w w' : World} {G C E L i p : Nat}
theorem Gg.cell0 (h : Gg w G C E L i p) : w.cell? ⟨G, 0, none⟩ = some (.pointer (some ⟨G, 0, none⟩)) := by rw [h.blk.cell]; rfl
theorem Gg.cell1 (h : Gg w G C E L i p) : w.cell? ⟨G, 1, none⟩ = some (.int .u64 (L : Int)) := by rw [h.blk.cell]; rfl
theorem Gg.cell2 (h : Gg w G C E L i p) : w.cell? ⟨G, 2, none⟩ = some (.pointer (some ⟨C, 0, none⟩)) := by rw [h.blk.cell]; rfl
theorem Gg.cell3 (h : Gg w G C E L i p) : w.cell? ⟨G, 3, none⟩ = some (.pointer (some ⟨E, 0, none⟩)) := by rw [h.blk.cell]; rfl
theorem Gg.keeps {S : Nat → Prop} (h : Gg w G C E L i p) (k : Keeps S w w') (h1 : ¬ S G) (h2 : ¬ S C) (h3 : ¬ S E) : Gg w' G C E L i p := ⟨Blk.keeps h.blk k h1, h.c.keeps k h2, h.e.keeps k h3, h.ne, h.lim⟩
theorem Gg.all (h : Gg w G C E L i p) (k : ∀ S, Keeps S w w') : Gg w' G C E L i p := h.keeps (k (fun _ => False)) (fun z => z) (fun z => z) (fun z => z)
theorem Gg.drew (h : Gg w G C E L i p) : Gg w.drew G C E L i p := h.keeps (S := fun _ => False) (Keeps.refl _ w).drew (fun z => z) (fun z => z) (fun z => z)
theorem Gg.inC (h : Gg w G C E L i p) {v : Nat} (c : Cnt w' C v) (k : Keeps (fun b => False ∨ b = C) w w') : Gg w' G C E L v p :=
  ⟨Blk.keeps h.blk k (fun z => by rcases z with z | z; exact z; exact h.ne.1 z), c, h.e.keeps k (fun z => by rcases z with z | z; exact z; exact h.ne.2.2 z.symm), h.ne, h.lim⟩
theorem Gg.inE (h : Gg w G C E L i p) {v : Nat} (c : Cnt w' E v) (k : Keeps (fun b => False ∨ b = E) w w') : Gg w' G C E L i v :=
  ⟨Blk.keeps h.blk k (fun z => by rcases z with z | z; exact z; exact h.ne.2.1 z), h.c.keeps k (fun z => by rcases z with z | z; exact z; exact h.ne.2.2 z), c, h.ne, h.lim⟩
end
theorem gauge_info : (Try.prog.info? 55).map (fun i => i.size) = some 4 := by kernel_rfl
theorem gauge_self (w : World) (a : Addr) : (binOp .neq 23 (.pointer (some a)) (.pointer (some a))).run Try.prog w = .ok (.bool false) w := by
  cases hi : Try.prog.info? 55 with
  | none => have := gauge_info; rw [hi] at this; cases this
  | some i => exact Lib.run_neq_ptr_same w a Try.underlying23 hi
section
variable (G C E L i p : Nat) (w : World)
set_option maxRecDepth 100000 in
set_option maxHeartbeats 1000000 in
theorem none_ (h : Gg w G C E L i p) : Calls Try.prog 28 #[.pointer (some ⟨G, 0, none⟩)] w fun e w' => e = .returned (.bool false) ∧ w = w' := by
  have p0 := h.cell0
  have hns := gauge_self
  clear h
  go_enter Try.func28, Try.ntmps28
  go_wp2
  go_ret
  exact ⟨rfl, rfl⟩
theorem max0 (h : Cnt w E p) (v : Nat) (hv : v < 18446744073709551616) : Calls Try.prog 31 #[.pointer (some ⟨E, 0, none⟩), .nilIface, .int .u64 (v : Int)] w fun e w' => ∃ ok, e = .returned (.tuple #[.bool ok, .int .i64 0]) ∧ Cnt w' E (max p v) ∧ Keeps (fun b => False ∨ b = E) w w' := by
  by_cases hp : p < v
  · refine (cnt_max_yes E p v .nilIface w [] (fun _ => False) h (.inl rfl) (by decide) (fun z => z) (fun b z => z.elim) hv hp).mono ?_
    rintro e w' ⟨rfl, h1, h2, h3⟩
    exact ⟨true, rfl, by rw [Nat.max_eq_right (by omega)]; exact h1, h3⟩
  · refine (cnt_max_no E p v .nilIface w [] (fun _ => False) h (.inl rfl) (by decide) (fun z => z) (fun b z => z.elim) hv hp).mono ?_
    rintro e w' ⟨rfl, h1, h2, h3⟩
    exact ⟨false, rfl, by rw [Nat.max_eq_left (by omega)]; exact h1, h3⟩
theorem up0_yes (h : Cnt w C i) (h1 : 1 ≤ L) (h2 : L ≤ 1048576) (hi : i < L) : Calls Try.prog 29 #[.pointer (some ⟨C, 0, none⟩), .nilIface, .int .u64 1, .int .u64 (L : Int)] w fun e w' => e = .returned (.tuple #[.int .u64 ((i + 1 : Nat) : Int), .bool true, .int .i64 0]) ∧ Cnt w' C (i + 1) ∧ Keeps (fun b => False ∨ b = C) w w' := by
  have hu := cnt_up_yes C i 1 L .nilIface w [] (fun _ => False) h (.inl rfl) (by decide) (fun z => z) (fun b z => z.elim) (by omega) (by omega) h1 (by omega)
  rw [show (i + 1) % W64 = i + 1 from by rw [W64_eq]; omega, show ((1 : Nat) : Int) = 1 from rfl] at hu
  refine hu.mono ?_
  rintro e w' ⟨rfl, h1, h2, h3⟩
  exact ⟨rfl, h1, h3⟩
theorem up0_no (h : Cnt w C i) (h1 : 1 ≤ L) (h2 : L ≤ 1048576) (hi : ¬ i < L) : Calls Try.prog 29 #[.pointer (some ⟨C, 0, none⟩), .nilIface, .int .u64 1, .int .u64 (L : Int)] w fun e w' => e = .returned (.tuple #[.int .u64 (i : Int), .bool false, .int .i64 0]) ∧ Cnt w' C i ∧ Keeps (fun b => False ∨ b = C) w w' := by
  have hu := cnt_up_no2 C i 1 L .nilIface w [] (fun _ => False) h (.inl rfl) (by decide) (fun z => z) (fun b z => z.elim) (by omega) (by omega) h1 (by omega)
  rw [show ((1 : Nat) : Int) = 1 from rfl] at hu
  refine hu.mono ?_
  rintro e w' ⟨rfl, h1, h2, h3⟩
  exact ⟨rfl, h1, h3⟩
theorem get0 (h : Cnt w C i) : Calls Try.prog 32 #[.pointer (some ⟨C, 0, none⟩), .nilIface] w fun e w' => e = .returned (.tuple #[.int .u64 (i : Int), .int .i64 0]) ∧ Keeps (fun _ => False) w w' := by
  refine (cnt_get C i .nilIface w [] (fun _ => False) h (.inl rfl) (by decide) (fun z => z)).mono ?_
  rintro e w' ⟨rfl, h1, h2⟩
  exact ⟨rfl, h2⟩
set_option maxRecDepth 100000 in
set_option maxHeartbeats 2000000 in
theorem enter_no (h : Gg w G C E L i p) (hi : ¬ i < L) : Calls Try.prog 15 #[.pointer (some ⟨G, 0, none⟩), .nilIface] w fun e w' => e = .returned (.tuple #[.bool false, .int .i64 0]) ∧ Gg w' G C E L i p ∧ Keeps (fun b => b = C ∨ b = E) w w' := by
  have HN := Lib.hid (none_ G C E L i p w h)
  have HA := fun w => Lib.hid (as_nil 0 w)
  have HU := Lib.hid (up0_no C L i w.drew h.drew.c h.lim.1 h.lim.2 hi)
  have c1 := h.cell1
  have c2 := h.cell2
  have H := Lib.hid h.drew
  clear h hi
  go_enter Try.func15, Try.ntmps15
  go_wp2_with fail
  refine HN.out.mono ?_
  rintro e w' ⟨rfl, rfl⟩
  go_wp2_with fail
  go_region_held3 (fun w' => w'.cell? ⟨G, 1, none⟩ = some (.int .u64 (L : Int)) ∧ w'.cell? ⟨G, 2, none⟩ = some (.pointer (some ⟨C, 0, none⟩)))
    (first | exact ⟨y1, y2⟩ | exact ⟨c1, c2⟩)
    ((first
      | (go_at_call 30; refine (HA _).out.mono ?_; rintro e w' ⟨rfl, rfl⟩)
      | (go_at_call 29; refine HU.out.mono ?_; rintro e w1 ⟨rfl, u1, k1⟩; have G1 := Lib.hid (H.out.inC u1 k1); have y1 := G1.out.cell1; have y2 := G1.out.cell2; have K1 := Lib.hid k1; clear u1 k1)))
  all_goals
    go_wp2
    try rw [Exit.noGoto_ret]
    go_ret2
    exact ⟨rfl, G1.out, ((Keeps.refl _ w).drew.trans K1.out).mono (fun b _ z => by rcases z with z | z; exact z.elim; exact .inl z)⟩
set_option maxRecDepth 100000 in
set_option maxHeartbeats 2000000 in
theorem enter_yes (h : Gg w G C E L i p) (hi : i < L) : Calls Try.prog 15 #[.pointer (some ⟨G, 0, none⟩), .nilIface] w fun e w' => e = .returned (.tuple #[.bool true, .int .i64 0]) ∧ Gg w' G C E L (i + 1) (max p (i + 1)) ∧ Keeps (fun b => b = C ∨ b = E) w w' := by
  have HN := Lib.hid (none_ G C E L i p w h)
  have HA := fun k w => Lib.hid (as_nil k w)
  have HU := Lib.hid (up0_yes C L i w.drew h.drew.c h.lim.1 h.lim.2 hi)
  have HM := fun w he => Lib.hid (max0 E p w he (i + 1) (by have := h.lim; omega))
  have c1 := h.cell1
  have c2 := h.cell2
  have H := Lib.hid h.drew
  clear h hi
  generalize hj : i + 1 = j at *
  clear hj
  go_enter Try.func15, Try.ntmps15
  go_wp2_with fail
  refine HN.out.mono ?_
  rintro e w' ⟨rfl, rfl⟩
  go_wp2_with fail
  go_region_held3 (fun w' => w'.cell? ⟨G, 1, none⟩ = some (.int .u64 (L : Int)) ∧ w'.cell? ⟨G, 2, none⟩ = some (.pointer (some ⟨C, 0, none⟩)))
    (first | exact ⟨y1, y2⟩ | exact ⟨c1, c2⟩)
    ((first
      | (go_at_call 30; refine (HA _ _).out.mono ?_; rintro e w' ⟨rfl, rfl⟩)
      | (go_at_call 29; refine HU.out.mono ?_; rintro e w1 ⟨rfl, u1, k1⟩; have G1 := Lib.hid (H.out.inC u1 k1); have y1 := G1.out.cell1; have y2 := G1.out.cell2; have K1 := Lib.hid k1; clear u1 k1)))
  all_goals
    have d3 := G1.out.cell3
    have HMM := Lib.hid ((HM w1.drew G1.out.drew.e).out)
    go_wp2_with fail
    go_region_held3 (fun w' => w'.cell? ⟨G, 3, none⟩ = some (.pointer (some ⟨E, 0, none⟩)))
      (first | exact z3 | exact d3)
      ((first
        | (go_at_call 30; refine (HA _ _).out.mono ?_; rintro e w' ⟨rfl, rfl⟩)
        | (go_at_call 31; refine HMM.out.mono ?_; rintro e w2 ⟨ok, rfl, u2, k2⟩; have G2 := Lib.hid (G1.out.drew.inE u2 k2); have z3 := G2.out.cell3; have K2 := Lib.hid k2; clear u2 k2)))
    all_goals
      go_wp2
      try rw [Exit.noGoto_ret]
      go_ret2
      exact ⟨rfl, G2.out, ((((Keeps.refl _ w).drew.trans K1.out).mono (fun b _ z => by rcases z with z | z; exact z.elim; exact .inl z)).drew.trans (K2.out.mono (fun b _ z => by rcases z with z | z; exact z.elim; exact .inr z)))⟩
set_option maxRecDepth 100000 in
set_option maxHeartbeats 2000000 in
theorem getg (h : Gg w G C E L i p) : Calls Try.prog 16 #[.pointer (some ⟨G, 0, none⟩), .nilIface] w fun e w' => e = .returned (.tuple #[.int .u64 (i : Int), .int .u64 (p : Int), .int .i64 0]) ∧ Gg w' G C E L i p ∧ ∀ S, Keeps S w w' := by
  have HN := Lib.hid (none_ G C E L i p w h)
  have HA := fun k w => Lib.hid (as_nil k w)
  have HC := fun w h => Lib.hid (get0 C i w h)
  have HE := fun w h => Lib.hid (get0 E p w h)
  have c2 := h.cell2
  have H := Lib.hid h.drew
  have HCC := Lib.hid ((HC w.drew H.out.c).out)
  clear h
  go_enter Try.func16, Try.ntmps16
  go_wp2_with fail
  refine HN.out.mono ?_
  rintro e w' ⟨rfl, rfl⟩
  go_wp2_with fail
  go_region_held3 (fun w' => w'.cell? ⟨G, 2, none⟩ = some (.pointer (some ⟨C, 0, none⟩)))
    (first | exact y2 | exact c2)
    ((first
      | (go_at_call 30; refine (HA _ _).out.mono ?_; rintro e w' ⟨rfl, rfl⟩)
      | (go_at_call 32; refine HCC.out.mono ?_; rintro e w1 ⟨rfl, k1⟩; have G1 := Lib.hid (H.out.keeps k1 (fun z => z) (fun z => z) (fun z => z)); have y2 := G1.out.cell2; have K1 := Lib.hid k1; clear k1)))
  all_goals
    have d3 := G1.out.cell3
    have HEE := Lib.hid ((HE w1.drew G1.out.drew.e).out)
    go_wp2_with fail
    go_region_held3 (fun w' => w'.cell? ⟨G, 3, none⟩ = some (.pointer (some ⟨E, 0, none⟩)))
      (first | exact z3 | exact d3)
      ((first
        | (go_at_call 30; refine (HA _ _).out.mono ?_; rintro e w' ⟨rfl, rfl⟩)
        | (go_at_call 32; refine HEE.out.mono ?_; rintro e w2 ⟨rfl, k2⟩; have G2 := Lib.hid (G1.out.drew.keeps k2 (fun z => z) (fun z => z) (fun z => z)); have z3 := G2.out.cell3; have K2 := Lib.hid k2; clear k2)))
    all_goals
      go_wp2
      try rw [Exit.noGoto_ret]
      go_ret3
      exact ⟨rfl, G2.out, fun S => ((((Keeps.refl _ w).drew.trans K1.out).drew.trans K2.out).mono (fun b _ z => z.elim))⟩
set_option maxRecDepth 100000 in
set_option maxHeartbeats 2000000 in
theorem leave_bare (N : Nat) (F : Nat → Prop) (h : Gg w G C E L 0 p) (hn : NInv w N [] F) (hG : ¬ F G) (hC : ¬ F C) (hE : ¬ F E) (hF : ∀ b, F b → b < w.heap.size) :
    Calls Try.prog 17 #[.pointer (some ⟨G, 0, none⟩), .iface 31 (.pointer (some ⟨N, 0, none⟩))] w fun e w' => e = .returned (.int .i64 3) ∧ NInv w' N [(1, 0)] (Grown w w' F) ∧ Keeps (fun b => F b ∨ b = C) w w' := by
  have HN := Lib.hid (none_ G C E L 0 p w h)
  have HA := fun w => Lib.hid (as_notes N w)
  have hd := cnt_down_no C 0 1 (rn N) w.drew [] F h.drew.c (.inr ⟨N, rfl, hn.keeps (S := fun _ => False) (Keeps.refl _ w).drew (fun _ _ z => z)⟩) (by decide) hC hF (by omega) (by omega)
  rw [show ((1 : Nat) : Int) = 1 from rfl, show ((0 : Nat) : Int) = 0 from rfl] at hd
  have HD := Lib.hid hd
  have c2 := h.cell2
  have H := Lib.hid h.drew
  have HG := Lib.hid hG
  clear h hn hd hG hC hE hF
  generalize hr : rn N = gv at *
  go_enter Try.func17, Try.ntmps17
  go_wp2_with fail
  refine HN.out.mono ?_
  rintro e w' ⟨rfl, rfl⟩
  go_wp2_with fail
  go_region_held3 (fun w' => w'.cell? ⟨G, 2, none⟩ = some (.pointer (some ⟨C, 0, none⟩)))
    (first | exact y2 | exact c2)
    ((first
      | (go_at_call 30; refine (HA _).out.mono ?_; rintro e w' ⟨rfl, rfl⟩)
      | (go_at_call 33; refine HD.out.mono ?_; rintro e w1 ⟨rfl, u1, g1, k1⟩; have y2 : w1.cell? ⟨G, 2, none⟩ = some (.pointer (some ⟨C, 0, none⟩)) := by { have := Blk.keeps H.out.blk k1 (fun z => by rcases z with z | z; exact HG.out z; exact H.out.ne.1 z); rw [this.cell]; rfl }; have G1 := Lib.hid g1; have K1 := Lib.hid k1; clear u1 k1 g1)))
  all_goals
    go_wp2
    try rw [Exit.noGoto_ret]
    go_ret
    refine ⟨rfl, ?_, (Keeps.refl _ w).drew.trans K1.out⟩
    rcases G1.out with z | ⟨N', e, z⟩
    · rw [z] at hr; cases hr
    · rw [← hr] at e
      unfold rn at e
      injection e with _ e
      injection e with e
      simp at e
      subst e
      exact z
set_option maxRecDepth 100000 in
set_option maxHeartbeats 2000000 in
theorem new_ok (h1 : 1 ≤ L) (h2 : L ≤ 1048576) : Calls Try.prog 6 #[.int .u64 (L : Int)] w fun e w' => ∃ G C E, e = .returned (.tuple #[.pointer (some ⟨G, 0, none⟩), .int .i64 0]) ∧ Gg w' G C E L 0 0 ∧ (w.heap.size ≤ G ∧ w.heap.size ≤ C ∧ w.heap.size ≤ E) ∧ ∀ S, Keeps S w w' := by
  have HC := fun w => Lib.hid (new_counter 0 w (by omega))
  rw [show ((0 : Nat) : Int) = 0 from rfl] at HC
  have q1 : ¬ (L : Int) < 1 := by omega
  have q2 : ¬ (1048576 : Int) < (L : Int) := by omega
  have HL := Lib.hid (And.intro h1 h2)
  clear h1 h2
  go_enter Try.func6, Try.ntmps6
  go_wp2_with fail
  refine (HC w).out.mono ?_
  rintro e w1 ⟨rfl, u1, k1⟩
  have U1 := Lib.hid u1
  have K1 : Hid (∀ S, Keeps S w w1) := Lib.hid k1
  clear u1 k1
  go_wp2_with fail
  refine (HC w1).out.mono ?_
  rintro e w2 ⟨rfl, u2, k2⟩
  have U2 := Lib.hid u2
  have K2 : Hid (∀ S, Keeps S w1 w2) := Lib.hid k2
  clear u2 k2
  go_wp2
  go_ret2
  have hz1 := U1.out.1.lt
  have hz2 := U2.out.1.lt
  have hz := (K2.out (fun _ => False)).size
  have hz0 := (K1.out (fun _ => False)).size
  exact ⟨w2.heap.size, w.heap.size, w1.heap.size, rfl, ⟨Blk.new w2 _ _, (U1.out.keeps (K2.out (fun _ => False)) (fun z => z)).keeps ((Keeps.refl (fun _ => False) w2).alloc _) (fun z => z), U2.out.keeps ((Keeps.refl (fun _ => False) w2).alloc _) (fun z => z), ⟨by omega, by omega, by omega⟩, HL.out⟩, ⟨by omega, by omega, by omega⟩, fun S => ((K1.out S).trans (K2.out S)).alloc _⟩
set_option maxRecDepth 100000 in
set_option maxHeartbeats 1000000 in
theorem new_err (h : ¬ (1 ≤ L ∧ L ≤ 1048576)) : Calls Try.prog 6 #[.int .u64 (L : Int)] w fun e w' => e = .returned (.tuple #[.pointer none, .int .i64 2]) ∧ w = w' := by
  by_cases h1 : 1 ≤ L
  · have q1 : ¬ (L : Int) < 1 := by omega
    have q2 : (1048576 : Int) < (L : Int) := by omega
    clear h h1
    go_enter Try.func6, Try.ntmps6
    go_wp2
    go_ret2
    exact ⟨rfl, rfl⟩
  · have q1 : (L : Int) < 1 := by omega
    clear h h1
    go_enter Try.func6, Try.ntmps6
    go_wp2
    go_ret2
    exact ⟨rfl, rfl⟩
end
end Go.Proofs.Ytadnkidbglhdlaa.gag
