/-
  tally: New's object; Add under a gate; Parts and Sum under none.
-/
import Derived.Test.YtekglcphdjjmcaaGwA
import Derived.Deep.LoopGhost
import Derived.WalkMore
import Derived.Deep.RegionHeld3
import Derived.Deep.QuietTactic
import Derived.BigQuiet
set_option linter.unusedVariables false
namespace Go.Proofs.Ytekglcphdjjmcaa.ta
open Go.RowKit Go.Proofs.Ytekglcphdjjmcaa.oc Go.Proofs.Ytekglcphdjjmcaa.mz Go.Proofs.Ytekglcphdjjmcaa.at_ Go.Proofs.Ytekglcphdjjmcaa.gt Go.Proofs.Ytekglcphdjjmcaa.gw
/-- block T is a tally of n shards, its words ws lie in block W -/
structure Ta (w : World) (T W n : Nat) (ws : List Nat) : Prop where
  blk : Blk w T 41 [.pointer (some ⟨T, 0, none⟩), .slice (some ⟨W, 0, none⟩) n n]
  wd : Wd w W ws
  len : ws.length = n
  ne : T ≠ W
  pos : 1 ≤ n
  top : n ≤ 64
section
variable {w w' : World} {T W n : Nat} {ws : List Nat}
theorem Ta.keeps {S : Nat → Prop} (h : Ta w T W n ws) (k : Keeps S w w') (hT : ¬ S T) (hW : ¬ S W) : Ta w' T W n ws := ⟨Blk.keeps h.blk k hT, h.wd.keeps k hW, h.len, h.ne, h.pos, h.top⟩
theorem Ta.wrote {S : Nat → Prop} {ws' : List Nat} (h : Ta w T W n ws) (k : Keeps S w w') (hT : ¬ S T) (hd : Wd w' W ws') (hl : ws'.length = n) : Ta w' T W n ws' := ⟨Blk.keeps h.blk k hT, hd, hl, h.ne, h.pos, h.top⟩
theorem Ta.cell0 (h : Ta w T W n ws) : w.cell? ⟨T, 0, none⟩ = some (.pointer (some ⟨T, 0, none⟩)) := by rw [h.blk.cell]; rfl
theorem Ta.cell1 (h : Ta w T W n ws) : w.cell? ⟨T, 1, none⟩ = some (.slice (some ⟨W, 0, none⟩) n n) := by rw [h.blk.cell]; rfl
theorem Ta.ltT (h : Ta w T W n ws) : T < w.heap.size := h.blk.lt
theorem Ta.ltW (h : Ta w T W n ws) : W < w.heap.size := h.wd.row.lt
end
theorem ta_info : (Try.prog.info? 41).map (fun i => i.size) = some 2 := by kernel_rfl
theorem ta_self (w : World) (a : Addr) : (binOp .neq 22 (.pointer (some a)) (.pointer (some a))).run Try.prog w = .ok (.bool false) w := by
  cases hi : Try.prog.info? 41 with
  | none => have := ta_info; rw [hi] at this; cases this
  | some i => exact Lib.run_neq_ptr_same w a Try.underlying22 hi
set_option maxRecDepth 100000 in
theorem none_ (T W n : Nat) (ws : List Nat) (w : World) (h : Ta w T W n ws) : Calls Try.prog 21 #[.pointer (some ⟨T, 0, none⟩)] w fun e w' => e = .returned (.bool false) ∧ w = w' := by
  have p0 := h.cell0
  have hns := ta_self
  clear h
  go_enter Try.func21, Try.ntmps21
  go_wp2
  go_ret
  exact ⟨rfl, rfl⟩
/-- tallies that New did not make: none, or one whose cell 0 is nil -/
def Off (w : World) (p : Value) : Prop := p = .pointer none ∨ ∃ T, p = .pointer (some ⟨T, 0, none⟩) ∧ w.cell? ⟨T, 0, none⟩ = some (.pointer none)
theorem ptr_nil (w : World) : (binOp .eql 22 (.pointer none) (.pointer none)).run Try.prog w = .ok (.bool true) w := by kernel_rfl
theorem ptr_other (a : Addr) (w : World) : (binOp .neq 22 (.pointer none) (.pointer (some a))).run Try.prog w = .ok (.bool true) w := by kernel_rfl
set_option maxRecDepth 100000 in
theorem none_off (p : Value) (w : World) (h : Off w p) : Calls Try.prog 21 #[p] w fun e w' => e = .returned (.bool true) ∧ w = w' := by
  have hpn := ptr_nil
  have hpo := ptr_other
  rcases h with rfl | ⟨T, rfl, h⟩
  · go_enter Try.func21, Try.ntmps21
    go_wp2
    go_ret
    exact ⟨rfl, rfl⟩
  · go_enter Try.func21, Try.ntmps21
    go_wp2
    go_ret
    exact ⟨rfl, rfl⟩
set_option maxRecDepth 100000 in
theorem new_err (n : Int) (w : World) (h : n < 1 ∨ 64 < n) : Calls Try.prog 11 #[.int .i64 n] w fun e w' => e = .returned (.tuple #[.pointer none, .int .i64 2]) ∧ w = w' := by
  rcases h with h | h
  · go_enter Try.func11, Try.ntmps11
    go_wp2
    go_ret2
    exact ⟨rfl, rfl⟩
  · have h1 : ¬ n < 1 := by omega
    go_enter Try.func11, Try.ntmps11
    go_wp2
    go_ret2
    exact ⟨rfl, rfl⟩
theorem word_info : (Try.prog.info? 88).map (fun i => (i.zero.map Value.cells, i.size, decide (i.bytes ≤ 8))) = some (some #[.int .u64 0], 1, true) := by kernel_rfl
theorem make_words (n : Nat) (w : World) (hn : n ≤ 1100) :
    (Instr.makeSlice 39 (.int .i64 (n : Int)) (.int .i64 (n : Int))).run Try.prog w = .ok (.slice (some ⟨w.heap.size, 0, none⟩) n n) (w.alloc (.cells (madeCells #[.int .u64 0] n) 88)) := by
  obtain ⟨i0, hi0, hx⟩ := Option.map_eq_some_iff.1 word_info
  simp only [Prod.mk.injEq, decide_eq_true_eq] at hx
  obtain ⟨hz0, hsz, hby⟩ := hx
  obtain ⟨z, hz, hzc⟩ := Option.map_eq_some_iff.1 hz0
  have h := run_make (P := Try.prog) w 39 88 i0 z Try.underlying39 hi0 hz .i64 .i64 (n : Int) (n : Int) (by omega) (Int.le_refl _) (by
    have q : i0.bytes * n ≤ 8 * 1100 := Nat.mul_le_mul hby hn
    have : ((i0.bytes * n : Nat) : Int) ≤ 281474976710656 := by omega
    rwa [Int.natCast_mul] at this) (by omega)
  rw [hsz, hzc] at h
  simpa using h
theorem made_u64s (n : Nat) : (madeCells #[.int .u64 0] n).toList = u64s (List.replicate n 0) := by
  apply List.ext_getElem?
  intro i
  simp only [madeCells, u64s, Array.toList_map, Array.toList_range, List.getElem?_map, List.getElem?_replicate]
  by_cases h : i < n
  · simp [h, Nat.mod_one]
  · simp [h]
theorem u64_info : (Try.prog.info? 24).map (fun i => (i.zero, i.size, i.bytes)) = some (some (.int .u64 0), 1, 8) := by kernel_rfl
theorem make_u64 (n : Nat) (w : World) (hn : n ≤ 1100) :
    (Instr.makeSlice 29 (.int .i64 (n : Int)) (.int .i64 (n : Int))).run Try.prog w = .ok (.slice (some ⟨w.heap.size, 0, none⟩) n n) (w.alloc (.cells (madeCells #[.int .u64 0] n) 24)) := by
  obtain ⟨i0, hi0, hx⟩ := Option.map_eq_some_iff.1 u64_info
  simp only [Prod.mk.injEq] at hx
  obtain ⟨hz, hsz, hby⟩ := hx
  have h := run_make (P := Try.prog) w 29 24 i0 _ Try.underlying29 hi0 hz .i64 .i64 (n : Int) (n : Int) (by omega) (Int.le_refl _) (by rw [hby]; omega) (by omega)
  rw [hsz] at h
  exact (by simpa using h : _ = Result.ok (Value.slice (some ⟨w.heap.size, 0, none⟩) n n) (w.alloc (.cells (madeCells (Value.int IntKind.u64 0).cells n) 24)))
theorem repl_small (n : Nat) : ∀ x ∈ List.replicate n 0, x < 18446744073709551616 := fun x hx => by have := (List.mem_replicate.1 hx).2; omega
set_option maxRecDepth 100000 in
set_option maxHeartbeats 2000000 in
theorem new_ok (n : Nat) (w : World) (h1 : 1 ≤ n) (h2 : n ≤ 64) : Calls Try.prog 11 #[.int .i64 (n : Int)] w fun e w' => ∃ T W, e = .returned (.tuple #[.pointer (some ⟨T, 0, none⟩), .int .i64 0]) ∧ Ta w' T W n (List.replicate n 0) ∧ w.heap.size ≤ T ∧ w.heap.size ≤ W ∧ ∀ S, Keeps S w w' := by
  have hmk := make_words n w (by omega)
  obtain ⟨w1, hw1⟩ : ∃ w1, w1 = w.alloc (.cells (madeCells #[.int .u64 0] n) 88) := ⟨_, rfl⟩
  have b1 : Blk w1 w.heap.size 88 (u64s (List.replicate n 0)) := by
    have q := Blk.new w 88 (madeCells #[.int .u64 0] n)
    rw [made_u64s, ← hw1] at q
    exact q
  have k1 : ∀ S, Keeps S w w1 := fun S => by rw [hw1]; exact (Keeps.refl _ w).alloc _
  have z1 : w1.heap.size = w.heap.size + 1 := by rw [hw1]; simp
  rw [← hw1] at hmk
  have B1 := Lib.hid b1
  have K1 : Hid (∀ S, Keeps S w w1) := Lib.hid k1
  have Z1 := Lib.hid z1
  have HN := Lib.hid (And.intro h1 h2)
  have hi1 : (n : Int) ≤ 64 := by omega
  have hi0 : (1 : Int) ≤ (n : Int) := by omega
  clear hw1 b1 k1 z1 h1 h2
  go_enter Try.func11, Try.ntmps11
  go_wp2
  go_ret2
  have b2 := Blk.new w1 41 #[.pointer (some ⟨w1.heap.size, 0, none⟩), .slice (some ⟨w.heap.size, 0, none⟩) n n]
  refine ⟨w1.heap.size, w.heap.size, rfl, ⟨b2, ⟨B1.out.alloc _, repl_small n⟩, by simp, by have := Z1.out; omega, HN.out.1, HN.out.2⟩, by have := Z1.out; omega, Nat.le_refl _, fun S => (K1.out S).alloc _⟩
section
variable (T W n N : Nat) (ws : List Nat) (gv : Value) (ms : List (Nat × Nat)) (F : Nat → Prop) (w : World)
set_option maxRecDepth 100000 in
set_option maxHeartbeats 1000000 in
theorem tadd_ (k x : Nat) (h : Ta w T W n ws) (hg : GF w gv N ms F) (hl : ms.length < 1000000) (hT : ¬ F T) (hW : ¬ F W) (hk : k < n) :
    Calls Try.prog 6 #[.pointer (some ⟨T, 0, none⟩), gv, .int .i64 (k : Int), .int .u64 (x : Int)] w fun e w' => e = .returned (.tuple #[.int .u64 (((ws[k]?.getD 0 + x) % W64 : Nat) : Int), .int .i64 0]) ∧ Ta w' T W n (ws.set k ((ws[k]?.getD 0 + x) % W64)) ∧ GF w' gv N (ms ++ [(3, k)]) (Grown w w' F) ∧ Keeps (fun b => b = W ∨ F b) w w' := by
  have HN := Lib.hid (none_ T W n ws w h)
  have HA := Lib.hid (add_ W n k N ws gv ms F w x h.wd h.len hg hl hk hW h.ltW)
  have c1 := h.cell1
  have HH := Lib.hid h
  have HF : Hid (¬ F T) := Lib.hid hT
  have i0 : ¬ ((k : Int) < 0) := by omega
  have i1 : (k : Int) < (n : Int) := by omega
  clear h hg hl hT hW hk
  generalize (ws[k]?.getD 0 + x) % W64 = t at *
  go_enter Try.func6, Try.ntmps6
  go_wp2_with fail
  refine HN.out.mono ?_
  rintro e w1 ⟨rfl, rfl⟩
  go_wp2_with fail
  refine HA.out.mono ?_
  rintro e w1 ⟨rfl, hd, hg, hk⟩
  have HD := Lib.hid hd
  have HG := Lib.hid hg
  have HK := Lib.hid hk
  clear hd hg hk
  go_wp2
  go_ret2
  exact ⟨rfl, HH.out.wrote HK.out (fun z => by rcases z with z | z; exact HH.out.ne z; exact HF.out z) HD.out (by simp [HH.out.len]), HG.out, HK.out⟩
set_option maxRecDepth 100000 in
theorem tadd_err (k x : Int) (h : Ta w T W n ws) (hk : k < 0 ∨ (n : Int) ≤ k) :
    Calls Try.prog 6 #[.pointer (some ⟨T, 0, none⟩), gv, .int .i64 k, .int .u64 x] w fun e w' => e = .returned (.tuple #[.int .u64 0, .int .i64 5]) ∧ w = w' := by
  have HN := Lib.hid (none_ T W n ws w h)
  have c1 := h.cell1
  clear h
  rcases hk with hk | hk
  · go_enter Try.func6, Try.ntmps6
    go_wp2_with fail
    refine HN.out.mono ?_
    rintro e w1 ⟨rfl, rfl⟩
    go_wp2_with fail
    go_ret2
    exact ⟨rfl, rfl⟩
  · have h0 : ¬ k < 0 := by omega
    go_enter Try.func6, Try.ntmps6
    go_wp2_with fail
    refine HN.out.mono ?_
    rintro e w1 ⟨rfl, rfl⟩
    go_wp2_with fail
    go_ret2
    exact ⟨rfl, rfl⟩
set_option maxRecDepth 100000 in
theorem tadd_off (p : Value) (k x : Int) (h : Off w p) :
    Calls Try.prog 6 #[p, gv, .int .i64 k, .int .u64 x] w fun e w' => e = .returned (.tuple #[.int .u64 0, .int .i64 1]) ∧ w = w' := by
  have HN := Lib.hid (none_off p w h)
  clear h
  go_enter Try.func6, Try.ntmps6
  go_wp2_with fail
  refine HN.out.mono ?_
  rintro e w1 ⟨rfl, rfl⟩
  go_wp2_with fail
  go_ret2
  exact ⟨rfl, rfl⟩
set_option maxRecDepth 100000 in
theorem parts_off (p : Value) (h : Off w p) :
    Calls Try.prog 8 #[p, gv] w fun e w' => e = .returned (.tuple #[.slice none 0 0, .int .i64 1]) ∧ w = w' := by
  have HN := Lib.hid (none_off p w h)
  clear h
  go_enter Try.func8, Try.ntmps8
  go_wp2_with fail
  refine HN.out.mono ?_
  rintro e w1 ⟨rfl, rfl⟩
  go_wp2_with fail
  go_ret2
  exact ⟨rfl, rfl⟩
end
/-- what Parts has read behind k Loads -/
def got (ws : List Nat) (n k : Nat) : List Nat := ws.take k ++ List.replicate (n - k) 0
theorem got_zero (ws : List Nat) (n : Nat) : got ws n 0 = List.replicate n 0 := by simp [got]
theorem u64s_len67 (ws : List Nat) : (u64s (got ws 67 0)).length = 67 := by simp [got, u64s]
theorem got_all {ws : List Nat} {n : Nat} (h : ws.length = n) : got ws n n = ws := by simp [got, ← h]
theorem got_set {ws : List Nat} {n k : Nat} (h : k < ws.length) (hk : k < n) : (got ws n k).set k (ws[k]?.getD 0) = got ws n (k + 1) := by
  obtain ⟨m, hm⟩ : ∃ m, n - k = m + 1 := ⟨n - k - 1, by omega⟩
  unfold got
  rw [List.set_append_right _ _ (by simp; omega), hm, show n - (k + 1) = m from by omega, List.take_add_one]
  have e : k - (ws.take k).length = 0 := by simp; omega
  rw [e, List.replicate_succ, List.set_cons_zero, List.getElem?_eq_getElem (by omega)]
  simp only [Option.getD_some, Option.toList_some, List.append_assoc, List.cons_append, List.nil_append]
set_option maxRecDepth 100000 in
set_option maxHeartbeats 2000000 in
theorem parts_ (T W n : Nat) (ws : List Nat) (w : World) (h : Ta w T W n ws) :
    Calls Try.prog 8 #[.pointer (some ⟨T, 0, none⟩), .nilIface] w fun e w' => e = .returned (.tuple #[.slice (some ⟨w.heap.size, 0, none⟩) n n, .int .i64 0]) ∧ Blk w' w.heap.size 24 (u64s ws) ∧ ∀ S, Keeps S w w' := by
  have HN := Lib.hid (none_ T W n ws w h)
  have c1 := h.cell1
  have hmk := make_u64 n w (by have := h.top; omega)
  obtain ⟨w1, hw1⟩ : ∃ w1, w1 = w.alloc (.cells (madeCells #[.int .u64 0] n) 24) := ⟨_, rfl⟩
  have b1 : Blk w1 w.heap.size 24 (u64s (got ws n 0)) := by
    have q := Blk.new w 24 (madeCells #[.int .u64 0] n)
    rw [made_u64s, ← hw1, ← got_zero ws n] at q
    exact q
  have k1 : ∀ S, Keeps S w w1 := fun S => by rw [hw1]; exact (Keeps.refl _ w).alloc _
  rw [← hw1] at hmk
  have HH := Lib.hid h
  have B1 := Lib.hid b1
  have K1 : Hid (∀ S, Keeps S w w1) := Lib.hid k1
  have hn0 : (0 : Int) ≤ (n : Int) := by omega
  have hn1 : (n : Int) ≤ 64 := by have := h.top; omega
  have HP : Hid (T < w.heap.size ∧ W < w.heap.size) := Lib.hid ⟨h.ltT, h.ltW⟩
  clear hw1 b1 k1 h
  generalize hP : w.heap.size = P at *
  go_enter Try.func8, Try.ntmps8
  go_wp2_with fail
  refine HN.out.mono ?_
  rintro e w' ⟨rfl, rfl⟩
  go_wp2_with fail
  go_loopw [18] (fun i wr => ∃ k : Nat, k ≤ n ∧ i = .int .i64 (k : Int) ∧ Blk wr P 24 (u64s (got ws n k)) ∧ Keeps (fun b => P ≤ b) w wr) (fun i _ => n - (intOf i).toNat)
  case atStart => exact ⟨0, Nat.zero_le _, rfl, B1.out, K1.out _⟩
  case round =>
    clear B1 K1 hmk c1
    obtain ⟨k, hk, rfl, hb, hkk⟩ := hrel
    have hp := HP.out
    have t1 := HH.out.keeps hkk (by omega) (by omega)
    have c1 := t1.cell1
    have HB := Lib.hid hb
    have HK := Lib.hid hkk
    by_cases hlt : k < n
    · have hlt' : (k : Int) < (n : Int) := by omega
      have HL := Lib.hid (load_ W n k 0 ws .nilIface [] (fun _ => False) wr t1.wd t1.len (GF.nil_ _ _ _ _) (by simp) hlt (fun z => z))
      have HS := Lib.hid (got_set (by rw [HH.out.len]; exact hlt) hlt)
      have HE : Hid ((got ws n k).length = n) := Lib.hid (by simp [got, HH.out.len]; omega)
      clear hb hkk t1 hp
      go_wp2_with fail
      refine HL.out.mono ?_
      rintro e w2 ⟨rfl, -, k2⟩
      have b2 := Blk.keeps HB.out k2 (fun z => z)
      have c2 : w2.cell? ⟨P, k, none⟩ = some (.int .u64 (((got ws n k)[k]?.getD 0 : Nat) : Int)) := by
        rw [b2.cell]
        have : (got ws n k)[k]? = some ((got ws n k)[k]?.getD 0) := by rw [List.getElem?_eq_getElem (by have := HE.out; omega)]; rfl
        rw [u64s, List.getElem?_map, this]; rfl
      have f2 := b2.frozen k
      have B2 := Lib.hid b2
      have K2 := Lib.hid k2
      clear b2 k2 HL
      go_wp2_with fail
      go_roundw
      case rel =>
        refine ⟨k + 1, by omega, by go_num, ?_, (HK.out.trans (K2.out.mono (fun _ _ z => z.elim))).trans ((Keeps.here _).mono (fun b _ e => by subst e; exact Nat.le_refl _))⟩
        have := B2.out.put k (.int .u64 ((ws[k]?.getD 0 : Nat) : Int))
        rwa [show (u64s (got ws n k)).set k (.int .u64 ((ws[k]?.getD 0 : Nat) : Int)) = u64s (got ws n (k + 1)) from by rw [← HS.out]; simp [u64s, List.map_set]] at this
      case measure => simp [intOf]; omega
    · obtain rfl : k = n := by omega
      go_wp2_with fail
      go_ret2
      refine ⟨rfl, by have := HB.out; rwa [got_all HH.out.len] at this, fun S => (HK.out.only (fun b hb => by omega)).mono (fun _ _ z => z.elim)⟩
end Go.Proofs.Ytekglcphdjjmcaa.ta
