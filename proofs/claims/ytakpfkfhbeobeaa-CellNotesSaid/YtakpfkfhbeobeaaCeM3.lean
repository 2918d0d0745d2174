/-
  cell's boxes of a uint32. cell's boxes of a uint32: NewBox, Put, Try. cell's flags.
-/
import Derived.Test.YtakpfkfhbeobeaaCeM2
import Derived.Test.YtakpfkfhbeobeaaAtP
import Derived.Deep.QuietTactic
import Derived.BigQuiet
import Derived.Deep.LoopGhost
import Derived.Test.YtakpfkfhbeobeaaCeM1
set_option linter.unusedVariables false
namespace Go.Proofs.Ytakpfkfhbeobeaa.ce
open Go.RowKit Go.Proofs.Ytakpfkfhbeobeaa.oc Go.Proofs.Ytakpfkfhbeobeaa.mz
/-- a box at block C, its entry at block E: value v, number n -/
def Bx (w : World) (C E v n : Nat) : Prop := Blk w C 118 [.pointer (some ⟨C, 0, none⟩), .pointer (some ⟨E, 0, none⟩)] ∧ Blk w E 121 [.int .u32 (v : Int), .int .u64 (n : Int)] ∧ n < 18446744073709551616 ∧ C ≠ E
theorem Bx.keeps {w w' : World} {C E v n : Nat} {S : Nat → Prop} (h : Bx w C E v n) (k : Keeps S w w') (hc : ¬ S C) (he : ¬ S E) : Bx w' C E v n := ⟨Blk.keeps h.1 k hc, Blk.keeps h.2.1 k he, h.2.2⟩
/-- what a call on a box leaves -/
def BPost (C v n : Nat) (gv : Value) (ms : List (Nat × Nat)) (F : Nat → Prop) (w w' : World) : Prop := ∃ E F', Bx w' C E v n ∧ Gate w' gv ms F' ∧ ¬ F' C ∧ ¬ F' E ∧ (∀ b, F' b → Grown w w' F b) ∧ Keeps (fun b => F b ∨ b = C) w w'
theorem box_info : (Try.prog.info? 118).map (fun i => i.size) = some 2 := by kernel_rfl
theorem box_self (w : World) (a : Addr) : (binOp .neq 29 (.pointer (some a)) (.pointer (some a))).run Try.prog w = .ok (.bool false) w := by
  cases hi : Try.prog.info? 118 with
  | none => have := box_info; rw [hi] at this; cases this
  | some i => exact Lib.run_neq_ptr_same w a Try.underlying29 hi
set_option maxRecDepth 100000 in
set_option maxHeartbeats 1000000 in
theorem box_none (C E v n : Nat) (w : World) (h : Bx w C E v n) : Calls Try.prog 59 #[.pointer (some ⟨C, 0, none⟩)] w fun e w' => e = .returned (.bool false) ∧ w = w' := by
  have p0 : w.cell? ⟨C, 0, none⟩ = some (.pointer (some ⟨C, 0, none⟩)) := by rw [h.1.cell]; rfl
  have hns := box_self
  clear h
  go_enter Try.func59, Try.ntmps59
  go_wp2
  go_ret
  exact ⟨rfl, rfl⟩
set_option maxRecDepth 100000 in
set_option maxHeartbeats 1000000 in
theorem box_get (C E v n : Nat) (gv : Value) (w : World) (ms : List (Nat × Nat)) (F : Nat → Prop) (h : Bx w C E v n) (hg : Gate w gv ms F) (hl : ms.length < 1000000) (hC : ¬ F C) (hE : ¬ F E) :
    Calls Try.prog 39 #[.pointer (some ⟨C, 0, none⟩), gv] w fun e w' => e = .returned (.tuple #[.int .u32 v, .int .u64 n, .int .i64 0]) ∧ BPost C v n gv (ms ++ [(1, 0)]) F w w' := by
  have HC := Lib.hid (box_none C E v n w h)
  have HT := Lib.hid (gate_tell gv 1 w ms F hg hl)
  have HV := Lib.hid h
  clear h hg
  go_enter Try.func39, Try.ntmps39
  go_wp2_with fail
  refine HC.out.mono ?_
  rintro e w1 ⟨rfl, rfl⟩
  go_wp2_with fail
  refine HT.out.mono ?_
  rintro e w1 ⟨rfl, h1, h2⟩
  have H1 := Lib.hid h1
  have H2 := Lib.hid h2
  have hb := HV.out.keeps h2 hC hE
  have HB := Lib.hid hb
  have HL := Lib.hid (at_.p32_load C 1 E (.int .u32 v) (.int .u64 n) w1 (by rw [hb.1.cell]; rfl) hb.2.1)
  have c0 : w1.cell? ⟨E, 0, none⟩ = some (.int .u32 (v : Int)) := by rw [hb.2.1.cell]; rfl
  have c1 : w1.cell? ⟨E, 1, none⟩ = some (.int .u64 (n : Int)) := by rw [hb.2.1.cell]; rfl
  clear h1 h2 hb
  go_wp2_with fail
  refine HL.out.mono ?_
  rintro e w2 ⟨rfl, rfl⟩
  go_wp2_with fail
  go_quiet (fail)
  go_wp2
  go_ret3
  have hCl := HV.out.1.lt
  have hEl := HV.out.2.1.lt
  refine ⟨rfl, E, Grown w w1 F, ?_, ?_, fun z => ?_, fun z => ?_, fun b hb => ?_, ?_⟩
  · exact HB.out.keeps (Keeps.drewN (Keeps.refl (fun _ => False) _) _) id id
  · exact H1.out.keeps (Keeps.drewN (Keeps.refl (fun _ => False) _) _) (fun _ _ => id)
  · rcases z with z | z
    · exact hC z
    · omega
  · rcases z with z | z
    · exact hE z
    · omega
  · exact hb
  · exact Keeps.drewN (H2.out.mono fun _ _ z => Or.inl z) _
set_option maxRecDepth 100000 in
set_option maxHeartbeats 1000000 in
theorem box_swap (C E v n v2 : Nat) (gv : Value) (w : World) (ms : List (Nat × Nat)) (F : Nat → Prop) (h : Bx w C E v n) (hg : Gate w gv ms F) (hl : ms.length < 1000000) (hC : ¬ F C) (hE : ¬ F E) (hF : ∀ b, F b → b < w.heap.size) :
    Calls Try.prog 61 #[.pointer (some ⟨C, 0, none⟩), gv, .pointer (some ⟨E, 0, none⟩), .int .u32 (v2 : Int)] w fun e w' => e = .returned (.bool true) ∧ BPost C v2 ((n + 1) % W64) gv (ms ++ [(5, 0)]) F w w' := by
  have hC0 := h.1.lt
  have hE0 := h.2.1.lt
  have c1 : w.cell? ⟨E, 1, none⟩ = some (.int .u64 (n : Int)) := by rw [h.2.1.cell]; rfl
  have hs : IntKind.u64.wrap ((n : Int) + 1) = (((n + 1) % W64 : Nat) : Int) := by rw [W64_eq, wrap_u64]; omega
  have he : (((n + 1) % W64 : Nat) : Int) = ((n : Int) + 1) % (W64 : Int) := by simp
  obtain ⟨w0, hw0⟩ : ∃ w0, w0 = w.alloc (.cells #[.int .u32 (v2 : Int), .int .u64 (((n : Int) + 1) % (W64 : Int))] 121) := ⟨_, rfl⟩
  have k0 : Keeps (fun _ => False) w w0 := by rw [hw0]; exact (Keeps.refl _ w).alloc _
  have s0 : w0.heap.size = w.heap.size + 1 := by rw [hw0]; show (w.heap.push _).size = _; simp
  have b0 : Blk w0 w.heap.size 121 [.int .u32 (v2 : Int), .int .u64 (((n + 1) % W64 : Nat) : Int)] := by rw [hw0, he]; exact Blk.new w _ _
  have HT := Lib.hid (gate_tell gv 5 w0 ms F (hg.keeps k0 (fun _ _ => id)) hl)
  have HV := Lib.hid (h.keeps k0 id id)
  have HW := Lib.hid hw0
  have K0 := Lib.hid k0
  have B0 := Lib.hid b0
  have nF : ¬ F w.heap.size := fun z => by have := hF _ z; omega
  have HN : Hid (C ≠ E) := Lib.hid h.2.2.2
  clear h hg hw0 k0 b0
  go_enter Try.func61, Try.ntmps61
  go_wp2_with fail
  rw [← HW.out]
  refine HT.out.mono ?_
  rintro e w1 ⟨rfl, h1, h2⟩
  have H1 := Lib.hid h1
  have H2 := Lib.hid h2
  have hb := HV.out.keeps h2 hC hE
  have HB := Lib.hid hb
  have hn := Blk.keeps B0.out h2 nF
  have HNB := Lib.hid hn
  have HL := Lib.hid (at_.p32_cas C 1 E w.heap.size _ _ _ _ w1 (by rw [hb.1.cell]; rfl) (hb.1.frozen 1) hb.2.1 hn)
  clear h1 h2 hb hn
  go_wp2_with fail
  refine HL.out.mono ?_
  rintro e w2 ⟨rfl, rfl⟩
  go_wp2
  go_ret
  have kC : Keeps (· = C) w1 (w1.setCell ⟨C, 1, none⟩ (.pointer (some ⟨w.heap.size, 0, none⟩))) := (Keeps.refl (· = C) w1).setCell (p := ⟨C, 1, none⟩) (.inl rfl) _
  have z2 := H2.out.size
  have zC := kC.size
  have hne : C ≠ w.heap.size := by omega
  refine ⟨rfl, w.heap.size, Grown w0 w1 F, ⟨?_, ?_, mod_lt64 _, hne⟩, H1.out.keeps kC (fun b hb e => ?_), fun z => ?_, fun z => ?_, fun b hb => ?_, ?_⟩
  · have := Blk.put HB.out.1 1 (.pointer (some ⟨w.heap.size, 0, none⟩)); simpa using this
  · exact Blk.keeps HNB.out kC (fun e => hne e.symm)
  · subst e
    rcases hb with q | q
    · exact hC q
    · omega
  · rcases z with z | z
    · exact hC z
    · omega
  · rcases z with z | z
    · exact nF z
    · omega
  · rcases hb with z | z
    · exact .inl z
    · exact .inr ⟨by omega, by omega⟩
  · exact ((K0.out.mono fun _ _ z => z.elim).trans (H2.out.mono fun _ _ z => .inl z)).trans (kC.mono fun _ _ z => .inr z)
end Go.Proofs.Ytakpfkfhbeobeaa.ce
set_option linter.unusedVariables false
namespace Go.Proofs.Ytakpfkfhbeobeaa.ce
open Go.RowKit Go.Proofs.Ytakpfkfhbeobeaa.oc Go.Proofs.Ytakpfkfhbeobeaa.mz
set_option maxRecDepth 100000 in
set_option maxHeartbeats 1000000 in
theorem new_box (v : Nat) (w : World) : Calls Try.prog 17 #[.int .u32 (v : Int)] w fun e w' => e = .returned (.pointer (some ⟨w.heap.size, 0, none⟩)) ∧ Bx w' w.heap.size (w.heap.size + 1) v 0 ∧ (∀ S, Keeps S w w') ∧ w'.heap.size = w.heap.size + 2 := by
  obtain ⟨w1, hw1⟩ : ∃ w1, w1 = (w.alloc (.cells #[.pointer (some ⟨w.heap.size, 0, none⟩), .pointer none] 118)).alloc (.cells #[.int .u32 (v : Int), .int .u64 0] 121) := ⟨_, rfl⟩
  have sA : (w.alloc (.cells #[.pointer (some ⟨w.heap.size, 0, none⟩), .pointer none] 118)).heap.size = w.heap.size + 1 := by show (w.heap.push _).size = _; simp
  have s1 : w1.heap.size = w.heap.size + 2 := by rw [hw1]; show (Array.push _ _).size = _; rw [Array.size_push, sA]
  have b1 : Blk w1 w.heap.size 118 [.pointer (some ⟨w.heap.size, 0, none⟩), .pointer none] := by rw [hw1]; exact (Blk.new w _ #[_, _]).alloc _
  have b2 : Blk w1 (w.heap.size + 1) 121 [.int .u32 (v : Int), .int .u64 0] := by
    rw [hw1]; have := Blk.new (w.alloc (.cells #[.pointer (some ⟨w.heap.size, 0, none⟩), .pointer none] 118)) 121 #[.int .u32 (v : Int), .int .u64 0]; rwa [sA] at this
  have k1 : ∀ S, Keeps S w w1 := fun S => by rw [hw1]; exact ((Keeps.refl S w).alloc _).alloc _
  have HL := Lib.hid (at_.p32_store w.heap.size 1 (w.heap.size + 1) (.pointer none) _ _ w1 (by rw [b1.cell]; rfl) (b1.frozen 1) b2)
  have HW := Lib.hid hw1
  have B1 := Lib.hid b1
  have B2 := Lib.hid b2
  have K1 := Lib.hid k1
  clear hw1 b1 b2 k1 sA
  go_enter Try.func17, Try.ntmps17
  go_wp2_with fail
  rw [← HW.out]
  refine HL.out.mono ?_
  rintro e w2 ⟨rfl, rfl⟩
  go_wp2
  go_ret
  have kC : Keeps (· = w.heap.size) w1 (w1.setCell ⟨w.heap.size, 1, none⟩ (.pointer (some ⟨w.heap.size + 1, 0, none⟩))) := (Keeps.refl (· = w.heap.size) w1).setCell (p := ⟨w.heap.size, 1, none⟩) (.inl rfl) _
  refine ⟨rfl, ⟨?_, Blk.keeps B2.out kC (fun e => by omega), by omega, by omega⟩, fun S => ?_, ?_⟩
  · have := Blk.put B1.out 1 (.pointer (some ⟨w.heap.size + 1, 0, none⟩)); simpa using this
  · exact (K1.out S).setCell (p := ⟨w.heap.size, 1, none⟩) (.inr (Nat.le_refl _)) _
  · rw [← s1]; show (w1.heap.modify _ _).size = _; simp
theorem bpost_from {w w1 w' : World} {C v n : Nat} {gv : Value} {ms : List (Nat × Nat)} {F : Nat → Prop} (k : Keeps F w w1) (hC : C < w.heap.size) (h : BPost C v n gv ms (Grown w w1 F) w1 w') : BPost C v n gv ms F w w' := by
  obtain ⟨E, F', h1, h2, h3, h4, h5, h6⟩ := h
  have z := k.size
  have z' := h6.size
  refine ⟨E, F', h1, h2, h3, h4, fun b hb => ?_, ⟨by omega, fun b hb hs => ?_, k.same.trans h6.same⟩⟩
  · rcases h5 b hb with (q | q) | q
    · exact .inl q
    · exact .inr ⟨q.1, by omega⟩
    · exact .inr ⟨by omega, q.2⟩
  · rw [h6.block b (by omega) (fun e => ?_), k.block b hb (fun e => hs (.inl e))]
    rcases e with (q | q) | q
    · exact hs (.inl q)
    · omega
    · exact hs (.inr q)
set_option maxRecDepth 100000 in
set_option maxHeartbeats 1000000 in
theorem box_put (C E v n v2 : Nat) (gv : Value) (w : World) (ms : List (Nat × Nat)) (F : Nat → Prop) (h : Bx w C E v n) (hg : Gate w gv ms F) (hl : ms.length < 999999) (hC : ¬ F C) (hE : ¬ F E) (hF : ∀ b, F b → b < w.heap.size) :
    Calls Try.prog 38 #[.pointer (some ⟨C, 0, none⟩), gv, .int .u32 (v2 : Int)] w fun e w' => e = .returned (.tuple #[.int .u64 ((n + 1) % W64 : Nat), .int .i64 0]) ∧ BPost C v2 ((n + 1) % W64) gv (ms ++ [(1, 0)] ++ [(5, 0)]) F w w' := by
  have HC := Lib.hid (box_none C E v n w h)
  have HT := Lib.hid (gate_tell gv 1 w ms F hg (by omega))
  have HV := Lib.hid h
  have hs : IntKind.u64.wrap ((n : Int) + 1) = (((n + 1) % W64 : Nat) : Int) := by rw [W64_eq, wrap_u64]; omega
  have hC0 := h.1.lt
  have hE0 := h.2.1.lt
  clear h hg
  go_enter Try.func38, Try.ntmps38
  go_wp2_with fail
  go_step3
  go_wp2_with fail
  refine HC.out.mono ?_
  rintro e w1 ⟨rfl, rfl⟩
  go_wp2_with fail
  go_step3
  go_wp2_with fail
  refine wp_loop_rounds 1 ?_
  rw [rounds_succ]
  go_wp2_with fail
  refine HT.out.mono ?_
  rintro e w1 ⟨rfl, h1, h2⟩
  have hb := HV.out.keeps h2 hC hE
  have z2 := h2.size
  have HB := Lib.hid hb
  have HL := Lib.hid (at_.p32_load C 1 E (.int .u32 v) (.int .u64 n) w1 (by rw [hb.1.cell]; rfl) hb.2.1)
  have nC : ¬ Grown w w1 F C := fun z => by rcases z with z | z; exact hC z; omega
  have nE : ¬ Grown w w1 F E := fun z => by rcases z with z | z; exact hE z; omega
  have HS := Lib.hid (box_swap C E v n v2 gv w1 (ms ++ [(1, 0)]) (Grown w w1 F) hb h1 (by simp; omega) nC nE (fun b z => by rcases z with z | z; have := hF b z; omega; exact z.2))
  have H2 := Lib.hid h2
  clear h1 h2 hb
  go_wp2_with fail
  refine HL.out.mono ?_
  rintro e w2 ⟨rfl, rfl⟩
  go_wp2_with fail
  refine HS.out.mono ?_
  rintro e w3 ⟨rfl, h3⟩
  have H3 := Lib.hid h3
  obtain ⟨E', F', g1, g2, g3, g4, g5, g6⟩ := h3
  have c1 : w3.cell? ⟨E, 1, none⟩ = some (.int .u64 (n : Int)) := by rw [(Blk.keeps HB.out.2.1 g6 (fun e => by rcases e with e | e; exact nE e; exact HB.out.2.2.2 e.symm)).cell]; rfl
  clear g1 g2 g3 g4 g5 g6
  go_wp2
  try rw [Exit.noGoto_ret]
  go_ret2
  exact ⟨by simp, bpost_from H2.out hC0 H3.out⟩
set_option maxRecDepth 100000 in
set_option maxHeartbeats 1000000 in
theorem box_try_yes (C E v n v2 : Nat) (gv : Value) (w : World) (ms : List (Nat × Nat)) (F : Nat → Prop) (h : Bx w C E v n) (hg : Gate w gv ms F) (hl : ms.length < 999999) (hC : ¬ F C) (hE : ¬ F E) (hF : ∀ b, F b → b < w.heap.size) :
    Calls Try.prog 52 #[.pointer (some ⟨C, 0, none⟩), gv, .int .u64 (n : Int), .int .u32 (v2 : Int)] w fun e w' => e = .returned (.tuple #[.bool true, .int .i64 0]) ∧ BPost C v2 ((n + 1) % W64) gv (ms ++ [(1, 0)] ++ [(5, 0)]) F w w' := by
  have HC := Lib.hid (box_none C E v n w h)
  have HT := Lib.hid (gate_tell gv 1 w ms F hg (by omega))
  have HV := Lib.hid h
  have hC0 := h.1.lt
  have hE0 := h.2.1.lt
  clear h hg
  go_enter Try.func52, Try.ntmps52
  go_wp2_with fail
  refine HC.out.mono ?_
  rintro e w1 ⟨rfl, rfl⟩
  go_wp2_with fail
  refine HT.out.mono ?_
  rintro e w1 ⟨rfl, h1, h2⟩
  have hb := HV.out.keeps h2 hC hE
  have z2 := h2.size
  have HL := Lib.hid (at_.p32_load C 1 E (.int .u32 v) (.int .u64 n) w1 (by rw [hb.1.cell]; rfl) hb.2.1)
  have nC : ¬ Grown w w1 F C := fun z => by rcases z with z | z; exact hC z; omega
  have nE : ¬ Grown w w1 F E := fun z => by rcases z with z | z; exact hE z; omega
  have HS := Lib.hid (box_swap C E v n v2 gv w1 (ms ++ [(1, 0)]) (Grown w w1 F) hb h1 (by simp; omega) nC nE (fun b z => by rcases z with z | z; have := hF b z; omega; exact z.2))
  have H2 := Lib.hid h2
  have c1 : w1.cell? ⟨E, 1, none⟩ = some (.int .u64 (n : Int)) := by rw [hb.2.1.cell]; rfl
  clear h1 h2 hb
  go_wp2_with fail
  refine HL.out.mono ?_
  rintro e w2 ⟨rfl, rfl⟩
  go_wp2_with fail
  refine HS.out.mono ?_
  rintro e w3 ⟨rfl, h3⟩
  have H3 := Lib.hid h3
  clear h3
  go_wp2
  go_ret2
  exact ⟨rfl, bpost_from H2.out hC0 H3.out⟩
set_option maxRecDepth 100000 in
set_option maxHeartbeats 1000000 in
theorem box_try_no (C E v n m v2 : Nat) (gv : Value) (w : World) (ms : List (Nat × Nat)) (F : Nat → Prop) (h : Bx w C E v n) (hg : Gate w gv ms F) (hl : ms.length < 999999) (hC : ¬ F C) (hE : ¬ F E) (hm : ¬ n = m) :
    Calls Try.prog 52 #[.pointer (some ⟨C, 0, none⟩), gv, .int .u64 (m : Int), .int .u32 (v2 : Int)] w fun e w' => e = .returned (.tuple #[.bool false, .int .i64 0]) ∧ BPost C v n gv (ms ++ [(1, 0)]) F w w' := by
  have HC := Lib.hid (box_none C E v n w h)
  have HT := Lib.hid (gate_tell gv 1 w ms F hg (by omega))
  have HV := Lib.hid h
  have hC0 := h.1.lt
  have hE0 := h.2.1.lt
  have hm' : ¬ (n : Int) = (m : Int) := by omega
  clear h hg
  go_enter Try.func52, Try.ntmps52
  go_wp2_with fail
  refine HC.out.mono ?_
  rintro e w1 ⟨rfl, rfl⟩
  go_wp2_with fail
  refine HT.out.mono ?_
  rintro e w1 ⟨rfl, h1, h2⟩
  have hb := HV.out.keeps h2 hC hE
  have HL := Lib.hid (at_.p32_load C 1 E (.int .u32 v) (.int .u64 n) w1 (by rw [hb.1.cell]; rfl) hb.2.1)
  have H1 := Lib.hid h1
  have H2 := Lib.hid h2
  have HB := Lib.hid hb
  have c1 : w1.cell? ⟨E, 1, none⟩ = some (.int .u64 (n : Int)) := by rw [hb.2.1.cell]; rfl
  clear h1 h2 hb
  go_wp2_with fail
  refine HL.out.mono ?_
  rintro e w2 ⟨rfl, rfl⟩
  go_wp2
  go_ret2
  refine ⟨rfl, E, Grown w w1 F, HB.out, H1.out, fun z => ?_, fun z => ?_, fun b hb => hb, H2.out.mono fun _ _ z => .inl z⟩
  · rcases z with z | z
    · exact hC z
    · omega
  · rcases z with z | z
    · exact hE z
    · omega
end Go.Proofs.Ytakpfkfhbeobeaa.ce
set_option linter.unusedVariables false
namespace Go.Proofs.Ytakpfkfhbeobeaa.ce
open Go.RowKit Go.Proofs.Ytakpfkfhbeobeaa.oc Go.Proofs.Ytakpfkfhbeobeaa.mz
/-- a flag at block C; x: is it set -/
def Flg (w : World) (C : Nat) (x : Int) : Prop := Blk w C 111 [.pointer (some ⟨C, 0, none⟩), .int .u64 x]
set_option maxRecDepth 100000 in
set_option maxHeartbeats 1000000 in
theorem new_flag (w : World) : Calls Try.prog 16 #[] w fun e w' => e = .returned (.pointer (some ⟨w.heap.size, 0, none⟩)) ∧ Flg w' w.heap.size 0 ∧ ∀ S, Keeps S w w' := by
  go_enter Try.func16, Try.ntmps16
  go_wp2
  go_ret
  refine ⟨rfl, Blk.new w 111 #[.pointer (some ⟨w.heap.size, 0, none⟩), .int .u64 0], fun S => ?_⟩
  exact (Keeps.refl S w).alloc _
theorem flg_info : (Try.prog.info? 111).map (fun i => i.size) = some 2 := by kernel_rfl
theorem flg_self (w : World) (a : Addr) : (binOp .neq 28 (.pointer (some a)) (.pointer (some a))).run Try.prog w = .ok (.bool false) w := by
  cases hi : Try.prog.info? 111 with
  | none => have := flg_info; rw [hi] at this; cases this
  | some i => exact Lib.run_neq_ptr_same w a Try.underlying28 hi
set_option maxRecDepth 100000 in
set_option maxHeartbeats 1000000 in
theorem flg_none (C : Nat) (x : Int) (w : World) (h : Flg w C x) : Calls Try.prog 57 #[.pointer (some ⟨C, 0, none⟩)] w fun e w' => e = .returned (.bool false) ∧ w = w' := by
  have p0 : w.cell? ⟨C, 0, none⟩ = some (.pointer (some ⟨C, 0, none⟩)) := by rw [Blk.cell h]; rfl
  have hns := flg_self
  clear h
  go_enter Try.func57, Try.ntmps57
  go_wp2
  go_ret
  exact ⟨rfl, rfl⟩
theorem Flg.cell {w : World} {C : Nat} {x : Int} (h : Flg w C x) : w.cell? ⟨C, 1, none⟩ = some (.int .u64 x) ∧ w.frozen? ⟨C, 1, none⟩ = false := ⟨by rw [Blk.cell h]; rfl, Blk.frozen h 1⟩
theorem Flg.keeps {w w' : World} {C : Nat} {x : Int} {S : Nat → Prop} (h : Flg w C x) (k : Keeps S w w') (hs : ¬ S C) : Flg w' C x := Blk.keeps h k hs
theorem Flg.set {w : World} {C : Nat} {x : Int} (h : Flg w C x) (y : Int) : Flg (w.setCell ⟨C, 1, none⟩ (.int .u64 y)) C y := by have := Blk.put h 1 (.int .u64 y); simpa [Flg] using this
def FPost (C : Nat) (x : Int) (gv : Value) (ms : List (Nat × Nat)) (F : Nat → Prop) (w : World) (w' : World) : Prop := Flg w' C x ∧ Gate w' gv ms (Grown w w' F) ∧ Keeps (fun b => F b ∨ b = C) w w'
set_option maxRecDepth 100000 in
set_option maxHeartbeats 1000000 in
theorem flg_get0 (C : Nat) (gv : Value) (w : World) (ms : List (Nat × Nat)) (F : Nat → Prop) (h : Flg w C 0) (hg : Gate w gv ms F) (hl : ms.length < 1000000) (hd : ¬ F C) :
    Calls Try.prog 50 #[.pointer (some ⟨C, 0, none⟩), gv] w fun e w' => e = .returned (.tuple #[.bool false, .int .i64 0]) ∧ FPost C 0 gv (ms ++ [(1, 0)]) F w w' := by
  have HC := Lib.hid (flg_none C 0 w h)
  have HT := Lib.hid (gate_tell gv 1 w ms F hg hl)
  have HV := Lib.hid h
  clear h hg
  go_enter Try.func50, Try.ntmps50
  go_wp2_with fail
  refine HC.out.mono ?_
  rintro e w1 ⟨rfl, rfl⟩
  go_wp2_with fail
  refine HT.out.mono ?_
  rintro e w1 ⟨rfl, h1, h2⟩
  have H1 := Lib.hid h1
  have H2 := Lib.hid h2
  have hc1 := HV.out.keeps h2 hd
  have hv := hc1.cell
  have HL := Lib.hid (at_.u64_load C 1 0 w1 hv.1)
  have HC1 := Lib.hid hc1
  clear h1 h2 hv hc1
  go_wp2_with fail
  refine HL.out.mono ?_
  rintro e w2 ⟨rfl, rfl⟩
  go_wp2
  go_ret2
  exact ⟨rfl, HC1.out, H1.out, H2.out.mono fun _ _ z => .inl z⟩
set_option maxRecDepth 100000 in
set_option maxHeartbeats 1000000 in
theorem flg_get1 (C : Nat) (gv : Value) (w : World) (ms : List (Nat × Nat)) (F : Nat → Prop) (h : Flg w C 1) (hg : Gate w gv ms F) (hl : ms.length < 1000000) (hd : ¬ F C) :
    Calls Try.prog 50 #[.pointer (some ⟨C, 0, none⟩), gv] w fun e w' => e = .returned (.tuple #[.bool true, .int .i64 0]) ∧ FPost C 1 gv (ms ++ [(1, 0)]) F w w' := by
  have HC := Lib.hid (flg_none C 1 w h)
  have HT := Lib.hid (gate_tell gv 1 w ms F hg hl)
  have HV := Lib.hid h
  clear h hg
  go_enter Try.func50, Try.ntmps50
  go_wp2_with fail
  refine HC.out.mono ?_
  rintro e w1 ⟨rfl, rfl⟩
  go_wp2_with fail
  refine HT.out.mono ?_
  rintro e w1 ⟨rfl, h1, h2⟩
  have H1 := Lib.hid h1
  have H2 := Lib.hid h2
  have hc1 := HV.out.keeps h2 hd
  have hv := hc1.cell
  have HL := Lib.hid (at_.u64_load C 1 1 w1 hv.1)
  have HC1 := Lib.hid hc1
  clear h1 h2 hv hc1
  go_wp2_with fail
  refine HL.out.mono ?_
  rintro e w2 ⟨rfl, rfl⟩
  go_wp2
  go_ret2
  exact ⟨rfl, HC1.out, H1.out, H2.out.mono fun _ _ z => .inl z⟩
set_option maxRecDepth 100000 in
set_option maxHeartbeats 1000000 in
theorem flg_set0 (C : Nat) (gv : Value) (w : World) (ms : List (Nat × Nat)) (F : Nat → Prop) (h : Flg w C 0) (hg : Gate w gv ms F) (hl : ms.length < 1000000) (hd : ¬ F C) :
    Calls Try.prog 37 #[.pointer (some ⟨C, 0, none⟩), gv] w fun e w' => e = .returned (.tuple #[.bool true, .int .i64 0]) ∧ FPost C 1 gv (ms ++ [(4, 0)]) F w w' := by
  have HC := Lib.hid (flg_none C 0 w h)
  have HT := Lib.hid (gate_tell gv 4 w ms F hg hl)
  have HV := Lib.hid h
  clear h hg
  go_enter Try.func37, Try.ntmps37
  go_wp2_with fail
  refine HC.out.mono ?_
  rintro e w1 ⟨rfl, rfl⟩
  go_wp2_with fail
  refine HT.out.mono ?_
  rintro e w1 ⟨rfl, h1, h2⟩
  have H1 := Lib.hid h1
  have H2 := Lib.hid h2
  have hc1 := HV.out.keeps h2 hd
  have hv := hc1.cell
  have HL := Lib.hid (at_.u64_swap C 1 0 1 w1 hv.1 hv.2)
  have HC1 := Lib.hid hc1
  clear h1 h2 hv hc1
  go_wp2_with fail
  refine HL.out.mono ?_
  rintro e w2 ⟨rfl, rfl⟩
  go_wp2
  go_ret2
  have kC : Keeps (· = C) w1 (w1.setCell ⟨C, 1, none⟩ (.int .u64 1)) := (Keeps.refl (· = C) w1).setCell (p := ⟨C, 1, none⟩) (.inl rfl) _
  have hCl := Blk.lt HV.out
  refine ⟨rfl, HC1.out.set _, gate_step H1.out kC (fun b hb e => ?_), (H2.out.mono fun _ _ z => .inl z).trans (kC.mono fun _ _ z => .inr z)⟩
  subst e
  rcases hb with q | q
  · exact hd q
  · omega
set_option maxRecDepth 100000 in
set_option maxHeartbeats 1000000 in
theorem flg_set1 (C : Nat) (gv : Value) (w : World) (ms : List (Nat × Nat)) (F : Nat → Prop) (h : Flg w C 1) (hg : Gate w gv ms F) (hl : ms.length < 1000000) (hd : ¬ F C) :
    Calls Try.prog 37 #[.pointer (some ⟨C, 0, none⟩), gv] w fun e w' => e = .returned (.tuple #[.bool false, .int .i64 0]) ∧ FPost C 1 gv (ms ++ [(4, 0)]) F w w' := by
  have HC := Lib.hid (flg_none C 1 w h)
  have HT := Lib.hid (gate_tell gv 4 w ms F hg hl)
  have HV := Lib.hid h
  clear h hg
  go_enter Try.func37, Try.ntmps37
  go_wp2_with fail
  refine HC.out.mono ?_
  rintro e w1 ⟨rfl, rfl⟩
  go_wp2_with fail
  refine HT.out.mono ?_
  rintro e w1 ⟨rfl, h1, h2⟩
  have H1 := Lib.hid h1
  have H2 := Lib.hid h2
  have hc1 := HV.out.keeps h2 hd
  have hv := hc1.cell
  have HL := Lib.hid (at_.u64_swap C 1 1 1 w1 hv.1 hv.2)
  have HC1 := Lib.hid hc1
  clear h1 h2 hv hc1
  go_wp2_with fail
  refine HL.out.mono ?_
  rintro e w2 ⟨rfl, rfl⟩
  go_wp2
  go_ret2
  have kC : Keeps (· = C) w1 (w1.setCell ⟨C, 1, none⟩ (.int .u64 1)) := (Keeps.refl (· = C) w1).setCell (p := ⟨C, 1, none⟩) (.inl rfl) _
  have hCl := Blk.lt HV.out
  refine ⟨rfl, HC1.out.set _, gate_step H1.out kC (fun b hb e => ?_), (H2.out.mono fun _ _ z => .inl z).trans (kC.mono fun _ _ z => .inr z)⟩
  subst e
  rcases hb with q | q
  · exact hd q
  · omega
set_option maxRecDepth 100000 in
set_option maxHeartbeats 1000000 in
theorem flg_clear0 (C : Nat) (gv : Value) (w : World) (ms : List (Nat × Nat)) (F : Nat → Prop) (h : Flg w C 0) (hg : Gate w gv ms F) (hl : ms.length < 1000000) (hd : ¬ F C) :
    Calls Try.prog 51 #[.pointer (some ⟨C, 0, none⟩), gv] w fun e w' => e = .returned (.tuple #[.bool false, .int .i64 0]) ∧ FPost C 0 gv (ms ++ [(4, 0)]) F w w' := by
  have HC := Lib.hid (flg_none C 0 w h)
  have HT := Lib.hid (gate_tell gv 4 w ms F hg hl)
  have HV := Lib.hid h
  clear h hg
  go_enter Try.func51, Try.ntmps51
  go_wp2_with fail
  refine HC.out.mono ?_
  rintro e w1 ⟨rfl, rfl⟩
  go_wp2_with fail
  refine HT.out.mono ?_
  rintro e w1 ⟨rfl, h1, h2⟩
  have H1 := Lib.hid h1
  have H2 := Lib.hid h2
  have hc1 := HV.out.keeps h2 hd
  have hv := hc1.cell
  have HL := Lib.hid (at_.u64_swap C 1 0 0 w1 hv.1 hv.2)
  have HC1 := Lib.hid hc1
  clear h1 h2 hv hc1
  go_wp2_with fail
  refine HL.out.mono ?_
  rintro e w2 ⟨rfl, rfl⟩
  go_wp2
  go_ret2
  have kC : Keeps (· = C) w1 (w1.setCell ⟨C, 1, none⟩ (.int .u64 0)) := (Keeps.refl (· = C) w1).setCell (p := ⟨C, 1, none⟩) (.inl rfl) _
  have hCl := Blk.lt HV.out
  refine ⟨rfl, HC1.out.set _, gate_step H1.out kC (fun b hb e => ?_), (H2.out.mono fun _ _ z => .inl z).trans (kC.mono fun _ _ z => .inr z)⟩
  subst e
  rcases hb with q | q
  · exact hd q
  · omega
set_option maxRecDepth 100000 in
set_option maxHeartbeats 1000000 in
theorem flg_clear1 (C : Nat) (gv : Value) (w : World) (ms : List (Nat × Nat)) (F : Nat → Prop) (h : Flg w C 1) (hg : Gate w gv ms F) (hl : ms.length < 1000000) (hd : ¬ F C) :
    Calls Try.prog 51 #[.pointer (some ⟨C, 0, none⟩), gv] w fun e w' => e = .returned (.tuple #[.bool true, .int .i64 0]) ∧ FPost C 0 gv (ms ++ [(4, 0)]) F w w' := by
  have HC := Lib.hid (flg_none C 1 w h)
  have HT := Lib.hid (gate_tell gv 4 w ms F hg hl)
  have HV := Lib.hid h
  clear h hg
  go_enter Try.func51, Try.ntmps51
  go_wp2_with fail
  refine HC.out.mono ?_
  rintro e w1 ⟨rfl, rfl⟩
  go_wp2_with fail
  refine HT.out.mono ?_
  rintro e w1 ⟨rfl, h1, h2⟩
  have H1 := Lib.hid h1
  have H2 := Lib.hid h2
  have hc1 := HV.out.keeps h2 hd
  have hv := hc1.cell
  have HL := Lib.hid (at_.u64_swap C 1 1 0 w1 hv.1 hv.2)
  have HC1 := Lib.hid hc1
  clear h1 h2 hv hc1
  go_wp2_with fail
  refine HL.out.mono ?_
  rintro e w2 ⟨rfl, rfl⟩
  go_wp2
  go_ret2
  have kC : Keeps (· = C) w1 (w1.setCell ⟨C, 1, none⟩ (.int .u64 0)) := (Keeps.refl (· = C) w1).setCell (p := ⟨C, 1, none⟩) (.inl rfl) _
  have hCl := Blk.lt HV.out
  refine ⟨rfl, HC1.out.set _, gate_step H1.out kC (fun b hb e => ?_), (H2.out.mono fun _ _ z => .inl z).trans (kC.mono fun _ _ z => .inr z)⟩
  subst e
  rcases hb with q | q
  · exact hd q
  · omega
end Go.Proofs.Ytakpfkfhbeobeaa.ce
