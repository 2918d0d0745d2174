/-
  the law's cells: made, Yes.
-/
import Derived.Test.YtakpfkfhbeobeaaCeM3
import Derived.Test.YtakpfkfhbeobeaaCeM2
import Derived.Laws.Rows
set_option linter.unusedVariables false
namespace Go.Proofs.Ytakpfkfhbeobeaa.ce
open Go.RowKit Go.Proofs.Ytakpfkfhbeobeaa.oc Go.Proofs.Ytakpfkfhbeobeaa.mz
set_option maxRecDepth 100000 in
set_option maxHeartbeats 1000000 in
theorem yes_any (b : Bool) (w : World) : Calls Try.prog 22 #[.bool b] w fun e w' => e = .returned (.int .u64 ((if b then 1 else 0 : Nat) : Int)) ∧ w = w' := by
  cases b
  · go_enter Try.func22, Try.ntmps22
    go_wp2
    go_ret
    exact ⟨rfl, rfl⟩
  · go_enter Try.func22, Try.ntmps22
    go_wp2
    go_ret
    exact ⟨rfl, rfl⟩
/-- the law's three cells -/
structure Cl (w : World) (C L B E c x v n : Nat) : Prop where
  cnt : Cnt w C c
  flg : Flg w L (x : Int)
  bit : x < 2
  box : Bx w B E v n
theorem Cl.lt {w : World} {C L B E c x v n : Nat} (h : Cl w C L B E c x v n) : C < w.heap.size ∧ L < w.heap.size ∧ B < w.heap.size ∧ E < w.heap.size := ⟨h.cnt.1.lt, Blk.lt h.flg, h.box.1.lt, h.box.2.1.lt⟩
set_option maxRecDepth 100000 in
set_option maxHeartbeats 1000000 in
theorem made_any (c v : Nat) (w : World) (hc : c < 18446744073709551616) : Calls Try.prog 4 #[.int .u64 (c : Int), .int .u32 (v : Int)] w fun e w' => ∃ C L B E, e = .returned (.agg #[.pointer (some ⟨C, 0, none⟩), .pointer (some ⟨L, 0, none⟩), .pointer (some ⟨B, 0, none⟩)]) ∧ Cl w' C L B E c 0 v 0 ∧ (∀ S, Keeps S w w') ∧ w.heap.size ≤ C ∧ w.heap.size ≤ L ∧ w.heap.size ≤ B ∧ w.heap.size ≤ E := by
  go_enter Try.func4, Try.ntmps4
  go_wp2_with fail
  obtain ⟨wA, hwA⟩ : ∃ wA, wA = w.alloc (.cells #[.pointer none, .pointer none, .pointer none] 31) := ⟨_, rfl⟩
  have bA : Blk wA w.heap.size 31 [.pointer none, .pointer none, .pointer none] := by rw [hwA]; exact Blk.new w _ #[_, _, _]
  have kA : ∀ S, Keeps S w wA := fun S => by rw [hwA]; exact (Keeps.refl S w).alloc _
  rw [← hwA]
  have BA := Lib.hid bA
  have KA := Lib.hid kA
  clear hwA bA kA
  refine (new_counter c wA hc).mono ?_
  rintro e w1 ⟨rfl, h1, k1⟩
  have H1 := Lib.hid h1
  have K1 := Lib.hid k1
  clear h1 k1
  go_wp2_with fail
  refine (new_flag w1).mono ?_
  rintro e w2 ⟨rfl, h2, k2⟩
  have H2 := Lib.hid h2
  have K2 := Lib.hid k2
  clear h2 k2
  go_wp2_with fail
  refine (new_box v w2).mono ?_
  rintro e w3 ⟨rfl, h3, k3, s3⟩
  have H3 := Lib.hid h3
  have K3 := Lib.hid k3
  clear h3 k3
  have sA := (KA.out (fun _ => False)).size
  have s1 := (K1.out (fun _ => False)).size
  have s2 := (K2.out (fun _ => False)).size
  have b3 : Blk w3 w.heap.size 31 [.pointer none, .pointer none, .pointer none] := Blk.keeps (Blk.keeps (Blk.keeps BA.out (K1.out (fun _ => False)) id) (K2.out (fun _ => False)) id) (K3.out (fun _ => False)) id
  have hb3 : w3.heap[w.heap.size]? = some (.cells #[.pointer none, .pointer none, .pointer none] 31 (0, 0)) := b3
  have c0 : w3.cell? ⟨w.heap.size, 0, none⟩ = some (.pointer none) := by rw [b3.cell]; rfl
  have c1 : w3.cell? ⟨w.heap.size, 1, none⟩ = some (.pointer none) := by rw [b3.cell]; rfl
  have c2 : w3.cell? ⟨w.heap.size, 2, none⟩ = some (.pointer none) := by rw [b3.cell]; rfl
  have f0 := b3.frozen 0
  have f1 := b3.frozen 1
  have f2 := b3.frozen 2
  go_wp2
  have b4 : Blk (((w3.setCell ⟨w.heap.size, 0, none⟩ (.pointer (some ⟨wA.heap.size, 0, none⟩))).setCell ⟨w.heap.size, 1, none⟩ (.pointer (some ⟨w1.heap.size, 0, none⟩))).setCell ⟨w.heap.size, 2, none⟩ (.pointer (some ⟨w2.heap.size, 0, none⟩))) w.heap.size 31 [.pointer (some ⟨wA.heap.size, 0, none⟩), .pointer (some ⟨w1.heap.size, 0, none⟩), .pointer (some ⟨w2.heap.size, 0, none⟩)] := by
    have := ((b3.put 0 (.pointer (some ⟨wA.heap.size, 0, none⟩))).put 1 (.pointer (some ⟨w1.heap.size, 0, none⟩))).put 2 (.pointer (some ⟨w2.heap.size, 0, none⟩))
    simpa using this
  have k4 : Keeps (· = w.heap.size) w3 (((w3.setCell ⟨w.heap.size, 0, none⟩ (.pointer (some ⟨wA.heap.size, 0, none⟩))).setCell ⟨w.heap.size, 1, none⟩ (.pointer (some ⟨w1.heap.size, 0, none⟩))).setCell ⟨w.heap.size, 2, none⟩ (.pointer (some ⟨w2.heap.size, 0, none⟩))) :=
    (((Keeps.refl (· = w.heap.size) w3).setCell (p := ⟨w.heap.size, 0, none⟩) (.inl rfl) _).setCell (p := ⟨w.heap.size, 1, none⟩) (.inl rfl) _).setCell (p := ⟨w.heap.size, 2, none⟩) (.inl rfl) _
  generalize (((w3.setCell ⟨w.heap.size, 0, none⟩ (.pointer (some ⟨wA.heap.size, 0, none⟩))).setCell ⟨w.heap.size, 1, none⟩ (.pointer (some ⟨w1.heap.size, 0, none⟩))).setCell ⟨w.heap.size, 2, none⟩ (.pointer (some ⟨w2.heap.size, 0, none⟩))) = w4 at *
  have sA' : wA.heap.size > w.heap.size := Nat.lt_of_le_of_lt (Nat.le_refl _) (Blk.lt BA.out)
  refine bodyPost_ret (results_cell_row (p := 4) (ty := 31) (by kernel_rfl) _ _ w.heap.size _ _ _ _ (by simp) b4 Try.underlying31 rfl (by kernel_rfl)) rfl ?_
  have k14 : Keeps (· = w.heap.size) w1 w4 := ((K2.out _).trans (K3.out _)).trans k4
  have k24 : Keeps (· = w.heap.size) w2 w4 := (K3.out _).trans k4
  refine ⟨wA.heap.size, w1.heap.size, w2.heap.size, w2.heap.size + 1, rfl, ⟨H1.out.keeps k14 (fun e => by omega), H2.out.keeps k24 (fun e => by omega), by omega, H3.out.keeps k4 (fun e => by omega) (fun e => by omega)⟩, fun S => ?_, by omega, by omega, by omega, by omega⟩
  have kk : Keeps S w w3 := (((KA.out S).trans (K1.out S)).trans (K2.out S)).trans (K3.out S)
  refine ⟨Nat.le_trans kk.size k4.size, fun b hb hs => ?_, kk.same.trans k4.same⟩
  rw [k4.block b (by omega) (fun e => by omega)]
  exact kk.block b hb hs
end Go.Proofs.Ytakpfkfhbeobeaa.ce
