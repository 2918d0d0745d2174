/-
  tally: made, awake.
-/
import Derived.Test.YtekglcphdjjmcaaTaS
import Derived.Test.YtekglcphdjjmcaaThG
import Derived.Test.YtekglcphdjjmcaaMzSameM
set_option linter.unusedVariables false
namespace Go.Proofs.Ytekglcphdjjmcaa.th
open Go.RowKit Go.Proofs.Ytekglcphdjjmcaa.oc Go.Proofs.Ytekglcphdjjmcaa.mz Go.Proofs.Ytekglcphdjjmcaa.at_ Go.Proofs.Ytekglcphdjjmcaa.gt Go.Proofs.Ytekglcphdjjmcaa.gw Go.Proofs.Ytekglcphdjjmcaa.tac
theorem ta_ptr (a : Addr) (w : World) : (binOp .eql 22 (.pointer (some a)) (.pointer none)).run Try.prog w = .ok (.bool false) w := by kernel_rfl
theorem th_ptr (a : Addr) (w : World) : (binOp .eql 23 (.pointer (some a)) (.pointer none)).run Try.prog w = .ok (.bool false) w := by kernel_rfl
theorem pair_ptr (a : Addr) (w : World) : (binOp .eql 73 (.pointer (some a)) (.pointer none)).run Try.prog w = .ok (.bool false) w := by kernel_rfl
/-- block P is a pair of a tally of n shards and a histogram -/
structure Pr (w : World) (P T H n : Nat) : Prop where
  blk : Blk w P 76 [.pointer (some ⟨T, 0, none⟩), .pointer (some ⟨H, 0, none⟩), .int .i64 (n : Int)]
theorem Pr.cell0 {w : World} {P T H n : Nat} (h : Pr w P T H n) : w.cell? ⟨P, 0, none⟩ = some (.pointer (some ⟨T, 0, none⟩)) := by rw [h.blk.cell]; rfl
theorem Pr.cell1 {w : World} {P T H n : Nat} (h : Pr w P T H n) : w.cell? ⟨P, 1, none⟩ = some (.pointer (some ⟨H, 0, none⟩)) := by rw [h.blk.cell]; rfl
theorem Pr.keeps {w w' : World} {P T H n : Nat} {S : Nat → Prop} (h : Pr w P T H n) (k : Keeps S w w') (hP : ¬ S P) : Pr w' P T H n := ⟨Blk.keeps h.blk k hP⟩
/-- a pair that was made: all its blocks are new -/
def Made (w0 w : World) (n P T TW H W C : Nat) : Prop := Pr w P T H n ∧ ta.Ta w T TW n (List.replicate n 0) ∧ Th w H W C (List.replicate 66 0) 0 ∧ w0.heap.size ≤ P ∧ w0.heap.size ≤ T ∧ w0.heap.size ≤ TW ∧ w0.heap.size ≤ H ∧ w0.heap.size ≤ W ∧ w0.heap.size ≤ C ∧
  T ≠ H ∧ T ≠ W ∧ T ≠ C ∧ TW ≠ H ∧ TW ≠ W ∧ TW ≠ C ∧ P ≠ T ∧ P ≠ TW ∧ P ≠ H ∧ P ≠ W ∧ P ≠ C
set_option maxRecDepth 100000 in
set_option maxHeartbeats 2000000 in
theorem made_ (n : Nat) (w : World) (h1 : 1 ≤ n) (h2 : n ≤ 64) : Calls Try.prog 30 #[.int .i64 (n : Int)] w fun e w' => ∃ P T TW H W C, e = .returned (.pointer (some ⟨P, 0, none⟩)) ∧ Made w w' n P T TW H W C ∧ ∀ S, Keeps S w w' := by
  have HN := Lib.hid (ta.new_ok n w h1 h2)
  have HB := Lib.hid (fun w => new_hist w)
  have hp1 := ta_ptr
  have hp2 := th_ptr
  clear h1 h2
  go_enter Try.func30, Try.ntmps30
  go_wp2_with fail
  refine HN.out.mono ?_
  rintro e w1 ⟨T, TW, rfl, t1, hT, hTW, k1⟩
  have T1 := Lib.hid t1
  have K1 : Hid (∀ S, Keeps S w w1) := Lib.hid k1
  have HS1 := Lib.hid (And.intro hT hTW)
  clear t1 k1 hT hTW HN
  go_wp2_with fail
  refine (HB.out w1).mono ?_
  rintro e w2 ⟨H, W, C, rfl, h2, hH, hW, hC, k2⟩
  have H2 := Lib.hid h2
  have T2 := Lib.hid (T1.out.keeps (k2 (fun _ => False)) (fun z => z) (fun z => z))
  have K2 : Hid (∀ S, Keeps S w1 w2) := Lib.hid k2
  have HS2 := Lib.hid (And.intro hH (And.intro hW hC))
  clear h2 k2 hH hW hC
  go_wp2_with fail
  go_ret
  have z1 := (K1.out (fun _ => False)).size
  have hs1 := HS1.out
  have hs2 := HS2.out
  have l1 := T1.out.ltT
  have l2 := T1.out.ltW
  have l3 := H2.out.ltH
  have l4 := H2.out.ltW
  have l5 := H2.out.ltC
  have k3 : Keeps (fun _ => False) w2 (w2.alloc (.cells #[.pointer (some ⟨T, 0, none⟩), .pointer (some ⟨H, 0, none⟩), .int .i64 (n : Int)] 76)) := (Keeps.refl _ _).alloc _
  have z2 := (K2.out (fun _ => False)).size
  refine ⟨w2.heap.size, T, TW, H, W, C, rfl, ⟨⟨Blk.new w2 76 #[.pointer (some ⟨T, 0, none⟩), .pointer (some ⟨H, 0, none⟩), .int .i64 (n : Int)]⟩, T2.out.keeps k3 (fun z => z) (fun z => z), H2.out.keeps k3 (fun z => z) (fun z => z) (fun z => z), ?_⟩, fun S => ((K1.out S).trans (K2.out S)).alloc _⟩
  refine ⟨?_, ?_, ?_, ?_, ?_, ?_, ?_, ?_, ?_, ?_, ?_, ?_, ?_, ?_, ?_, ?_, ?_⟩ <;> omega
end Go.Proofs.Ytekglcphdjjmcaa.th
