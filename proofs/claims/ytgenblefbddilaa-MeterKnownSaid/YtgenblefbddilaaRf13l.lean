/-
  patchbayref13's Level in memory.
-/
import Derived.Test.YtgenblefbddilaaRf13b
set_option linter.unusedVariables false
namespace Go.Proofs.Ytgenblefbddilaa.rf13
open Go.RowKit Go.Proofs.Ytgenblefbddilaa.oc Go.Proofs.Ytgenblefbddilaa.mz Go.Proofs.Ytgenblefbddilaa.bk Go.Proofs.Ytgenblefbddilaa.bp
section
variable (n d b : Nat) (w : World)
set_option maxRecDepth 100000 in
set_option maxHeartbeats 4000000 in
theorem level_in (now : Nat) (hm : May n d b) (hnow : now ≤ 1099511627776) : Calls Try.prog 26 #[bv n d b, .int .u64 (now : Int)] w (CallMade w (levelCode (now * n) (b * d) d)) := by
  have qn : ¬ (1099511627776 : Int) < (now : Int) := by omega
  obtain ⟨wA, hwA, kA, bA⟩ := enter_blk w #[.int .u64 (n : Int), .int .u64 (d : Int), .int .u64 (b : Int)] 24
  have hsA : wA.heap.size = w.heap.size + 1 := by rw [hwA, World.size_alloc]
  obtain ⟨w2, hw2, k2, b2⟩ := enter_blk wA #[.slice none 0 0, .slice none 0 0] 49
  have bA2 := Blk.keeps bA (k2 (fun _ => False)) (fun z => z)
  have y0 : w2.cell? ⟨w.heap.size, 0, none⟩ = some (.int .u64 (n : Int)) := by rw [bA2.cell]; rfl
  have y1 : w2.cell? ⟨w.heap.size, 1, none⟩ = some (.int .u64 (d : Int)) := by rw [bA2.cell]; rfl
  have y2 : w2.cell? ⟨w.heap.size, 2, none⟩ = some (.int .u64 (b : Int)) := by rw [bA2.cell]; rfl
  obtain ⟨⟨n0, n1⟩, ⟨d0, d1⟩, b0, b1⟩ := hm
  have hp : now * n ≤ 1099511627776 * 65536 := Nat.mul_le_mul hnow n1
  have hbd : b * d ≤ 1048576 * 65536 := Nat.mul_le_mul b1 d1
  obtain ⟨i, hi⟩ : ∃ x, x = now * n := ⟨_, rfl⟩
  obtain ⟨f, hf⟩ : ∃ x, x = b * d := ⟨_, rfl⟩
  have e1 : IntKind.u64.wrap ((now : Int) * (n : Int)) = (i : Int) := by rw [mul_, wrap_ _ (by omega), hi]
  have e2 : IntKind.u64.wrap ((b : Int) * (d : Int)) = (f : Int) := by rw [mul_, wrap_ _ (by omega), hf]
  rw [← hi, ← hf]
  obtain ⟨w3, hw3⟩ : ∃ w3, w3 = w2.alloc (.cells ((levelAt i f d).flatMap Ins.cells).toArray 114) := ⟨_, rfl⟩
  have k3 : ∀ S, Keeps S w2 w3 := fun S => by rw [hw3]; exact (Keeps.refl S w2).alloc _
  have b3 : Blk w3 w2.heap.size 114 ((levelAt i f d).flatMap Ins.cells) := by rw [hw3]; exact Blk.new w2 _ _
  have hz := b2.lt
  have hs2 : w2.heap.size = w.heap.size + 1 + 1 := by rw [hw2, World.size_alloc, hsA]
  have hs3 : w3.heap.size = w.heap.size + 1 + 1 + 1 := by rw [hw3, World.size_alloc, hs2]
  rw [hs2] at b3
  have m3 := Mk.start (Blk.keeps b2 (k3 (fun _ => False)) (fun z => z)) b3 (n := 9) rfl (by omega) (by omega) (fun S => (k2 S).trans (k3 S))
  have bL := Blk.new w3 3 #[.int .i64 ((9 : Nat) : Int), .int .i64 ((3 : Nat) : Int)]
  rw [hs3] at bL
  have HT := Lib.hid (tell_ wA _ (w.heap.size + 1 + 1) 9 9 (w.heap.size + 1 + 1 + 1) 9 3 _ (m3.alloc (.cells #[.int .i64 ((9 : Nat) : Int), .int .i64 ((3 : Nat) : Int)] 3)) rfl (by omega) (by omega) bL (by omega))
  have HW3 : Hid (w3 = w2.alloc (.cells #[.int .i64 1, .int .i64 0, .int .i64 0, .int .i64 9, .int .i64 0, .int .i64 0, .int .u64 0, .int .i64 6, .int .i64 0, .int .i64 1, .int .i64 0, .int .i64 0, .int .i64 0, .int .u64 (i : Int), .int .i64 16, .int .i64 0, .int .i64 0, .int .i64 0, .int .i64 1, .int .i64 0, .int .u64 0, .int .i64 8, .int .i64 0, .int .i64 2, .int .i64 1, .int .i64 9, .int .i64 0, .int .u64 (f : Int), .int .i64 6, .int .i64 0, .int .i64 3, .int .i64 0, .int .i64 0, .int .i64 0, .int .u64 0, .int .i64 20, .int .i64 0, .int .i64 2, .int .i64 0, .int .i64 0, .int .i64 0, .int .u64 9, .int .i64 9, .int .i64 0, .int .i64 2, .int .i64 2, .int .i64 0, .int .i64 0, .int .u64 0, .int .i64 6, .int .i64 0, .int .i64 4, .int .i64 0, .int .i64 0, .int .i64 0, .int .u64 (d : Int), .int .i64 11, .int .i64 0, .int .i64 3, .int .i64 2, .int .i64 4, .int .i64 0, .int .u64 0] 114)) := Lib.hid hw3
  have HW : Hid (w2 = (w.alloc (.cells #[.int .u64 (n : Int), .int .u64 (d : Int), .int .u64 (b : Int)] 24)).alloc (.cells #[.slice none 0 0, .slice none 0 0] 49)) := Lib.hid (by rw [hw2, hwA])
  have HSA := Lib.hid hsA
  have KA : Hid (∀ S, Keeps S w wA) := Lib.hid kA
  have K2 : Hid (∀ S, Keeps S wA w2) := Lib.hid k2
  have B2 := Lib.hid b2
  unfold bv
  clear hwA kA bA hsA hw2 k2 b2 bA2 hnow n0 n1 d0 d1 b0 b1 hp hbd hi hf hw3 k3 b3 m3 bL hz hs2 hs3
  unfold levelCode
  go_enter Try.func26, Try.ntmps26
  go_wp2_with fail
  rw [← HW.out]
  go_wp2_with fail
  rw [← HW3.out]
  refine HT.out.mono ?_
  rintro e w6 ⟨g6, c6, rfl, m6⟩
  have b6 := m6.res
  rw [HSA.out] at b6
  have f0 := b6.frozen 0
  have f1 := b6.frozen 1
  have x0 : w6.cell? ⟨w.heap.size + 1, 0, none⟩ = some (.slice none 0 0) := by rw [b6.cell]; rfl
  have x1 : w6.cell? ⟨w.heap.size + 1, 1, none⟩ = some (.slice none 0 0) := by rw [b6.cell]; rfl
  have M6 := Lib.hid m6
  clear m6 b6
  go_wp2_with fail
  obtain ⟨r0, r1, hE⟩ := M6.out.end_ rfl (by omega)
  have hE := CallMade.base hE KA.out
  rw [HSA.out] at r0 r1 hE
  exact bodyPost_ret (v := .agg #[.slice (some ⟨g6, 0, none⟩) 11 c6, .slice none 0 0]) (by simp [results, Try.results26, go_sem, r0, r1]) rfl hE
end
end Go.Proofs.Ytgenblefbddilaa.rf13
