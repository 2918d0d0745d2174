/-
  A number is laid, taken, summed: 'works' says true.
-/
import Derived.Test.YtbnkmfmbbbcogaaRows
import Derived.Test.YtbnkmfmbbbcogaaOcSum
import Derived.Test.YtbnkmfmbbbcogaaOcPut
import Derived.Test.YtbnkmfmbbbcogaaOcTake
import Derived.Test.YtbnkmfmbbbcogaaOcSame
import Derived.WalkLawsBesides
import Derived.WalkSpells
import Derived.Outline
import Derived.Lib.Hide
namespace Go.Proofs.Ytbnkmfmbbbcogaa.oc
open Go.RowKit

theorem lit_rd (w : World) (cs : Array Value) (t : TypeId) (bs : List Nat) (h : cs.toList = by_ bs) : Rd (w.alloc (.cells cs t)) (w.heap.size + 1) (some ⟨w.heap.size, 0, none⟩) (by_ bs) := by
  have := (Blk.new w t cs).rd
  rwa [h] at this

theorem pt_one {w : World} {A : Option Addr} {bs : List Nat} {n c B : Nat} {t : TypeId} (hn : bs.length = n) (hr : Rd w B A (by_ bs)) (hB : B ≤ w.heap.size) :
    Pt (w.alloc (.cells #[.slice A n c] t)) (w.heap.size + 1) (some ⟨w.heap.size, 0, none⟩) [bs] := by
  intro k l hk
  rcases k with _ | k
  · simp only [List.getElem?_cons_zero, Option.some.injEq] at hk
    subst hk
    subst hn
    refine ⟨w.heap.size, 0, A, c, rfl, by omega, ?_, (hr.alloc hB _).more (by omega)⟩
    rw [World.cell?_alloc_at _ _ _ _ rfl]
    rfl
  · simp at hk

set_option maxHeartbeats 400000 in
theorem works_any (w : World) : Calls Try.prog 22 #[] w fun e w' => e = .returned (.bool true) ∧ Below w.heap.size w w' := by
  have r1 := lit_rd w #[.int .u8 7] 5 [7] rfl
  have b1 : Below w.heap.size w (w.alloc (.cells #[.int .u8 7] 5)) := (Below.refl _ _).alloc (Nat.le_refl _) _
  go_enter Try.func22, Try.ntmps22
  go_wp2_with fail
  refine (put16_any (some ⟨w.heap.size, 0, none⟩) [7] 1 1 (w.heap.size + 1) 258 _ rfl (by omega) (by omega) r1 (by simp)).mono ?_
  rintro e w1 ⟨rfl, hb1, hw1⟩
  have r2 : Rd w1 (w.heap.size + 2) (some ⟨w.heap.size + 1, 0, none⟩) (by_ [7, 1, 2]) := by have := hb1.rd; simpa [be] using this
  have z1 : w.heap.size + 2 ≤ w1.heap.size := by have := hb1.lt; simp at this; omega
  have b2 : Below w.heap.size w w1 := b1.trans (hw1.mono (by simp))
  clear hb1 hw1 r1 b1
  have t1 : Calls Try.prog 24 #[.slice (some ⟨w.heap.size + 1, 0, none⟩) 3 3, .int .i64 1] w1 fun e w' => e = .returned (.tuple #[.int .u16 258, .int .i64 0]) ∧ w1 = w' :=
    take16_yes _ [7, 1, 2] 3 3 _ 1 w1 rfl (by omega) (by omega) (by omega) (fun x hx => by simp at hx; omega) r2 (by omega)
  have t2 : Calls Try.prog 24 #[.slice (some ⟨w.heap.size + 1, 0, none⟩) 3 3, .int .i64 2] w1 fun e w' => e = .returned (.tuple #[.int .u16 0, .int .i64 5]) ∧ w1 = w' :=
    take16_no _ 3 3 2 w1 (by omega) (by omega)
  have T1 := Lib.hid t1
  have T2 := Lib.hid t2
  clear t1 t2
  go_wp2_with fail
  refine T1.out.mono ?_
  rintro e w2 ⟨rfl, rfl⟩
  go_wp2_with fail
  refine T2.out.mono ?_
  rintro e w2 ⟨rfl, rfl⟩
  have r3 := lit_rd w1 #[.int .u8 7, .int .u8 1, .int .u8 2] 5 [7, 1, 2] rfl
  have r2' := r2.alloc z1 (.cells #[.int .u8 7, .int .u8 1, .int .u8 2] 5)
  have b3 := b2.alloc (by omega) (.cells #[.int .u8 7, .int .u8 1, .int .u8 2] 5)
  clear r2 b2
  go_wp2_with fail
  refine (same_yes (some ⟨w.heap.size + 1, 0, none⟩) (some ⟨w1.heap.size, 0, none⟩) [7, 1, 2] 3 3 3 _ _ _ rfl (by omega) r2' r3).mono ?_
  rintro e w2 ⟨rfl, d, hd⟩
  have b4 : Below w.heap.size w w2 := by rw [← hd]; exact ⟨b3.os, b3.tape, b3.output, b3.size, b3.block⟩
  have z2 : w.heap.size ≤ w2.heap.size := b4.size
  clear hd b3 r3 r2' z1
  have r5 := lit_rd w2 #[.int .u8 0, .int .u8 1, .int .u8 242, .int .u8 3, .int .u8 244, .int .u8 245, .int .u8 246, .int .u8 247] 5 [0, 1, 242, 3, 244, 245, 246, 247] rfl
  have p5 := pt_one (t := 22) (c := 8) (n := 8) rfl r5 (by simp)
  have b5 := (b4.alloc z2 (.cells #[.int .u8 0, .int .u8 1, .int .u8 242, .int .u8 3, .int .u8 244, .int .u8 245, .int .u8 246, .int .u8 247] 5)).alloc (by simp; omega) (.cells #[.slice (some ⟨w2.heap.size, 0, none⟩) 8 8] 22)
  clear r5 b4
  go_wp2_with fail
  refine (sum_any (some ⟨w2.heap.size + 1, 0, none⟩) [[0, 1, 242, 3, 244, 245, 246, 247]] 1 1 _ _ rfl (by omega) (by decide) (fun bs hb x hx => by simp at hb; subst hb; simp at hx; omega) (by simpa using p5)).mono ?_
  rintro e w3 ⟨rfl, rfl⟩
  have es : csum [[0, 1, 242, 3, 244, 245, 246, 247]].flatten = 8717 := by decide +kernel
  rw [es]
  clear es p5
  have z5 : w.heap.size ≤ w2.heap.size + 1 + 1 := by omega
  obtain ⟨w3, hw3⟩ : ∃ w3, w3 = (w2.alloc (.cells #[.int .u8 0, .int .u8 1, .int .u8 242, .int .u8 3, .int .u8 244, .int .u8 245, .int .u8 246, .int .u8 247] 5)).alloc (.cells #[.slice (some ⟨w2.heap.size, 0, none⟩) 8 8] 22) := ⟨_, rfl⟩
  rw [← hw3]
  rw [← hw3] at b5
  have z6 : w.heap.size ≤ w3.heap.size := b5.size
  clear hw3 z5 z2
  have r6 := lit_rd w3 #[.int .u8 97] 5 [97] rfl
  have p6 := pt_one (t := 22) (c := 1) (n := 1) rfl r6 (by simp)
  have b6 := (b5.alloc z6 (.cells #[.int .u8 97] 5)).alloc (by simp; omega) (.cells #[.slice (some ⟨w3.heap.size, 0, none⟩) 1 1] 22)
  clear r6 b5
  go_wp2_with fail
  refine (hash_any (some ⟨w3.heap.size + 1, 0, none⟩) [[97]] 1 1 _ _ rfl (by omega) (by decide) (fun bs hb x hx => by simp at hb; subst hb; simp at hx; omega) (by simpa using p6)).mono ?_
  rintro e w4 ⟨rfl, rfl⟩
  have es : fnv [[97]].flatten = 12638187200555641996 := by decide +kernel
  rw [es]
  clear es p6
  go_wp2
  go_ret
  exact ⟨rfl, b6⟩
end Go.Proofs.Ytbnkmfmbbbcogaa.oc
