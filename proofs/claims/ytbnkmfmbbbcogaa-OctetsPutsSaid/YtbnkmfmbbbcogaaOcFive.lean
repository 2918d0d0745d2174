/-
  Five rows of bytes behind one block of slices: what a store and an append do to them.
-/
import Derived.Test.YtbnkmfmbbbcogaaOcApp
import Derived.Test.YtbnkmfmbbbcogaaOcJoin
namespace Go.Proofs.Ytbnkmfmbbbcogaa.oc
open Go.RowKit
def up {α : Type} (f : Nat → α) (i : Nat) (x : α) : Nat → α := fun j => if j = i then x else f j
theorem up_same {α : Type} (f : Nat → α) (i : Nat) (x : α) : up f i x i = x := by simp [up]
theorem up_other {α : Type} (f : Nat → α) {i j : Nat} (x : α) (h : j ≠ i) : up f i x j = f j := by simp [up, h]
def l5 (s : Nat → Value) : List Value := [s 0, s 1, s 2, s 3, s 4]
theorem l5_at (s : Nat → Value) {j : Nat} (h : j < 5) : (l5 s)[j]? = some (s j) := by
  rcases (by omega : j = 0 ∨ j = 1 ∨ j = 2 ∨ j = 3 ∨ j = 4) with rfl | rfl | rfl | rfl | rfl <;> rfl
theorem l5_set (s : Nat → Value) {i : Nat} (h : i < 5) (x : Value) : (l5 s).set i x = l5 (up s i x) := by
  rcases (by omega : i = 0 ∨ i = 1 ∨ i = 2 ∨ i = 3 ∨ i = 4) with rfl | rfl | rfl | rfl | rfl <;> simp [l5, up]
/-- five rows of bytes, apart from one another, and the block that holds their slices -/
def Five (w : World) (ga base : Nat) (s : Nat → Value) (len : Nat → Nat) (xs : Nat → List Value) : Prop :=
  Blk w ga 22 (l5 s) ∧ (∀ j, j < 5 → w.ownsRow base 5 1 (s j) (len j) (xs j) ∧ 0 < len j) ∧ (∀ j k, j < 5 → k < 5 → j ≠ k → (s j).ownBlock ≠ (s k).ownBlock)
section
variable {w w' : World} {ga base : Nat} {s : Nat → Value} {len : Nat → Nat} {xs : Nat → List Value}
theorem Five.form (h : Five w ga base s len xs) {i : Nat} (hi : i < 5) : ∃ g cap, s i = .slice (some ⟨g, 0, none⟩) (len i) cap ∧ base ≤ g ∧ g < w.heap.size ∧ g ≠ ga ∧ cap ≤ maxLen ∧ len i ≤ cap := by
  obtain ⟨ho, hp⟩ := h.2.1 i hi
  rcases ho.2 with ⟨_, h0⟩ | ⟨g, cap, cur, hv, hb, hg, hc1, hc2, _⟩
  · omega
  · refine ⟨g, cap, hv, hb, (Array.getElem?_eq_some_iff.1 hg).1, ?_, hc2, hc1⟩
    rintro rfl
    have := h.1
    unfold Blk at this
    rw [hg] at this
    injection this with this
    injection this with _ ht
    exact absurd ht (by decide)
theorem Five.cell (h : Five w ga base s len xs) {i : Nat} (hi : i < 5) : w.cell? ⟨ga, i, none⟩ = some (s i) := by rw [h.1.cell]; exact l5_at s hi
theorem own_other {base n : Nat} {e : TypeId} {v : Value} {ys : List Value} (h : w.ownsRow base e 1 v n ys) {p : Addr} (hp : v.ownBlock ≠ some p.block) (u : Value) : (w.setCell p u).ownsRow base e 1 v n ys := by
  refine ⟨h.1, ?_⟩
  rcases h.2 with h0 | ⟨g, cap, cur, rfl, h1, h2, h3⟩
  · exact .inl h0
  · refine .inr ⟨g, cap, cur, rfl, h1, ?_, h3⟩
    rw [Below.heap_setCell _ _ _ _ (by simpa [Value.ownBlock] using hp)]
    exact h2
theorem Five.store (h : Five w ga base s len xs) {i k g cap : Nat} (hi : i < 5) (hs : s i = .slice (some ⟨g, 0, none⟩) (len i) cap) (u : Value) :
    Five (w.setCell ⟨g, k, none⟩ u) ga base s len (up xs i ((xs i).set k u)) := by
  obtain ⟨g', cap', hs', _, _, hne, _⟩ := h.form hi
  rw [hs] at hs'
  injection hs' with e _ _
  injection e with e
  injection e with e
  subst e
  refine ⟨h.1.far (fun e => hne e.symm) u, fun j hj => ?_, h.2.2⟩
  by_cases hji : j = i
  · subst hji
    rw [up_same]
    have ho := (h.2.1 j hj).1
    rw [hs] at ho
    rw [hs]
    exact ⟨(ho.stored k u).1, (h.2.1 j hj).2⟩
  · rw [up_other _ _ hji]
    have hd := h.2.2 j i hj hi hji
    rw [hs] at hd
    exact ⟨own_other (h.2.1 j hj).1 (by simpa [Value.ownBlock] using hd) u, (h.2.1 j hj).2⟩
theorem Five.below (h : Five w ga base s len xs) (b : Below w.heap.size w w') : Five w' ga base s len xs := by
  refine ⟨h.1.below b h.1.lt, fun j hj => ?_, h.2.2⟩
  obtain ⟨ho, hp⟩ := h.2.1 j hj
  refine ⟨⟨ho.1, ?_⟩, hp⟩
  rcases ho.2 with h0 | ⟨g, cap, cur, e, h1, h2, h3⟩
  · exact .inl h0
  · exact .inr ⟨g, cap, cur, e, h1, (b.block g (Array.getElem?_eq_some_iff.1 h2).1).trans h2, h3⟩
/-- one byte is appended to row i: the world behind the append, then the slice is stored back -/
theorem Five.append (h : Five w ga base s len xs) {i : Nat} (hi : i < 5) {o : Obj} {v' : Value} {u : Value} (ho : w'.ownsRow base 5 1 v' (len i + 1) (xs i ++ [u])) (hg : (w.alloc o).grownBy w' (s i).ownBlock)
    (hat : v'.ownBlock = (s i).ownBlock ∨ v'.ownBlock = some (w.heap.size + 1)) :
    Five (w'.setCell ⟨ga, i, none⟩ v') ga base (up s i v') (up len i (len i + 1)) (up xs i (xs i ++ [u])) := by
  obtain ⟨g, cap, hs, _, hglt, hne, _⟩ := h.form hi
  have hgb : (s i).ownBlock = some g := by rw [hs]; rfl
  have blk : Blk w' ga 22 (l5 s) := (h.1.alloc o).grown hg (by rw [hgb]; simpa using fun e => hne e.symm)
  have vne : v'.ownBlock ≠ some ga := by
    have hgl := h.1.lt
    rcases hat with e | e
    · rw [e, hgb]; simpa using hne
    · rw [e]; simp; omega
  refine ⟨?_, fun j hj => ?_, fun j k hj hk hjk => ?_⟩
  · rw [← l5_set s hi]
    exact blk.put i v'
  · by_cases hji : j = i
    · subst hji
      rw [up_same, up_same, up_same]
      exact ⟨own_other ho vne _, by omega⟩
    · rw [up_other _ _ hji, up_other _ _ hji, up_other _ _ hji]
      obtain ⟨g2, cap2, hs2, _, hg2, hne2, _⟩ := h.form hj
      have hd := h.2.2 j i hj hi hji
      have h1 := ((h.2.1 j hj).1.alloc o).kept hg (.inr hd)
      exact ⟨own_other h1 (by rw [hs2]; simpa [Value.ownBlock] using hne2) _, (h.2.1 j hj).2⟩
  · have key : ∀ j, j < 5 → j ≠ i → (s j).ownBlock ≠ v'.ownBlock := fun j hj hji => by
      obtain ⟨g2, cap2, hs2, _, hg2, _⟩ := h.form hj
      rcases hat with e | e
      · rw [e]; exact h.2.2 j i hj hi hji
      · rw [e, hs2]; simp [Value.ownBlock]; omega
    by_cases hji : j = i
    · subst hji
      rw [up_same, up_other _ _ (fun e => hjk e.symm)]
      exact fun e => key k hk (fun e => hjk e.symm) e.symm
    · rw [up_other _ _ hji]
      by_cases hki : k = i
      · subst hki
        rw [up_same]
        exact key j hj hji
      · rw [up_other _ _ hki]
        exact h.2.2 j k hj hk hjk
end
end Go.Proofs.Ytbnkmfmbbbcogaa.oc
