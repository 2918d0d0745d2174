/-
  One slice of bytes, or two, summed and hashed.
-/
import Derived.Test.YtbnkmfmbbbcogaaOcWorks
import Derived.Test.YtbnkmfmbbbcogaaOcOpen
namespace Go.Proofs.Ytbnkmfmbbbcogaa.oc
open Go.RowKit

theorem small_flat {ps : List (List Nat)} (h : ∀ bs, bs ∈ ps → Small bs) : Small ps.flatten := fun x hx => by
  obtain ⟨l, hl, hx⟩ := List.mem_flatten.1 hx
  exact h l hl x hx
/-- one slice of bytes, summed: the world behind has one block more -/
theorem sum_one {w0 w : World} (b : Below w0.heap.size w0 w) {A : Option Addr} {bs : List Nat} {n c : Nat} (hn : bs.length = n) (hm : n ≤ 140737488355328) (hs : Small bs) (hr : Rd w w.heap.size A (by_ bs)) :
    Calls Try.prog 29 #[.slice (some ⟨w.heap.size, 0, none⟩) 1 1] (w.alloc (.cells #[.slice A n c] 22)) fun e w' => e = .returned (.int .u16 (csum bs : Nat)) ∧ Below w0.heap.size w0 w' := by
  have h := sum_any (some ⟨w.heap.size, 0, none⟩) [bs] 1 1 _ _ rfl (by omega) (by simpa using (by omega : bs.length ≤ 140737488355328)) (fun l hl => by simp at hl; subst hl; exact hs) (pt_one (t := 22) (c := c) hn hr (Nat.le_refl _))
  rw [show ([bs] : List (List Nat)).flatten = bs from by simp] at h
  exact h.mono fun e w' ⟨he, hw⟩ => ⟨he, by rw [← hw]; exact b.alloc b.size _⟩
theorem hash_one {w0 w : World} (b : Below w0.heap.size w0 w) {A : Option Addr} {bs : List Nat} {n c : Nat} (hn : bs.length = n) (hm : n ≤ 140737488355328) (hs : Small bs) (hr : Rd w w.heap.size A (by_ bs)) :
    Calls Try.prog 31 #[.slice (some ⟨w.heap.size, 0, none⟩) 1 1] (w.alloc (.cells #[.slice A n c] 22)) fun e w' => e = .returned (.int .u64 (fnv bs : Nat)) ∧ Below w0.heap.size w0 w' := by
  have h := hash_any (some ⟨w.heap.size, 0, none⟩) [bs] 1 1 _ _ rfl (by omega) (by simpa using (by omega : bs.length ≤ 140737488355328)) (fun l hl => by simp at hl; subst hl; exact hs) (pt_one (t := 22) (c := c) hn hr (Nat.le_refl _))
  rw [show ([bs] : List (List Nat)).flatten = bs from by simp] at h
  exact h.mono fun e w' ⟨he, hw⟩ => ⟨he, by rw [← hw]; exact b.alloc b.size _⟩

theorem pt_row {W : World} {B g : Nat} {t : TypeId} {ps : List (List Nat)} {cs : List Value} (hb : Blk W g t cs) (hg : g < B)
    (h : ∀ (k : Nat) (bs : List Nat), ps[k]? = some bs → ∃ A c, cs[k]? = some (Value.slice A bs.length c) ∧ Rd W B A (by_ bs)) : Pt W B (some ⟨g, 0, none⟩) ps := by
  intro k bs hk
  obtain ⟨A, c, h1, h2⟩ := h k bs hk
  exact ⟨g, 0, A, c, rfl, hg, by rw [Nat.zero_add, hb.cell]; exact h1, h2⟩
/-- two slices of bytes, summed as one -/
theorem sum_two {w0 w : World} (b : Below w0.heap.size w0 w) {A A' : Option Addr} {xs ys : List Nat} {n n' c c' : Nat} (hn : xs.length = n) (hn' : ys.length = n') (hm : n + n' ≤ 140737488355328) (hs : Small xs) (hs' : Small ys)
    (hr : Rd w w.heap.size A (by_ xs)) (hr' : Rd w w.heap.size A' (by_ ys)) :
    Calls Try.prog 29 #[.slice (some ⟨w.heap.size, 0, none⟩) 2 2] (w.alloc (.cells #[.slice A n c, .slice A' n' c'] 22)) fun e w' => e = .returned (.int .u16 (csum (xs ++ ys) : Nat)) ∧ Below w0.heap.size w0 w' := by
  subst hn
  subst hn'
  have r := (hr.alloc (Nat.le_refl _) (.cells #[.slice A xs.length c, .slice A' ys.length c'] 22)).more (B' := w.heap.size + 1) (by omega)
  have r' := (hr'.alloc (Nat.le_refl _) (.cells #[.slice A xs.length c, .slice A' ys.length c'] 22)).more (B' := w.heap.size + 1) (by omega)
  have hb := Blk.new w 22 #[.slice A xs.length c, .slice A' ys.length c']
  have hp : Pt (w.alloc (.cells #[.slice A xs.length c, .slice A' ys.length c'] 22)) (w.heap.size + 1) (some ⟨w.heap.size, 0, none⟩) [xs, ys] := by
    refine pt_row (t := 22) hb (by omega) ?_
    intro k l hk
    rcases k with _ | _ | k
    · simp only [List.getElem?_cons_zero, Option.some.injEq] at hk
      subst hk
      exact ⟨A, c, by simp, r⟩
    · simp only [List.getElem?_cons_succ, List.getElem?_cons_zero, Option.some.injEq] at hk
      subst hk
      exact ⟨A', c', by simp, r'⟩
    · simp at hk
  have e : ([xs, ys] : List (List Nat)).flatten = xs ++ ys := by simp
  have h := sum_any (some ⟨w.heap.size, 0, none⟩) [xs, ys] 2 2 _ _ rfl (by omega) (by rw [e, List.length_append]; exact hm) (fun l hl => by simp at hl; rcases hl with rfl | rfl; exact hs; exact hs') hp
  rw [e] at h
  exact h.mono fun e w' ⟨he, hw⟩ => ⟨he, by rw [← hw]; exact b.alloc b.size _⟩

end Go.Proofs.Ytbnkmfmbbbcogaa.oc
