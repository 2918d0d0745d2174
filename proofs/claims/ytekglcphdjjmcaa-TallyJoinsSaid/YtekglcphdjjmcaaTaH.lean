/-
  Rows of histograms: flat cells, appends.
-/
import Derived.Test.YtekglcphdjjmcaaJn
set_option linter.unusedVariables false
namespace Go.Proofs.Ytekglcphdjjmcaa.th
open Go.RowKit Go.Proofs.Ytekglcphdjjmcaa.oc Go.Proofs.Ytekglcphdjjmcaa.mz
def flat67 (ls : List (List Nat)) : List Value := ls.flatMap u64s
theorem flat67_len : ∀ {ls : List (List Nat)}, (∀ x ∈ ls, x.length = 67) → (flat67 ls).length = ls.length * 67
  | [], _ => by simp [flat67]
  | x :: r, h => by
    have ih := flat67_len (ls := r) (fun y hy => h y (by simp [hy]))
    have hx := h x (by simp)
    unfold flat67 at ih ⊢
    rw [List.flatMap_cons, List.length_append, ih, u64s, List.length_map, hx, List.length_cons]; omega
theorem flat67_at : ∀ {ls : List (List Nat)}, (∀ x ∈ ls, x.length = 67) → ∀ (j : Nat) (u : Value), (flat67 ls)[j]? = some u → ∃ x, ls[j / 67]? = some x ∧ (u64s x)[j % 67]? = some u
  | [], _, j, u, h => by simp [flat67] at h
  | x :: r, hl, j, u, h => by
    have hx := hl x (by simp)
    have hxl : (u64s x).length = 67 := by rw [u64s, List.length_map, hx]
    unfold flat67 at h
    rw [List.flatMap_cons] at h
    rcases Nat.lt_or_ge j 67 with q | q
    · rw [List.getElem?_append_left (by omega)] at h
      rw [Nat.div_eq_of_lt q, Nat.mod_eq_of_lt q]
      exact ⟨x, rfl, h⟩
    · rw [List.getElem?_append_right (by omega), hxl] at h
      obtain ⟨y, h1, h2⟩ := flat67_at (ls := r) (fun y hy => hl y (by simp [hy])) (j - 67) u h
      obtain ⟨m, rfl⟩ : ∃ m, j = m + 67 := ⟨j - 67, by omega⟩
      rw [Nat.add_sub_cancel] at h1 h2
      rw [Nat.add_div_right _ (by omega), Nat.add_mod_right]
      exact ⟨y, by simpa using h1, h2⟩
theorem flat67_in : ∀ {ls : List (List Nat)}, (∀ x ∈ ls, x.length = 67) → ∀ (i : Nat) (x : List Nat) (r : Nat) (u : Value), ls[i]? = some x → (u64s x)[r]? = some u → (flat67 ls)[i * 67 + r]? = some u
  | [], _, i, x, r, u, h, _ => by simp at h
  | y :: t, hl, i, x, r, u, h, hr => by
    have hy := hl y (by simp)
    have hyl : (u64s y).length = 67 := by rw [u64s, List.length_map, hy]
    unfold flat67
    rw [List.flatMap_cons]
    cases i with
    | zero =>
      simp at h
      subst h
      have : r < (u64s y).length := (List.getElem?_eq_some_iff.1 hr).1
      rw [List.getElem?_append_left (by omega), Nat.zero_mul, Nat.zero_add]
      exact hr
    | succ i =>
      have := flat67_in (ls := t) (fun z hz => hl z (by simp [hz])) i x r u (by simpa using h) hr
      rw [List.getElem?_append_right (by rw [hyl]; omega), hyl, show (i + 1) * 67 + r - 67 = i * 67 + r from by omega]
      exact this
theorem flat67_one (ls : List (List Nat)) : ∀ u ∈ flat67 ls, u.oneCell' = true := fun u hu => by
  simp only [flat67, List.mem_flatMap] at hu
  obtain ⟨x, _, hx⟩ := hu
  exact u64_one x u hx
theorem Hs.lens {w : World} {B n : Nat} {A : Option Addr} {l : List (List Nat)} (h : Hs w B A n l) : ∀ x ∈ l, x.length = 67 := fun x hx => by
  obtain ⟨i, hi, rfl⟩ := List.getElem_of_mem hx
  exact (h.2 i _ (List.getElem?_eq_getElem hi)).1
/-- the cells of a slice of histograms, one behind the other -/
theorem Hs.news {w : World} {B n b o : Nat} {l : List (List Nat)} (h : Hs w B (some ⟨b, o, none⟩) n l) : ∀ j u, (flat67 l)[j]? = some u → w.cell? ((⟨b, o, none⟩ : Addr).add j) = some u := fun j u hu => by
  obtain ⟨x, h1, h2⟩ := flat67_at h.lens j u hu
  obtain ⟨_, _, b', o', e, _, h3⟩ := h.2 _ x h1
  injection e with e
  injection e with e1 e2
  subst e1; subst e2
  rw [Addr.add_lit]
  have := h3 _ u h2
  rwa [Nat.add_assoc, Nat.div_add_mod'] at this
theorem Hs.of_own {w : World} {base : Nat} {t : TypeId} {v : Value} {n : Nat} {l : List (List Nat)} (h : w.ownsRow base t 67 v n (flat67 l)) (hl : l.length = n) (h67 : ∀ x ∈ l, x.length = 67) (h64 : ∀ x ∈ l, ∀ y ∈ x, y < 18446744073709551616) : ∃ A c, v = .slice A n c ∧ Hs w w.heap.size A n l := by
  obtain ⟨A, c, rfl, hr⟩ := rd_of_row h
  refine ⟨A, c, rfl, hl, fun i x hx => ?_⟩
  have hm : x ∈ l := List.mem_of_getElem? hx
  have hx67 := h67 x hm
  obtain ⟨u0, hu0⟩ : ∃ u, (u64s x)[0]? = some u := ⟨_, List.getElem?_eq_getElem (by rw [u64s, List.length_map]; omega)⟩
  obtain ⟨b, o, rfl, hb, _⟩ := hr _ _ (flat67_in h67 i x 0 u0 hx hu0)
  refine ⟨hx67, h64 x hm, b, o, rfl, hb, fun j v hv => ?_⟩
  obtain ⟨b', o', e, _, hc⟩ := hr _ _ (flat67_in h67 i x j v hx hv)
  injection e with e
  injection e with e1 e2
  subst e1; subst e2
  rw [Nat.add_assoc]
  exact hc
theorem hist_info : (Try.prog.info? 34).map (fun i => (i.zero, i.size, i.bytes)) = some (some (.agg zh), 67, 536) := by kernel_rfl
theorem load67 {w : World} {b q : Nat} {x : List Nat} (hx : x.length = 67) (h : w.rangeAt b q (u64s x)) : (loadCellsFrom ⟨b, q, none⟩ 0 67 #[]).run Try.prog w = .ok (u64s x).toArray w := by
  have hl : (u64s x).length = 67 := by rw [u64s, List.length_map, hx]
  have := run_loadCells_list (P := Try.prog) w ⟨b, q, none⟩ (u64s x) (fun j v hv => by rw [Addr.add_mid]; exact h j v hv)
  rw [hl] at this
  simpa [loadCells] using this
theorem hist_neq (xs : List Nat) (hx : xs.length = 67) (w : World) : (binOp .neq 34 (.agg (u64s xs).toArray) (.agg (u64s xs).toArray)).run Try.prog w = .ok (.bool false) w := by
  rw [run_neq_struct, eqa.hist_eq xs xs hx hx w]; simp
theorem hist_eql (xs ys : List Nat) (hx : xs.length = 67) (hy : ys.length = 67) (w : World) : (binOp .eql 34 (.agg (u64s xs).toArray) (.agg (u64s ys).toArray)).run Try.prog w = .ok (.bool (xs == ys)) w := by
  rw [run_eql_struct, eqa.hist_eq xs ys hx hy w]; rfl
end Go.Proofs.Ytekglcphdjjmcaa.th
