/-
  A stack's words and a plain row: one thread alone. Tops, followers, chains of nodes.
-/
import Derived.Test.YtjgbbjfphjhdcaaMzK
set_option linter.unusedVariables false
namespace Go.Proofs.Ytjgbbjfphjhdcaa.sk
open Go.RowKit Go.Proofs.Ytjgbbjfphjhdcaa.oc Go.Proofs.Ytjgbbjfphjhdcaa.mz
/-- a top's node and one; a top's follower -/
def nd (t : Nat) : Nat := t % 4294967296
def fol (t m : Nat) : Nat := (t / 4294967296 + 1) % 4294967296 * 4294967296 + m
theorem nd_fol {t m : Nat} (h : m < 4294967296) : nd (fol t m) = m := by unfold nd fol; omega
theorem fol_lt {t m : Nat} (h : m < 4294967296) : fol t m < 18446744073709551616 := by unfold fol; omega
theorem nd_lt (t : Nat) : nd t < 4294967296 := Nat.mod_lt _ (by omega)
attribute [irreducible] nd fol
/-- from the node and one x on the nodes are l -/
def Chain (ws : List Nat) : Nat → List Nat → Prop
  | x, [] => x = 0
  | x, i :: r => x = i ∧ Chain ws (ws[2 * i]?.getD 0) r
theorem Chain.set {ws : List Nat} {k v : Nat} : ∀ {l : List Nat} {x : Nat}, Chain ws x l → (∀ i ∈ l, 2 * i ≠ k) → Chain (ws.set k v) x l
  | [], x, h, _ => h
  | i :: r, x, h, hk => by
    refine ⟨h.1, ?_⟩
    rw [List.getElem?_set_ne (fun e => hk i (by simp) e.symm)]
    exact h.2.set (fun j hj => hk j (by simp [hj]))
theorem Chain.lt {ws : List Nat} {x n : Nat} {l : List Nat} (h : Chain ws x l) (hp : ∀ i ∈ l, i ≤ n) : x ≤ n := by
  cases l with
  | nil => have : x = 0 := h; omega
  | cons i r => have := hp i (by simp); have := h.1; omega
/-- the words behind a Push, a Pop of the node i -/
def pushW (v : Nat) (ws : List Nat) : List Nat :=
  let i := nd (ws[1]?.getD 0)
  (((ws.set 1 (fol (ws[1]?.getD 0) (ws[2 * i]?.getD 0))).set (2 * i + 1) v).set (2 * i) (nd (ws[0]?.getD 0))).set 0 (fol (ws[0]?.getD 0) i)
def popW (ws : List Nat) : List Nat :=
  let i := nd (ws[0]?.getD 0)
  ((ws.set 0 (fol (ws[0]?.getD 0) (ws[2 * i]?.getD 0))).set (2 * i) (nd (ws[1]?.getD 0))).set 1 (fol (ws[1]?.getD 0) i)
/-- the words ws hold the row, whose last one lies on top; the nodes sk lie on the stack, fr are free -/
structure Lk (n : Nat) (ws sk fr row : List Nat) : Prop where
  wid : 1 ≤ n ∧ n ≤ 1024
  len : ws.length = 2 * n + 2
  sk_ : Chain ws (nd (ws[0]?.getD 0)) sk
  fr_ : Chain ws (nd (ws[1]?.getD 0)) fr
  nodup : (sk ++ fr).Nodup
  rng : ∀ i ∈ sk ++ fr, 1 ≤ i ∧ i ≤ n
  all : sk.length + fr.length = n
  vals : row = (sk.map (fun i => ws[2 * i + 1]?.getD 0)).reverse
theorem Lk.rows {n : Nat} {ws sk fr row : List Nat} (h : Lk n ws sk fr row) : row.length = sk.length := by rw [h.vals]; simp
theorem Lk.full {n : Nat} {ws sk fr row : List Nat} (h : Lk n ws sk fr row) (hr : ¬ row.length < n) : nd (ws[1]?.getD 0) = 0 := by
  have h1 := h.rows
  have h2 := h.all
  have h3 : fr = [] := List.eq_nil_of_length_eq_zero (by omega)
  have := h.fr_
  rw [h3] at this
  exact this
theorem Lk.bare {n : Nat} {ws sk fr : List Nat} (h : Lk n ws sk fr []) : nd (ws[0]?.getD 0) = 0 := by
  have h1 := h.rows
  have h3 : sk = [] := List.eq_nil_of_length_eq_zero (by simpa using h1.symm)
  have := h.sk_
  rw [h3] at this
  exact this
/-- there is a free node -/
theorem Lk.room {n : Nat} {ws sk fr row : List Nat} (h : Lk n ws sk fr row) (hr : row.length < n) : ∃ i r, fr = i :: r ∧ nd (ws[1]?.getD 0) = i ∧ 1 ≤ i ∧ i ≤ n ∧ ws[2 * i]?.getD 0 ≤ n := by
  have h1 := h.rows
  have h2 := h.all
  cases hf : fr with
  | nil => rw [hf] at h2; simp at h2; omega
  | cons i r =>
    have h3 := h.fr_
    rw [hf] at h3
    have h4 := h.rng i (by simp [hf])
    exact ⟨i, r, rfl, h3.1, h4.1, h4.2, h3.2.lt (fun j hj => (h.rng j (by simp [hf, hj])).2)⟩
/-- there is one that lies there, with the row's last number -/
theorem Lk.last {n : Nat} {ws sk fr row : List Nat} {x : Nat} (h : Lk n ws sk fr (row ++ [x])) : ∃ i r, sk = i :: r ∧ nd (ws[0]?.getD 0) = i ∧ 1 ≤ i ∧ i ≤ n ∧ ws[2 * i]?.getD 0 ≤ n ∧ ws[2 * i + 1]?.getD 0 = x := by
  have h1 := h.vals
  cases hs : sk with
  | nil => rw [hs] at h1; simp at h1
  | cons i r =>
    have h3 := h.sk_
    rw [hs] at h3
    have h4 := h.rng i (by simp [hs])
    rw [hs] at h1
    simp only [List.map_cons, List.reverse_cons] at h1
    have h5 := List.append_inj_right' h1 rfl
    refine ⟨i, r, rfl, h3.1, h4.1, h4.2, h3.2.lt (fun j hj => (h.rng j (by simp [hs, hj])).2), ?_⟩
    simpa using h5.symm
theorem Lk.push {n : Nat} {ws sk fr row : List Nat} {v : Nat} (h : Lk n ws sk fr row) (hr : row.length < n) : ∃ i r, fr = i :: r ∧ Lk n (pushW v ws) (i :: sk) r (row ++ [v]) := by
  obtain ⟨i, r, hf, hi, h1, h2, h3⟩ := h.room hr
  have hl := h.len
  have hw := h.wid
  have hs := h.sk_
  have hfr := h.fr_
  have hnd := h.nodup
  have hrng := h.rng
  have hall := h.all
  have hv := h.vals
  subst hf
  have hni : i ∉ sk ∧ i ∉ r := by
    rw [List.nodup_append] at hnd
    refine ⟨fun z => hnd.2.2 i z i (by simp) rfl, ?_⟩
    have := hnd.2.1
    rw [List.nodup_cons] at this
    exact this.1
  refine ⟨i, r, rfl, ?_⟩
  unfold pushW
  simp only [hi]
  have e0 : (((((ws.set 1 (fol (ws[1]?.getD 0) (ws[2 * i]?.getD 0))).set (2 * i + 1) v).set (2 * i) (nd (ws[0]?.getD 0))).set 0 (fol (ws[0]?.getD 0) i)))[0]?.getD 0 = fol (ws[0]?.getD 0) i := by
    rw [List.getElem?_set_self (by simp; omega)]; rfl
  have e1 : (((((ws.set 1 (fol (ws[1]?.getD 0) (ws[2 * i]?.getD 0))).set (2 * i + 1) v).set (2 * i) (nd (ws[0]?.getD 0))).set 0 (fol (ws[0]?.getD 0) i)))[1]?.getD 0 = fol (ws[1]?.getD 0) (ws[2 * i]?.getD 0) := by
    rw [List.getElem?_set_ne (by omega), List.getElem?_set_ne (by omega), List.getElem?_set_ne (by omega), List.getElem?_set_self (by omega)]; rfl
  have ei : (((((ws.set 1 (fol (ws[1]?.getD 0) (ws[2 * i]?.getD 0))).set (2 * i + 1) v).set (2 * i) (nd (ws[0]?.getD 0))).set 0 (fol (ws[0]?.getD 0) i)))[2 * i]?.getD 0 = nd (ws[0]?.getD 0) := by
    rw [List.getElem?_set_ne (by omega), List.getElem?_set_self (by simp; omega)]; rfl
  have ev : (((((ws.set 1 (fol (ws[1]?.getD 0) (ws[2 * i]?.getD 0))).set (2 * i + 1) v).set (2 * i) (nd (ws[0]?.getD 0))).set 0 (fol (ws[0]?.getD 0) i)))[2 * i + 1]?.getD 0 = v := by
    rw [List.getElem?_set_ne (by omega), List.getElem?_set_ne (by omega), List.getElem?_set_self (by simp; omega)]; rfl
  have eo : ∀ j ∈ sk, (((((ws.set 1 (fol (ws[1]?.getD 0) (ws[2 * i]?.getD 0))).set (2 * i + 1) v).set (2 * i) (nd (ws[0]?.getD 0))).set 0 (fol (ws[0]?.getD 0) i)))[2 * j + 1]?.getD 0 = ws[2 * j + 1]?.getD 0 := fun j hj => by
    have hne : j ≠ i := fun e => hni.1 (e ▸ hj)
    have := (hrng j (by simp [hj])).1
    rw [List.getElem?_set_ne (by omega), List.getElem?_set_ne (by omega), List.getElem?_set_ne (by omega), List.getElem?_set_ne (by omega)]
  refine ⟨hw, by simpa using hl, ?_, ?_, ?_, ?_, ?_, ?_⟩
  · rw [e0, nd_fol (by omega)]
    refine ⟨rfl, ?_⟩
    rw [ei]
    refine (((hs.set ?_).set ?_).set ?_).set ?_
    · intro j hj; have := (hrng j (by simp [hj])).1; omega
    · intro j hj; omega
    · intro j hj e; have : j = i := by omega
      exact hni.1 (this ▸ hj)
    · intro j hj; have := (hrng j (by simp [hj])).1; omega
  · rw [e1, nd_fol (by omega)]
    refine (((hfr.2.set ?_).set ?_).set ?_).set ?_
    · intro j hj; have := (hrng j (by simp [hj])).1; omega
    · intro j hj; omega
    · intro j hj e; have : j = i := by omega
      exact hni.2 (this ▸ hj)
    · intro j hj; have := (hrng j (by simp [hj])).1; omega
  · have : (sk ++ i :: r).Perm (i :: sk ++ r) := List.perm_middle
    exact this.nodup_iff.1 hnd
  · intro j hj
    exact hrng j (by simp at hj ⊢; rcases hj with z | z | z <;> simp [z])
  · simp at hall ⊢; omega
  · simp only [List.map_cons, List.reverse_cons, ev]
    rw [hv, List.map_congr_left eo]
theorem Lk.pop {n : Nat} {ws sk fr row : List Nat} {x : Nat} (h : Lk n ws sk fr (row ++ [x])) : ∃ i r, sk = i :: r ∧ Lk n (popW ws) r (i :: fr) row := by
  obtain ⟨i, r, hf, hi, h1, h2, h3, h4⟩ := h.last
  have hl := h.len
  have hw := h.wid
  have hs := h.sk_
  have hfr := h.fr_
  have hnd := h.nodup
  have hrng := h.rng
  have hall := h.all
  have hv := h.vals
  subst hf
  have hni : i ∉ r ∧ i ∉ fr := by
    simp only [List.cons_append, List.nodup_cons, List.mem_append, not_or] at hnd
    exact hnd.1
  refine ⟨i, r, rfl, ?_⟩
  unfold popW
  simp only [hi]
  have e1 : (((ws.set 0 (fol (ws[0]?.getD 0) (ws[2 * i]?.getD 0))).set (2 * i) (nd (ws[1]?.getD 0))).set 1 (fol (ws[1]?.getD 0) i))[1]?.getD 0 = fol (ws[1]?.getD 0) i := by
    rw [List.getElem?_set_self (by simp; omega)]; rfl
  have e0 : (((ws.set 0 (fol (ws[0]?.getD 0) (ws[2 * i]?.getD 0))).set (2 * i) (nd (ws[1]?.getD 0))).set 1 (fol (ws[1]?.getD 0) i))[0]?.getD 0 = fol (ws[0]?.getD 0) (ws[2 * i]?.getD 0) := by
    rw [List.getElem?_set_ne (by omega), List.getElem?_set_ne (by omega), List.getElem?_set_self (by omega)]; rfl
  have ei : (((ws.set 0 (fol (ws[0]?.getD 0) (ws[2 * i]?.getD 0))).set (2 * i) (nd (ws[1]?.getD 0))).set 1 (fol (ws[1]?.getD 0) i))[2 * i]?.getD 0 = nd (ws[1]?.getD 0) := by
    rw [List.getElem?_set_ne (by omega), List.getElem?_set_self (by simp; omega)]; rfl
  have eo : ∀ j ∈ r, (((ws.set 0 (fol (ws[0]?.getD 0) (ws[2 * i]?.getD 0))).set (2 * i) (nd (ws[1]?.getD 0))).set 1 (fol (ws[1]?.getD 0) i))[2 * j + 1]?.getD 0 = ws[2 * j + 1]?.getD 0 := fun j hj => by
    have hne : j ≠ i := fun e => hni.1 (e ▸ hj)
    have := (hrng j (by simp [hj])).1
    rw [List.getElem?_set_ne (by omega), List.getElem?_set_ne (by omega), List.getElem?_set_ne (by omega)]
  refine ⟨hw, by simpa using hl, ?_, ?_, ?_, ?_, ?_, ?_⟩
  · rw [e0, nd_fol (by omega)]
    refine ((hs.2.set ?_).set ?_).set ?_
    · intro j hj; have := (hrng j (by simp [hj])).1; omega
    · intro j hj e; have : j = i := by omega
      exact hni.1 (this ▸ hj)
    · intro j hj; have := (hrng j (by simp [hj])).1; omega
  · rw [e1, nd_fol (by omega)]
    refine ⟨rfl, ?_⟩
    rw [ei]
    refine ((hfr.set ?_).set ?_).set ?_
    · intro j hj; have := (hrng j (by simp [hj])).1; omega
    · intro j hj e; have : j = i := by omega
      exact hni.2 (this ▸ hj)
    · intro j hj; have := (hrng j (by simp [hj])).1; omega
  · have : (i :: r ++ fr).Perm (r ++ i :: fr) := List.perm_middle.symm
    exact this.nodup_iff.1 hnd
  · intro j hj
    exact hrng j (by simp at hj ⊢; rcases hj with z | z | z <;> simp [z])
  · simp at hall ⊢; omega
  · simp only [List.map_cons, List.reverse_cons] at hv
    have h5 := List.append_inj_left' hv rfl
    rw [h5, List.map_congr_left eo]
/-- the words while New lays the nexts, k of them laid -/
def mid (n : Nat) : Nat → List Nat
  | 0 => (List.replicate (2 * n + 2) 0).set 1 1
  | k + 1 => (mid n k).set (2 * (k + 1)) (k + 2)
theorem mid_len (n : Nat) : ∀ k, (mid n k).length = 2 * n + 2
  | 0 => by simp [mid]
  | k + 1 => by simp [mid, mid_len n k]
theorem mid_sm (n : Nat) : ∀ k, k ≤ 2000 → ∀ x ∈ mid n k, x < 18446744073709551616
  | 0, _, x, hx => by
    simp only [mid] at hx
    rcases List.mem_or_eq_of_mem_set hx with q | q
    · have := (List.mem_replicate.1 q).2; omega
    · omega
  | k + 1, hk, x, hx => by
    simp only [mid] at hx
    rcases List.mem_or_eq_of_mem_set hx with q | q
    · exact mid_sm n k (by omega) x q
    · omega
theorem mid_top (n : Nat) : ∀ k, (mid n k)[0]?.getD 0 = 0 ∧ (mid n k)[1]?.getD 0 = 1
  | 0 => by simp [mid]
  | k + 1 => by
    have := mid_top n k
    simp only [mid]
    rw [List.getElem?_set_ne (by omega), List.getElem?_set_ne (by omega)]
    exact this
theorem mid_at (n : Nat) : ∀ k i, k ≤ n → 1 ≤ i → i ≤ n → (mid n k)[2 * i]?.getD 0 = if i ≤ k then i + 1 else 0
  | 0, i, hk, h1, hi => by
    rw [if_neg (by omega)]
    simp only [mid]
    rw [List.getElem?_set_ne (by omega), List.getElem?_replicate]
    split <;> rfl
  | k + 1, i, hk, h1, hi => by
    simp only [mid]
    by_cases he : i = k + 1
    · subst he
      rw [List.getElem?_set_self (by rw [mid_len]; omega), if_pos (by omega)]
      rfl
    · rw [List.getElem?_set_ne (by omega), mid_at n k i (by omega) h1 hi]
      by_cases hc : i ≤ k
      · rw [if_pos hc, if_pos (by omega)]
      · rw [if_neg hc, if_neg (by omega)]
theorem mid_chain (n : Nat) : ∀ l x, 1 ≤ x → x + l = n + 1 → Chain (mid n (n - 1)) (if l = 0 then 0 else x) (List.range' x l)
  | 0, x, _, _ => by simp [Chain]
  | l + 1, x, h1, h2 => by
    rw [List.range'_succ]
    refine ⟨by simp, ?_⟩
    rw [mid_at n (n - 1) x (by omega) h1 (by omega)]
    have := mid_chain n l (x + 1) (by omega) (by omega)
    by_cases hl : l = 0
    · subst hl
      rw [if_neg (by omega)]
      exact this
    · rw [if_pos (by omega)]
      rwa [if_neg hl] at this
theorem Lk.start {n : Nat} (h1 : 1 ≤ n) (h2 : n ≤ 1024) : Lk n (mid n (n - 1)) [] (List.range' 1 n) [] := by
  refine ⟨⟨h1, h2⟩, mid_len _ _, ?_, ?_, by simpa using List.nodup_range' .., fun i hi => ?_, by simp, rfl⟩
  · rw [(mid_top n _).1]; unfold nd; rfl
  · rw [(mid_top n _).2, show nd 1 = 1 from by unfold nd; rfl]
    have := mid_chain n n 1 (by omega) (by omega)
    rwa [if_neg (by omega)] at this
  · simp [List.mem_range'] at hi
    omega
end Go.Proofs.Ytjgbbjfphjhdcaa.sk
