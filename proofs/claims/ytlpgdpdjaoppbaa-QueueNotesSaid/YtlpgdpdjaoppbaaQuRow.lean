/-
  A queue's words and a plain row: one thread alone.
-/
import Derived.Test.YtlpgdpdjaoppbaaQu
set_option linter.unusedVariables false
namespace Go.Proofs.Ytlpgdpdjaoppbaa.qu
open Go.RowKit Go.Proofs.Ytlpgdpdjaoppbaa.oc Go.Proofs.Ytlpgdpdjaoppbaa.mz
def pows : List Nat := [2, 4, 8, 16, 32, 64, 128, 256, 512, 1024]
theorem pows_le {n : Nat} (h : n ∈ pows) : 2 ≤ n ∧ n ≤ 1024 := by
  simp [pows] at h
  omega
theorem seq_mod {n : Nat} (h : n ∈ pows) (c : Nat) : seqOf n c = 2 * (c % n) + 2 := by
  unfold seqOf
  rw [Nat.and_comm]
  have : ∃ k, n = 2 ^ k := by
    simp only [pows, List.mem_cons, List.not_mem_nil, or_false] at h
    rcases h with rfl | rfl | rfl | rfl | rfl | rfl | rfl | rfl | rfl | rfl
    · exact ⟨1, rfl⟩
    · exact ⟨2, rfl⟩
    · exact ⟨3, rfl⟩
    · exact ⟨4, rfl⟩
    · exact ⟨5, rfl⟩
    · exact ⟨6, rfl⟩
    · exact ⟨7, rfl⟩
    · exact ⟨8, rfl⟩
    · exact ⟨9, rfl⟩
    · exact ⟨10, rfl⟩
  obtain ⟨k, rfl⟩ := this
  rw [Nat.and_two_pow_sub_one_eq_mod]
theorem seq_ne {n : Nat} (h : n ∈ pows) (t : Nat) {i j : Nat} (hi : i < n) (hj : j < n) (hne : i ≠ j) : seqOf n (t + i) ≠ seqOf n (t + j) := by
  rw [seq_mod h, seq_mod h]
  have key : ∀ a b, a < b → b < n → (t + a) % n ≠ (t + b) % n := fun a b hab hb e => by
    have := Nat.sub_mod_eq_zero_of_mod_eq e.symm
    rw [show t + b - (t + a) = b - a from by omega, Nat.mod_eq_of_lt (by omega)] at this
    omega
  intro e
  rcases Nat.lt_or_gt_of_ne hne with q | q
  · exact key i j q hj (by omega)
  · exact key j i q hi (by omega)
/-- a pair of slots is apart: the words of another one's slot -/
theorem seq_far {n a b : Nat} (h : n ∈ pows) (hne : seqOf n a ≠ seqOf n b) : seqOf n a ≠ seqOf n b + 1 ∧ seqOf n a + 1 ≠ seqOf n b := by
  rw [seq_mod h, seq_mod h] at *
  omega
theorem seq_up {n : Nat} (h : n ∈ pows) (c : Nat) : seqOf n (c + n) = seqOf n c := by rw [seq_mod h, seq_mod h, Nat.add_mod_right]
/-- the words behind a Put, a Take -/
def putW (n v : Nat) (ws : List Nat) : List Nat := ((ws.set 0 (ws[0]?.getD 0 + 1)).set (seqOf n (ws[0]?.getD 0) + 1) v).set (seqOf n (ws[0]?.getD 0)) (ws[0]?.getD 0 + 1)
def takeW (n : Nat) (ws : List Nat) : List Nat := (ws.set 1 (ws[1]?.getD 0 + 1)).set (seqOf n (ws[1]?.getD 0)) (ws[1]?.getD 0 + n)
/-- the words ws hold the row, at most c puts were done -/
structure Lk (n : Nat) (ws row : List Nat) (c : Nat) : Prop where
  wid : n ∈ pows
  len : ws.length = 2 * n + 2
  end_ : ws[0]?.getD 0 = ws[1]?.getD 0 + row.length
  few : row.length ≤ n
  low : ws[0]?.getD 0 ≤ c
  at_ : ∀ j x, row[j]? = some x → ws[seqOf n (ws[1]?.getD 0 + j)]?.getD 0 = ws[1]?.getD 0 + j + 1 ∧ ws[seqOf n (ws[1]?.getD 0 + j) + 1]?.getD 0 = x
  free : ∀ j, row.length ≤ j → j < n → ws[seqOf n (ws[1]?.getD 0 + j)]?.getD 0 = ws[1]?.getD 0 + j
theorem Lk.more {n : Nat} {ws row : List Nat} {c c' : Nat} (h : Lk n ws row c) (hc : c ≤ c') : Lk n ws row c' := ⟨h.wid, h.len, h.end_, h.few, by have := h.low; omega, h.at_, h.free⟩
/-- there is room: the put ticket's slot says so -/
theorem Lk.room {n : Nat} {ws row : List Nat} {c : Nat} (h : Lk n ws row c) (hr : row.length < n) : ws[seqOf n (ws[0]?.getD 0)]?.getD 0 = ws[0]?.getD 0 := by
  rw [h.end_]; exact h.free _ (Nat.le_refl _) hr
theorem Lk.full {n : Nat} {ws row : List Nat} {c : Nat} (h : Lk n ws row c) (hr : ¬ row.length < n) : ws[seqOf n (ws[0]?.getD 0)]?.getD 0 < ws[0]?.getD 0 := by
  have hl : row.length = n := by have := h.few; omega
  have hp := pows_le h.wid
  obtain ⟨x, hx⟩ : ∃ x, row[0]? = some x := ⟨_, List.getElem?_eq_getElem (by omega)⟩
  have h1 := (h.at_ 0 x hx).1
  rw [Nat.add_zero] at h1
  rw [h.end_, hl, seq_up h.wid, h1]
  omega
theorem Lk.bare {n : Nat} {ws : List Nat} {c : Nat} (h : Lk n ws [] c) : ws[seqOf n (ws[1]?.getD 0)]?.getD 0 = ws[1]?.getD 0 := by
  have hp := pows_le h.wid
  have := h.free 0 (by simp) (by omega)
  simpa using this
theorem Lk.first {n : Nat} {ws r : List Nat} {c x : Nat} (h : Lk n ws (x :: r) c) : ws[seqOf n (ws[1]?.getD 0)]?.getD 0 = ws[1]?.getD 0 + 1 ∧ ws[seqOf n (ws[1]?.getD 0) + 1]?.getD 0 = x := by
  have := h.at_ 0 x rfl
  simpa using this
theorem Lk.put {n : Nat} {ws row : List Nat} {c v : Nat} (h : Lk n ws row c) (hr : row.length < n) : Lk n (putW n v ws) (row ++ [v]) (c + 1) := by
  have hl := h.len
  have he := h.end_
  have hlow := h.low
  have hp := pows_le h.wid
  have hs := seqOf_lt hp.1 (ws[0]?.getD 0)
  have e0 : (putW n v ws)[0]?.getD 0 = ws[0]?.getD 0 + 1 := by
    unfold putW
    rw [List.getElem?_set_ne (by omega), List.getElem?_set_ne (by omega), List.getElem?_set_self (by omega)]; rfl
  have e1 : (putW n v ws)[1]?.getD 0 = ws[1]?.getD 0 := by
    unfold putW
    rw [List.getElem?_set_ne (by omega), List.getElem?_set_ne (by omega), List.getElem?_set_ne (by omega)]
  have eo : ∀ k, 2 ≤ k → k ≠ seqOf n (ws[0]?.getD 0) → k ≠ seqOf n (ws[0]?.getD 0) + 1 → (putW n v ws)[k]?.getD 0 = ws[k]?.getD 0 := fun k h1 h2 h3 => by
    unfold putW
    rw [List.getElem?_set_ne (by omega), List.getElem?_set_ne (by omega), List.getElem?_set_ne (by omega)]
  have es : (putW n v ws)[seqOf n (ws[0]?.getD 0)]?.getD 0 = ws[0]?.getD 0 + 1 := by
    unfold putW
    rw [List.getElem?_set_self (by simp; omega)]; rfl
  have ev : (putW n v ws)[seqOf n (ws[0]?.getD 0) + 1]?.getD 0 = v := by
    unfold putW
    rw [List.getElem?_set_ne (by omega), List.getElem?_set_self (by simp; omega)]; rfl
  have el : (putW n v ws).length = 2 * n + 2 := by unfold putW; simpa using hl
  generalize putW n v ws = ws' at *
  refine ⟨h.wid, ?_, by rw [e0, e1, he]; simp; omega, by simp; omega, by rw [e0]; omega, fun j x hj => ?_, fun j h1 h2 => ?_⟩
  · exact el
  · rw [e1]
    have hjl : j < row.length + 1 := by have := (List.getElem?_eq_some_iff.1 hj).1; simpa using this
    rcases Nat.lt_or_ge j row.length with q | q
    · rw [List.getElem?_append_left q] at hj
      have hne : seqOf n (ws[1]?.getD 0 + j) ≠ seqOf n (ws[0]?.getD 0) := by rw [he]; exact seq_ne h.wid _ (by omega) hr (by omega)
      have hf := seq_far h.wid hne
      have hs2 := seqOf_lt hp.1 (ws[1]?.getD 0 + j)
      rw [eo _ (by omega) hne hf.1, eo _ (by omega) hf.2 (by omega)]
      exact h.at_ j x hj
    · obtain rfl : j = row.length := by omega
      have : v = x := by simpa using hj
      rw [← he, es, ev]
      exact ⟨rfl, this⟩
  · simp only [List.length_append, List.length_singleton] at h1
    rw [e1]
    have hne : seqOf n (ws[1]?.getD 0 + j) ≠ seqOf n (ws[0]?.getD 0) := by rw [he]; exact seq_ne h.wid _ h2 hr (by omega)
    have hf := seq_far h.wid hne
    have hs2 := seqOf_lt hp.1 (ws[1]?.getD 0 + j)
    rw [eo _ (by omega) hne hf.1]
    exact h.free j (by omega) h2
theorem Lk.take {n : Nat} {ws r : List Nat} {c x : Nat} (h : Lk n ws (x :: r) c) : Lk n (takeW n ws) r c := by
  have hl := h.len
  have he := h.end_
  have hfew := h.few
  simp only [List.length_cons] at he hfew
  have hlow := h.low
  have hp := pows_le h.wid
  have hs := seqOf_lt hp.1 (ws[1]?.getD 0)
  have e0 : (takeW n ws)[0]?.getD 0 = ws[0]?.getD 0 := by
    unfold takeW
    rw [List.getElem?_set_ne (by omega), List.getElem?_set_ne (by omega)]
  have e1 : (takeW n ws)[1]?.getD 0 = ws[1]?.getD 0 + 1 := by
    unfold takeW
    rw [List.getElem?_set_ne (by omega), List.getElem?_set_self (by omega)]; rfl
  have eo : ∀ k, 2 ≤ k → k ≠ seqOf n (ws[1]?.getD 0) → (takeW n ws)[k]?.getD 0 = ws[k]?.getD 0 := fun k h1 h2 => by
    unfold takeW
    rw [List.getElem?_set_ne (by omega), List.getElem?_set_ne (by omega)]
  have es : (takeW n ws)[seqOf n (ws[1]?.getD 0)]?.getD 0 = ws[1]?.getD 0 + n := by
    unfold takeW
    rw [List.getElem?_set_self (by simp; omega)]; rfl
  have el : (takeW n ws).length = 2 * n + 2 := by unfold takeW; simpa using hl
  generalize takeW n ws = ws' at *
  refine ⟨h.wid, el, by rw [e0, e1, he]; omega, by omega, by rw [e0]; omega, fun j y hj => ?_, fun j h1 h2 => ?_⟩
  · rw [e1]
    have hjl : j < r.length := (List.getElem?_eq_some_iff.1 hj).1
    have hne : seqOf n (ws[1]?.getD 0 + 1 + j) ≠ seqOf n (ws[1]?.getD 0) := by
      have := seq_ne h.wid (ws[1]?.getD 0) (i := j + 1) (j := 0) (by omega) (by omega) (by omega)
      rwa [Nat.add_zero, show ws[1]?.getD 0 + (j + 1) = ws[1]?.getD 0 + 1 + j from by omega] at this
    have hf := seq_far h.wid hne
    have hs2 := seqOf_lt hp.1 (ws[1]?.getD 0 + 1 + j)
    rw [eo _ (by omega) hne, eo _ (by omega) hf.2]
    have := h.at_ (j + 1) y (by simpa using hj)
    rwa [show ws[1]?.getD 0 + (j + 1) = ws[1]?.getD 0 + 1 + j from by omega] at this
  · rw [e1]
    rcases Nat.lt_or_ge (j + 1) n with q | q
    · have hne : seqOf n (ws[1]?.getD 0 + 1 + j) ≠ seqOf n (ws[1]?.getD 0) := by
        have := seq_ne h.wid (ws[1]?.getD 0) (i := j + 1) (j := 0) q (by omega) (by omega)
        rwa [Nat.add_zero, show ws[1]?.getD 0 + (j + 1) = ws[1]?.getD 0 + 1 + j from by omega] at this
      have hs2 := seqOf_lt hp.1 (ws[1]?.getD 0 + 1 + j)
      rw [eo _ (by omega) hne]
      have := h.free (j + 1) (by simp; omega) q
      rwa [show ws[1]?.getD 0 + (j + 1) = ws[1]?.getD 0 + 1 + j from by omega] at this
    · rw [show ws[1]?.getD 0 + 1 + j = ws[1]?.getD 0 + n from by omega, seq_up h.wid, es]
/-- the words of a queue without values -/
def slots : Nat → Nat → List Nat
  | _, 0 => []
  | i, k + 1 => i :: 0 :: slots (i + 1) k
def startW (n : Nat) : List Nat := 0 :: 0 :: slots 0 n
theorem slots_len : ∀ (k i : Nat), (slots i k).length = 2 * k
  | 0, i => rfl
  | k + 1, i => by simp [slots, slots_len k]; omega
theorem slots_at : ∀ (k i j : Nat), j < k → (slots i k)[2 * j]?.getD 0 = i + j
  | k + 1, i, 0, h => by simp [slots]
  | k + 1, i, j + 1, h => by
    rw [show 2 * (j + 1) = 2 * j + 1 + 1 from by omega]
    simp only [slots, List.getElem?_cons_succ]
    rw [slots_at k (i + 1) j (by omega)]
    omega
theorem Lk.start {n : Nat} (h : n ∈ pows) : Lk n (startW n) [] 0 := by
  refine ⟨h, by simp [startW, slots_len], by simp [startW], by simp, by simp [startW], fun j x hj => by simp at hj, fun j _ h2 => ?_⟩
  have e1 : (startW n)[1]?.getD 0 = 0 := rfl
  rw [e1, Nat.zero_add, seq_mod h, Nat.mod_eq_of_lt h2]
  simp only [startW, List.getElem?_cons_succ]
  rw [slots_at n 0 j h2]
  omega
end Go.Proofs.Ytlpgdpdjaoppbaa.qu
