/-
  A ring's words and a plain row: one thread alone.
-/
import Derived.Test.YtmkgjiejkfbdlaaRgOp
set_option linter.unusedVariables false
namespace Go.Proofs.Ytmkgjiejkfbdlaa.rg
open Go.RowKit Go.Proofs.Ytmkgjiejkfbdlaa.oc Go.Proofs.Ytmkgjiejkfbdlaa.mz
/-- the words ws hold the row, at most c puts were done -/
structure Lk (n : Nat) (ws row : List Nat) (c : Nat) : Prop where
  wid : n = 1 ∨ n = 2 ∨ n = 4 ∨ n = 8
  len : ws.length = n + 2
  end_ : ws[1]?.getD 0 = ws[0]?.getD 0 + row.length
  few : row.length ≤ n
  low : ws[0]?.getD 0 + row.length ≤ c
  at_ : ∀ j x, row[j]? = some x → ws[slotOf n (ws[0]?.getD 0 + j)]?.getD 0 = x
theorem slot_mod {n : Nat} (h : n = 1 ∨ n = 2 ∨ n = 4 ∨ n = 8) (c : Nat) : slotOf n c = c % n + 2 := by
  unfold slotOf
  rw [Nat.and_comm]
  rcases h with rfl | rfl | rfl | rfl
  · rw [show (1 : Nat) - 1 = 2 ^ 0 - 1 from rfl, Nat.and_two_pow_sub_one_eq_mod]
  · rw [show (2 : Nat) - 1 = 2 ^ 1 - 1 from rfl, Nat.and_two_pow_sub_one_eq_mod]
  · rw [show (4 : Nat) - 1 = 2 ^ 2 - 1 from rfl, Nat.and_two_pow_sub_one_eq_mod]
  · rw [show (8 : Nat) - 1 = 2 ^ 3 - 1 from rfl, Nat.and_two_pow_sub_one_eq_mod]
theorem Lk.start {n : Nat} (h : n = 1 ∨ n = 2 ∨ n = 4 ∨ n = 8) : Lk n (List.replicate (n + 2) 0) [] 0 := by
  refine ⟨h, by simp, by simp, by simp, by simp, fun j x hj => by simp at hj⟩
theorem Lk.more {n : Nat} {ws row : List Nat} {c c' : Nat} (h : Lk n ws row c) (hc : c ≤ c') : Lk n ws row c' := ⟨h.wid, h.len, h.end_, h.few, by have := h.low; omega, h.at_⟩
theorem Lk.dif {n : Nat} {ws row : List Nat} {c : Nat} (h : Lk n ws row c) (hc : c < 100000) : dif ws = row.length := by
  have h1 := h.end_
  have h2 := h.low
  have h3 := h.wid
  have h4 := h.few
  unfold rg.dif
  rw [h1]
  generalize ws[0]?.getD 0 = t at *
  generalize row.length = m at *
  omega
theorem Lk.put {n : Nat} {ws row : List Nat} {c v : Nat} (h : Lk n ws row c) (hc : c < 100000) (hr : row.length < n) : Lk n ((ws.set (slotOf n (ws[1]?.getD 0)) v).set 1 ((ws[1]?.getD 0 + 1) % 18446744073709551616)) (row ++ [v]) (c + 1) := by
  have hl := h.len
  have he := h.end_
  have hlow := h.low
  have hw := h.wid
  have hn : 0 < n := by omega
  have hsl := slotOf_lt hn (ws[1]?.getD 0)
  have hs2 := slot_mod hw (ws[1]?.getD 0)
  have e0 : ((ws.set (slotOf n (ws[1]?.getD 0)) v).set 1 ((ws[1]?.getD 0 + 1) % 18446744073709551616))[0]?.getD 0 = ws[0]?.getD 0 := by
    rw [List.getElem?_set_ne (by omega), List.getElem?_set_ne (by omega)]
  have e1 : ((ws.set (slotOf n (ws[1]?.getD 0)) v).set 1 ((ws[1]?.getD 0 + 1) % 18446744073709551616))[1]?.getD 0 = ws[1]?.getD 0 + 1 := by
    rw [List.getElem?_set_self (by simp; omega)]
    show (ws[1]?.getD 0 + 1) % 18446744073709551616 = _
    exact Nat.mod_eq_of_lt (by omega)
  refine ⟨hw, by simpa using hl, by rw [e0, e1, he]; simp; omega, by simp; omega, by rw [e0]; simp; omega, fun j x hj => ?_⟩
  rw [e0]
  have hjl : j < row.length + 1 := by have := (List.getElem?_eq_some_iff.1 hj).1; simpa using this
  have hsj := slot_mod hw (ws[0]?.getD 0 + j)
  rw [List.getElem?_set_ne (by omega)]
  rcases Nat.lt_or_ge j row.length with q | q
  · rw [List.getElem?_append_left q] at hj
    have hne : slotOf n (ws[1]?.getD 0) ≠ slotOf n (ws[0]?.getD 0 + j) := by
      rw [hs2, hsj, he]
      generalize ws[0]?.getD 0 = t at *
      intro e
      have e3 : (t + row.length) % n = (t + j) % n := by omega
      have e4 : (row.length - j) % n = 0 := by
        have : (t + j + (row.length - j)) % n = (t + j) % n := by rw [show t + j + (row.length - j) = t + row.length from by omega]; exact e3
        rcases hw with rfl | rfl | rfl | rfl <;> omega
      have : row.length - j < n := by omega
      rw [Nat.mod_eq_of_lt this] at e4
      omega
    rw [List.getElem?_set_ne hne]
    exact h.at_ j x hj
  · obtain rfl : j = row.length := by omega
    rw [← he, List.getElem?_set_self (by omega)]
    simpa using hj
theorem Lk.take {n : Nat} {ws r : List Nat} {c x : Nat} (h : Lk n ws (x :: r) c) (hc : c < 100000) : ¬ ws[0]?.getD 0 = ws[1]?.getD 0 ∧ ws[slotOf n (ws[0]?.getD 0)]?.getD 0 = x ∧ Lk n (ws.set 0 ((ws[0]?.getD 0 + 1) % 18446744073709551616)) r c := by
  have hl := h.len
  have he := h.end_
  have hlow := h.low
  have hfew := h.few
  simp only [List.length_cons] at he hlow hfew
  have hw := h.wid
  have e0 : (ws.set 0 ((ws[0]?.getD 0 + 1) % 18446744073709551616))[0]?.getD 0 = ws[0]?.getD 0 + 1 := by
    rw [List.getElem?_set_self (by omega)]
    show (ws[0]?.getD 0 + 1) % 18446744073709551616 = _
    exact Nat.mod_eq_of_lt (by omega)
  have e1 : (ws.set 0 ((ws[0]?.getD 0 + 1) % 18446744073709551616))[1]?.getD 0 = ws[1]?.getD 0 := by rw [List.getElem?_set_ne (by omega)]
  refine ⟨by omega, h.at_ 0 x rfl, hw, by simpa using hl, by rw [e0, e1, he]; omega, by omega, by rw [e0]; omega, fun j y hj => ?_⟩
  rw [e0]
  have hsj := slot_mod hw (ws[0]?.getD 0 + 1 + j)
  rw [List.getElem?_set_ne (by omega), show ws[0]?.getD 0 + 1 + j = ws[0]?.getD 0 + (j + 1) from by omega]
  exact h.at_ (j + 1) y (by simpa using hj)
theorem Lk.bare {n : Nat} {ws : List Nat} {c : Nat} (h : Lk n ws [] c) : ws[0]?.getD 0 = ws[1]?.getD 0 := by
  have := h.end_
  simp at this
  exact this.symm
end Go.Proofs.Ytmkgjiejkfbdlaa.rg
