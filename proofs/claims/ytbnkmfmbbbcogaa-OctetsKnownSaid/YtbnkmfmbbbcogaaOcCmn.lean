/-
  How many first bits two lists of bytes have in common: plain words.
-/
import Derived.Test.YtbnkmfmbbbcogaaOcBit
import Derived.Lib.BitFns
namespace Go.Proofs.Ytbnkmfmbbbcogaa.oc
/-- how many of their first bits a and b have in common -/
def cmn : List Nat → List Nat → Nat
  | x :: a, y :: b => if x = y then 8 + cmn a b else 8 - Lib.bitLen (x ^^^ y)
  | _, _ => 0
theorem cmn_nil (a : List Nat) : cmn [] a = 0 := by cases a <;> rfl
theorem cmn_nil' (a : List Nat) : cmn a [] = 0 := by cases a <;> rfl
theorem cmn_comm (a b : List Nat) : cmn a b = cmn b a := by
  induction a generalizing b with
  | nil => rw [cmn_nil, cmn_nil']
  | cons x a ih =>
    cases b with
    | nil => rfl
    | cons y b =>
      by_cases h : x = y
      · simp [cmn, h, ih b]
      · simp [cmn, h, Ne.symm h, Nat.xor_comm]
theorem cmn_step {a b : List Nat} {k x : Nat} (ha : a[k]? = some x) (hb : b[k]? = some x) : cmn (a.drop k) (b.drop k) = 8 + cmn (a.drop (k + 1)) (b.drop (k + 1)) := by
  obtain ⟨h1, e1⟩ := List.getElem?_eq_some_iff.1 ha
  obtain ⟨h2, e2⟩ := List.getElem?_eq_some_iff.1 hb
  rw [List.drop_eq_getElem_cons h1, List.drop_eq_getElem_cons h2, e1, e2]
  simp [cmn]
theorem cmn_stop {a b : List Nat} {k x y : Nat} (ha : a[k]? = some x) (hb : b[k]? = some y) (hne : x ≠ y) : cmn (a.drop k) (b.drop k) = 8 - Lib.bitLen (x ^^^ y) := by
  obtain ⟨h1, e1⟩ := List.getElem?_eq_some_iff.1 ha
  obtain ⟨h2, e2⟩ := List.getElem?_eq_some_iff.1 hb
  rw [List.drop_eq_getElem_cons h1, List.drop_eq_getElem_cons h2, e1, e2]
  simp [cmn, hne]
theorem cmn_end {a b : List Nat} {k : Nat} (h : min a.length b.length ≤ k) : cmn (a.drop k) (b.drop k) = 0 := by
  rcases Nat.le_total a.length b.length with hl | hl
  · rw [List.drop_of_length_le (by omega), cmn_nil]
  · rw [List.drop_of_length_le (l := b) (by omega), cmn_nil']

theorem lead_bits : ∀ z : Fin 256, z.val ≠ 0 → 8 - Lib.bitLen z.val < 8 ∧ (∀ i : Fin 8, i.val < 8 - Lib.bitLen z.val → z.val / 2 ^ (7 - i.val) % 2 = 0) ∧ z.val / 2 ^ (7 - (8 - Lib.bitLen z.val)) % 2 = 1 := by decide +kernel
theorem xor_bit (x y r : Nat) : (x ^^^ y) / 2 ^ r % 2 = (x / 2 ^ r % 2 + y / 2 ^ r % 2) % 2 := by
  have h := Nat.testBit_xor x y r
  simp only [Nat.testBit_eq_decide_div_mod_eq] at h
  have h1 := Nat.mod_lt (x / 2 ^ r) (show 0 < 2 by omega)
  have h2 := Nat.mod_lt (y / 2 ^ r) (show 0 < 2 by omega)
  have h3 := Nat.mod_lt ((x ^^^ y) / 2 ^ r) (show 0 < 2 by omega)
  generalize (x ^^^ y) / 2 ^ r % 2 = z at *
  generalize x / 2 ^ r % 2 = p at *
  generalize y / 2 ^ r % 2 = q at *
  rcases (by omega : p = 0 ∨ p = 1) with rfl | rfl <;> rcases (by omega : q = 0 ∨ q = 1) with rfl | rfl <;> rcases (by omega : z = 0 ∨ z = 1) with rfl | rfl <;> simp at h ⊢
theorem bit_head (x : Nat) (a : List Nat) (i : Nat) (h : i < 8) : bitAt (x :: a) i = x / 2 ^ (7 - i) % 2 := by
  unfold bitAt
  rw [show i / 8 = 0 from by omega, show i % 8 = i from by omega]
  rfl
theorem bit_tail (x : Nat) (a : List Nat) (i : Nat) : bitAt (x :: a) (8 + i) = bitAt a i := by
  unfold bitAt
  rw [show (8 + i) / 8 = i / 8 + 1 from by omega, show (8 + i) % 8 = i % 8 from by omega]
  rfl
/-- the first bits are alike, the next one is not -/
theorem cmn_says (a b : List Nat) (ha : Small a) (hb : Small b) :
    cmn a b ≤ 8 * min a.length b.length ∧ (∀ i, i < cmn a b → bitAt a i = bitAt b i) ∧ (cmn a b < 8 * min a.length b.length → bitAt a (cmn a b) ≠ bitAt b (cmn a b)) := by
  induction a generalizing b with
  | nil => rw [cmn_nil]; exact ⟨by omega, fun i hi => by omega, fun h => by simp at h⟩
  | cons x a ih =>
    cases b with
    | nil => rw [cmn_nil']; exact ⟨by omega, fun i hi => by omega, fun h => by simp at h⟩
    | cons y b =>
      have hx := ha x (by simp)
      have hy := hb y (by simp)
      by_cases h : x = y
      · subst h
        obtain ⟨h1, h2, h3⟩ := ih b (fun z hz => ha z (List.mem_cons_of_mem _ hz)) (fun z hz => hb z (List.mem_cons_of_mem _ hz))
        have e : cmn (x :: a) (x :: b) = 8 + cmn a b := by simp [cmn]
        rw [e, List.length_cons, List.length_cons]
        refine ⟨by omega, fun i hi => ?_, fun hlt => ?_⟩
        · by_cases hi8 : i < 8
          · rw [bit_head _ _ _ hi8, bit_head _ _ _ hi8]
          · rw [show i = 8 + (i - 8) from by omega, bit_tail, bit_tail]
            exact h2 _ (by omega)
        · rw [bit_tail, bit_tail]
          exact h3 (by omega)
      · have e : cmn (x :: a) (y :: b) = 8 - Lib.bitLen (x ^^^ y) := by simp [cmn, h]
        have hz : x ^^^ y < 256 := Nat.xor_lt_two_pow (n := 8) hx hy
        have hz0 : x ^^^ y ≠ 0 := fun h0 => h (by have e := congrArg (· ^^^ y) h0; simpa [Nat.xor_assoc] using e)
        obtain ⟨l1, l2, l3⟩ := lead_bits ⟨x ^^^ y, hz⟩ hz0
        simp only at l1 l2 l3
        rw [e, List.length_cons, List.length_cons]
        generalize 8 - Lib.bitLen (x ^^^ y) = l at *
        refine ⟨by omega, fun i hi => ?_, fun _ => ?_⟩
        · rw [bit_head _ _ _ (by omega), bit_head _ _ _ (by omega)]
          have hb0 := l2 ⟨i, by omega⟩ hi
          simp only at hb0
          rw [xor_bit] at hb0
          have h1 := Nat.mod_lt (x / 2 ^ (7 - i)) (show 0 < 2 by omega)
          have h2 := Nat.mod_lt (y / 2 ^ (7 - i)) (show 0 < 2 by omega)
          omega
        · rw [bit_head _ _ _ l1, bit_head _ _ _ l1]
          rw [xor_bit] at l3
          intro he
          rw [he] at l3
          omega
theorem cmn_tri (a b c : List Nat) (ha : Small a) (hb : Small b) (hc : Small c) : min (cmn a b) (cmn b c) ≤ cmn a c := by
  obtain ⟨a1, a2, a3⟩ := cmn_says a b ha hb
  obtain ⟨b1, b2, b3⟩ := cmn_says b c hb hc
  obtain ⟨c1, c2, c3⟩ := cmn_says a c ha hc
  rcases Nat.lt_or_ge (cmn a c) (min (cmn a b) (cmn b c)) with h | h
  · exact absurd ((a2 _ (by omega)).trans (b2 _ (by omega))) (c3 (by omega))
  · exact h
end Go.Proofs.Ytbnkmfmbbbcogaa.oc
