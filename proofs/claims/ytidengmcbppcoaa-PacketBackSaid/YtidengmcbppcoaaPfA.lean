/-
  Addresses and prefixes, plainly: bytes, bits; what may be, what has, what covers. Nothing of the program's functions.
-/
import Derived.Test.YtidengmcbppcoaaMzA
namespace Go.Proofs.Ytidengmcbppcoaa.pf
/-- an address: its kind, its bytes -/
structure Ad where
  v6 : Bool
  B : List Nat
structure Ad.Wf (a : Ad) : Prop where
  len : a.B.length = 16
  sm : ∀ x ∈ a.B, x < 256
structure Px where
  a : Ad
  bits : Int
def wid (a : Ad) : Nat := if a.v6 then 128 else 32
def byt (a : Ad) (i : Nat) : Nat := a.B[i]?.getD 0
def bit (a : Ad) (i : Nat) : Bool := decide (byt a (i / 8) / 2 ^ (7 - i % 8) % 2 = 1)
def okA (a : Ad) : Prop := ∀ i, wid a / 8 ≤ i → i < 16 → byt a i = 0
def okP (p : Px) : Prop := okA p.a ∧ (0 ≤ p.bits ∧ p.bits ≤ (wid p.a : Int)) ∧ ∀ i : Nat, p.bits ≤ (i : Int) → i < wid p.a → bit p.a i = false
def has (p : Px) (a : Ad) : Prop := okP p ∧ okA a ∧ a.v6 = p.a.v6 ∧ ∀ i : Nat, (i : Int) < p.bits → bit a i = bit p.a i
def covers (p q : Px) : Prop := okP q ∧ p.bits ≤ q.bits ∧ has p q.a
theorem wid_le (a : Ad) : wid a ≤ 128 ∧ 32 ≤ wid a := by unfold wid; split <;> omega
theorem wid_of {a b : Ad} (h : a.v6 = b.v6) : wid a = wid b := by unfold wid; rw [h]
theorem wid_cases (a : Ad) : (a.v6 = true ∧ wid a = 128) ∨ (a.v6 = false ∧ wid a = 32) := by unfold wid; cases a.v6 <;> simp
theorem byt_lt {a : Ad} (h : a.Wf) (i : Nat) : byt a i < 256 := by
  unfold byt
  rcases Nat.lt_or_ge i a.B.length with q | q
  · rw [List.getElem?_eq_getElem q]; exact h.sm _ (List.getElem_mem q)
  · rw [List.getElem?_eq_none q]; decide
theorem byt_some {a : Ad} (h : a.Wf) {i : Nat} (hi : i < 16) : a.B[i]? = some (byt a i) := by
  unfold byt
  rw [List.getElem?_eq_getElem (by rw [h.len]; exact hi)]; rfl
theorem byte_ext {x y : Nat} (hx : x < 256) (hy : y < 256) (h : ∀ j, j < 8 → (x / 2 ^ (7 - j) % 2 = 1 ↔ y / 2 ^ (7 - j) % 2 = 1)) : x = y := by
  refine Nat.eq_of_testBit_eq fun i => ?_
  rcases Nat.lt_or_ge i 8 with q | q
  · have := h (7 - i) (by omega)
    rw [show 7 - (7 - i) = i from by omega] at this
    rw [Nat.testBit_eq_decide_div_mod_eq, Nat.testBit_eq_decide_div_mod_eq]
    exact decide_eq_decide.2 this
  · have p : 2 ^ 8 ≤ 2 ^ i := Nat.pow_le_pow_right (by omega) q
    rw [Nat.testBit_lt_two_pow (Nat.lt_of_lt_of_le hx p), Nat.testBit_lt_two_pow (Nat.lt_of_lt_of_le hy p)]
theorem bit_iff (a : Ad) (i : Nat) : bit a i = true ↔ byt a (i / 8) / 2 ^ (7 - i % 8) % 2 = 1 := by unfold bit; simp
theorem Ad.eq_of {a b : Ad} (hv : a.v6 = b.v6) (hB : a.B = b.B) : a = b := by cases a; cases b; simp at hv hB; simp [hv, hB]
theorem Ad.ext_byt {a b : Ad} (ha : a.Wf) (hb : b.Wf) (hv : a.v6 = b.v6) (h : ∀ i, i < 16 → byt a i = byt b i) : a = b := by
  refine Ad.eq_of hv (List.ext_getElem? fun i => ?_)
  rcases Nat.lt_or_ge i 16 with q | q
  · rw [byt_some ha q, byt_some hb q, h i q]
  · rw [List.getElem?_eq_none (by rw [ha.len]; exact q), List.getElem?_eq_none (by rw [hb.len]; exact q)]
/-- an address is its kind and its 128 bits -/
theorem Ad.ext_bit {a b : Ad} (ha : a.Wf) (hb : b.Wf) (hv : a.v6 = b.v6) (h : ∀ i, i < 128 → bit a i = bit b i) : a = b := by
  refine Ad.ext_byt ha hb hv fun i hi => byte_ext (byt_lt ha i) (byt_lt hb i) fun j hj => ?_
  have := h (8 * i + j) (by omega)
  have e1 : (8 * i + j) / 8 = i := by omega
  have e2 : (8 * i + j) % 8 = j := by omega
  have q1 := bit_iff a (8 * i + j)
  have q2 := bit_iff b (8 * i + j)
  rw [e1, e2] at q1 q2
  rw [← q1, ← q2, this]
theorem okA_bits {a : Ad} (h : a.Wf) : okA a ↔ ∀ i, wid a ≤ i → i < 128 → bit a i = false := by
  have hw := wid_cases a
  constructor
  · intro ho i h1 h2
    have : byt a (i / 8) = 0 := ho _ (by omega) (by omega)
    unfold bit
    rw [this]
    simp
  · intro hb i h1 h2
    refine byte_ext (byt_lt h i) (by omega) fun j hj => ?_
    have e1 : (8 * i + j) / 8 = i := by omega
    have e2 : (8 * i + j) % 8 = j := by omega
    have q := bit_iff a (8 * i + j)
    rw [e1, e2] at q
    rw [← q, hb (8 * i + j) (by omega) (by omega)]
    simp
/-- an address with its bits from k on cleared -/
def clr (a : Ad) (k : Nat) : Ad := ⟨a.v6, a.B.mapIdx fun j x => x / 2 ^ (8 * j + 8 - k) * 2 ^ (8 * j + 8 - k)⟩
theorem clr_byt {a : Ad} (h : a.Wf) (k i : Nat) (hi : i < 16) : byt (clr a k) i = byt a i / 2 ^ (8 * i + 8 - k) * 2 ^ (8 * i + 8 - k) := by
  unfold byt clr
  simp only [List.getElem?_mapIdx]
  rw [List.getElem?_eq_getElem (by rw [h.len]; exact hi)]
  rfl
theorem clr_wf {a : Ad} (h : a.Wf) (k : Nat) : (clr a k).Wf := by
  refine ⟨by simp [clr, h.len], fun x hx => ?_⟩
  obtain ⟨i, hi, rfl⟩ := List.getElem_of_mem hx
  simp only [clr, List.getElem_mapIdx]
  refine Nat.lt_of_le_of_lt (Nat.div_mul_le_self _ _) (h.sm _ (List.getElem_mem _))
theorem div_bit (x s t : Nat) : x / 2 ^ s * 2 ^ s / 2 ^ t % 2 = if s ≤ t then x / 2 ^ t % 2 else 0 := by
  split
  · rename_i hle
    obtain ⟨e, rfl⟩ := Nat.exists_eq_add_of_le hle
    rw [Nat.pow_add, ← Nat.div_div_eq_div_mul, Nat.mul_div_cancel _ (Nat.two_pow_pos s), Nat.div_div_eq_div_mul]
  · rename_i hlt
    obtain ⟨e, rfl⟩ := Nat.exists_eq_add_of_le (show t + 1 ≤ s by omega)
    have : 2 ^ (t + 1 + e) = 2 ^ t * (2 * 2 ^ e) := by rw [Nat.pow_add, Nat.pow_add, Nat.pow_one, Nat.mul_assoc]
    rw [this]
    generalize x / (2 ^ t * (2 * 2 ^ e)) = y
    rw [show y * (2 ^ t * (2 * 2 ^ e)) = 2 ^ t * (2 * (y * 2 ^ e)) from by rw [Nat.mul_left_comm, Nat.mul_left_comm y 2], Nat.mul_div_cancel_left _ (Nat.two_pow_pos t)]
    exact Nat.mul_mod_right _ _
theorem clr_bit {a : Ad} (h : a.Wf) (k i : Nat) (hi : i < 128) : bit (clr a k) i = (decide (i < k) && bit a i) := by
  rw [Bool.eq_iff_iff, bit_iff, clr_byt h k (i / 8) (by omega), div_bit]
  simp only [Bool.and_eq_true, decide_eq_true_eq, bit_iff]
  have e : 8 * (i / 8) + 8 - k ≤ 7 - i % 8 ↔ i < k := by omega
  by_cases q : i < k
  · rw [if_pos (e.2 q)]; simp [q]
  · rw [if_neg (fun z => q (e.1 z))]; simp [q]
end Go.Proofs.Ytidengmcbppcoaa.pf
