/-
  The reference's machine, plainly: instructions, what each does to registers. Nothing of the program's functions. Addresses and prefixes, plainly: bytes, bits; what may be, what has, what covers. Nothing of the program's functions. Prefixes, plainly: of an address its first bits; halves; two prefixes are apart, or one covers the other; their order. Nothing of the program's functions. The merged list is one: none in it covers another one, no two are the halves of one; plainly. Prefixes as stretches of numbers; their order as a number; plainly. Nothing of the program's functions. Words for memory: a slice whose cells are known ('Rd'), bytes ('by_'), and what keeps them. Nothing of the program's functions. Words for memory: only some blocks have turned (Keeps); sums of 64 bits. append onto a row of the call's own, told in this proof's words: the source is any slice whose cells are known, nil and empty ones too. append onto a row of the call's own whose elements have several cells, and where the row lies behind it. Words for memory: numbers as cells; rows of a block of the call's own. Words for memory: aggregates of many cells, read and written whole (no walk). Words for memory, on: single cells under Keeps. Nothing of the program's functions. patchbayref15: Width, Bit. patchbayref15: Digits. patchbayref15: With, CheckAddr, Check. patchbayref15: With. patchbayref15: Check. patchbayref15: Has. The texts of addresses and prefixes, plainly; numbers and rows of noughts.
-/
import Derived.WalkKit
import Derived.Laws.OwnMore
import Derived.Deep.Draws
import Derived.Deep.AppendLies
import Derived.Maps.AppendAt
import Derived.OwnWalk
import Derived.RegionTactic
import Derived.Test.YtgcdhfpbmcfedaaGreatDoorProg
import Derived.WalkLawsBesides
import Derived.Outline
import Derived.Lib.Hide
import Derived.Laws.Rows
import Derived.Deep.MidRow
import Derived.Deep.WholeRow
import Derived.Laws.ResultCell
import Derived.Deep.Quiet
import Derived.StillTailTactics
import Derived.WalkSpells
import Derived.IntWalk
import Derived.WalkMore
import Derived.RegionCalls
import Derived.BigRegion
import Derived.Deep.LoopGhost
import Derived.Deep.RegionHeld3
import Derived.Deep.QuietTactic
import Derived.BigQuiet
import Derived.BigFrame
section
namespace Go.Proofs.YtgcdhfpbmcfedaaGreatDoor.mz
/-- an instruction -/
structure Ins where
  op : Nat
  on : Nat
  a : Nat
  b : Nat
  c : Nat
  d : Nat
  n : Nat
/-- 2^64, kept out of the counting -/
@[irreducible] def W64 : Nat := 18446744073709551616
theorem W64_eq : W64 = 18446744073709551616 := by unfold W64; rfl
/-- what is told in one call, where it stands, its registers -/
structure Cs where
  at_ : Nat
  rs : List Nat
  told : List Nat
def reg (rs : List Nat) (i : Nat) : Nat := rs.getD i 0
/-- register a becomes v, one on -/
def Cs.put (s : Cs) (a v : Nat) : Cs := { s with at_ := s.at_ + 1, rs := s.rs.set a v }
def Cs.go (s : Cs) (b : Bool) (n : Nat) : Cs := { s with at_ := if b then n else s.at_ + 1 }
/-- an instruction that is the thread's own -/
def own (data : List Nat) (x : Ins) (s : Cs) : Option Cs :=
  match x.op with
  | 6 => some (s.put x.a x.n)
  | 7 => some (s.put x.a (reg s.rs x.b))
  | 8 => some (s.put x.a ((reg s.rs x.b + reg s.rs x.c + x.n) % W64))
  | 9 => some (s.put x.a ((reg s.rs x.b + (W64 - reg s.rs x.c)) % W64))
  | 10 => some (s.put x.a ((reg s.rs x.b * reg s.rs x.c) % W64))
  | 11 => some (s.put x.a (if reg s.rs x.c = 0 then 0 else reg s.rs x.b / reg s.rs x.c))
  | 12 => some (s.put x.a (reg s.rs x.b &&& reg s.rs x.c))
  | 13 => some (s.put x.a (reg s.rs x.b ||| reg s.rs x.c))
  | 14 => some (s.put x.a (reg s.rs x.b * 2 ^ x.n % W64))
  | 15 => some (s.put x.a (reg s.rs x.b / 2 ^ x.n))
  | 16 => some (s.put x.a (max (reg s.rs x.b) (reg s.rs x.c)))
  | 17 => some (s.put x.a (data.getD ((reg s.rs x.b + x.n) % W64) 0))
  | 18 => some (s.go true x.n)
  | 19 => some (s.go (decide (reg s.rs x.a = reg s.rs x.b)) x.n)
  | 20 => some (s.go (decide (reg s.rs x.a < reg s.rs x.b)) x.n)
  | 21 => some (s.go (decide (reg s.rs x.a / 9223372036854775808 = 1)) x.n)
  | 22 => some { s with at_ := s.at_ + 1, told := s.told ++ [reg s.rs x.a] }
  | _ => none
end Go.Proofs.YtgcdhfpbmcfedaaGreatDoor.mz
end
section
namespace Go.Proofs.YtgcdhfpbmcfedaaGreatDoor.pf
/-- an address: its kind, its bytes -/
structure Ad where
  v6 : Bool
  B : List Nat
structure Ad.Wf (a : Ad) : Prop where
  len : a.B.length = 16
  sm : ∀ x ∈ a.B, x < 256
structure Px where
  a : Ad
  bits : Int
def wid (a : Ad) : Nat := if a.v6 then 128 else 32
def byt (a : Ad) (i : Nat) : Nat := a.B[i]?.getD 0
def bit (a : Ad) (i : Nat) : Bool := decide (byt a (i / 8) / 2 ^ (7 - i % 8) % 2 = 1)
def okA (a : Ad) : Prop := ∀ i, wid a / 8 ≤ i → i < 16 → byt a i = 0
def okP (p : Px) : Prop := okA p.a ∧ (0 ≤ p.bits ∧ p.bits ≤ (wid p.a : Int)) ∧ ∀ i : Nat, p.bits ≤ (i : Int) → i < wid p.a → bit p.a i = false
def has (p : Px) (a : Ad) : Prop := okP p ∧ okA a ∧ a.v6 = p.a.v6 ∧ ∀ i : Nat, (i : Int) < p.bits → bit a i = bit p.a i
def covers (p q : Px) : Prop := okP q ∧ p.bits ≤ q.bits ∧ has p q.a
theorem wid_le (a : Ad) : wid a ≤ 128 ∧ 32 ≤ wid a := by unfold wid; split <;> omega
theorem wid_of {a b : Ad} (h : a.v6 = b.v6) : wid a = wid b := by unfold wid; rw [h]
theorem wid_cases (a : Ad) : (a.v6 = true ∧ wid a = 128) ∨ (a.v6 = false ∧ wid a = 32) := by unfold wid; cases a.v6 <;> simp
theorem byt_lt {a : Ad} (h : a.Wf) (i : Nat) : byt a i < 256 := by
  unfold byt
  rcases Nat.lt_or_ge i a.B.length with q | q
  · rw [List.getElem?_eq_getElem q]; exact h.sm _ (List.getElem_mem q)
  · rw [List.getElem?_eq_none q]; decide
theorem byt_some {a : Ad} (h : a.Wf) {i : Nat} (hi : i < 16) : a.B[i]? = some (byt a i) := by
  unfold byt
  rw [List.getElem?_eq_getElem (by rw [h.len]; exact hi)]; rfl
theorem byte_ext {x y : Nat} (hx : x < 256) (hy : y < 256) (h : ∀ j, j < 8 → (x / 2 ^ (7 - j) % 2 = 1 ↔ y / 2 ^ (7 - j) % 2 = 1)) : x = y := by
  refine Nat.eq_of_testBit_eq fun i => ?_
  rcases Nat.lt_or_ge i 8 with q | q
  · have := h (7 - i) (by omega)
    rw [show 7 - (7 - i) = i from by omega] at this
    rw [Nat.testBit_eq_decide_div_mod_eq, Nat.testBit_eq_decide_div_mod_eq]
    exact decide_eq_decide.2 this
  · have p : 2 ^ 8 ≤ 2 ^ i := Nat.pow_le_pow_right (by omega) q
    rw [Nat.testBit_lt_two_pow (Nat.lt_of_lt_of_le hx p), Nat.testBit_lt_two_pow (Nat.lt_of_lt_of_le hy p)]
theorem bit_iff (a : Ad) (i : Nat) : bit a i = true ↔ byt a (i / 8) / 2 ^ (7 - i % 8) % 2 = 1 := by unfold bit; simp
theorem Ad.eq_of {a b : Ad} (hv : a.v6 = b.v6) (hB : a.B = b.B) : a = b := by cases a; cases b; simp at hv hB; simp [hv, hB]
theorem Ad.ext_byt {a b : Ad} (ha : a.Wf) (hb : b.Wf) (hv : a.v6 = b.v6) (h : ∀ i, i < 16 → byt a i = byt b i) : a = b := by
  refine Ad.eq_of hv (List.ext_getElem? fun i => ?_)
  rcases Nat.lt_or_ge i 16 with q | q
  · rw [byt_some ha q, byt_some hb q, h i q]
  · rw [List.getElem?_eq_none (by rw [ha.len]; exact q), List.getElem?_eq_none (by rw [hb.len]; exact q)]
/-- an address is its kind and its 128 bits -/
theorem Ad.ext_bit {a b : Ad} (ha : a.Wf) (hb : b.Wf) (hv : a.v6 = b.v6) (h : ∀ i, i < 128 → bit a i = bit b i) : a = b := by
  refine Ad.ext_byt ha hb hv fun i hi => byte_ext (byt_lt ha i) (byt_lt hb i) fun j hj => ?_
  have := h (8 * i + j) (by omega)
  have e1 : (8 * i + j) / 8 = i := by omega
  have e2 : (8 * i + j) % 8 = j := by omega
  have q1 := bit_iff a (8 * i + j)
  have q2 := bit_iff b (8 * i + j)
  rw [e1, e2] at q1 q2
  rw [← q1, ← q2, this]
theorem okA_bits {a : Ad} (h : a.Wf) : okA a ↔ ∀ i, wid a ≤ i → i < 128 → bit a i = false := by
  have hw := wid_cases a
  constructor
  · intro ho i h1 h2
    have : byt a (i / 8) = 0 := ho _ (by omega) (by omega)
    unfold bit
    rw [this]
    simp
  · intro hb i h1 h2
    refine byte_ext (byt_lt h i) (by omega) fun j hj => ?_
    have e1 : (8 * i + j) / 8 = i := by omega
    have e2 : (8 * i + j) % 8 = j := by omega
    have q := bit_iff a (8 * i + j)
    rw [e1, e2] at q
    rw [← q, hb (8 * i + j) (by omega) (by omega)]
    simp
/-- an address with its bits from k on cleared -/
def clr (a : Ad) (k : Nat) : Ad := ⟨a.v6, a.B.mapIdx fun j x => x / 2 ^ (8 * j + 8 - k) * 2 ^ (8 * j + 8 - k)⟩
theorem clr_byt {a : Ad} (h : a.Wf) (k i : Nat) (hi : i < 16) : byt (clr a k) i = byt a i / 2 ^ (8 * i + 8 - k) * 2 ^ (8 * i + 8 - k) := by
  unfold byt clr
  simp only [List.getElem?_mapIdx]
  rw [List.getElem?_eq_getElem (by rw [h.len]; exact hi)]
  rfl
theorem clr_wf {a : Ad} (h : a.Wf) (k : Nat) : (clr a k).Wf := by
  refine ⟨by simp [clr, h.len], fun x hx => ?_⟩
  obtain ⟨i, hi, rfl⟩ := List.getElem_of_mem hx
  simp only [clr, List.getElem_mapIdx]
  refine Nat.lt_of_le_of_lt (Nat.div_mul_le_self _ _) (h.sm _ (List.getElem_mem _))
theorem div_bit (x s t : Nat) : x / 2 ^ s * 2 ^ s / 2 ^ t % 2 = if s ≤ t then x / 2 ^ t % 2 else 0 := by
  split
  · rename_i hle
    obtain ⟨e, rfl⟩ := Nat.exists_eq_add_of_le hle
    rw [Nat.pow_add, ← Nat.div_div_eq_div_mul, Nat.mul_div_cancel _ (Nat.two_pow_pos s), Nat.div_div_eq_div_mul]
  · rename_i hlt
    obtain ⟨e, rfl⟩ := Nat.exists_eq_add_of_le (show t + 1 ≤ s by omega)
    have : 2 ^ (t + 1 + e) = 2 ^ t * (2 * 2 ^ e) := by rw [Nat.pow_add, Nat.pow_add, Nat.pow_one, Nat.mul_assoc]
    rw [this]
    generalize x / (2 ^ t * (2 * 2 ^ e)) = y
    rw [show y * (2 ^ t * (2 * 2 ^ e)) = 2 ^ t * (2 * (y * 2 ^ e)) from by rw [Nat.mul_left_comm, Nat.mul_left_comm y 2], Nat.mul_div_cancel_left _ (Nat.two_pow_pos t)]
    exact Nat.mul_mod_right _ _
theorem clr_bit {a : Ad} (h : a.Wf) (k i : Nat) (hi : i < 128) : bit (clr a k) i = (decide (i < k) && bit a i) := by
  rw [Bool.eq_iff_iff, bit_iff, clr_byt h k (i / 8) (by omega), div_bit]
  simp only [Bool.and_eq_true, decide_eq_true_eq, bit_iff]
  have e : 8 * (i / 8) + 8 - k ≤ 7 - i % 8 ↔ i < k := by omega
  by_cases q : i < k
  · rw [if_pos (e.2 q)]; simp [q]
  · rw [if_neg (fun z => q (e.1 z))]; simp [q]
end Go.Proofs.YtgcdhfpbmcfedaaGreatDoor.pf
end
section
set_option linter.unusedVariables false
namespace Go.Proofs.YtgcdhfpbmcfedaaGreatDoor.pf
theorem or_bit : ∀ x : Fin 256, ∀ s t : Fin 8, ((x.val ||| 2 ^ s.val) / 2 ^ t.val % 2 = 1 ↔ (t = s ∨ x.val / 2 ^ t.val % 2 = 1)) ∧ (x.val ||| 2 ^ s.val) < 256 := by decide +kernel
theorem sub_bit : ∀ x : Fin 256, ∀ s t : Fin 8, x.val / 2 ^ s.val % 2 = 1 → ((x.val - 2 ^ s.val) / 2 ^ t.val % 2 = 1 ↔ (¬ t = s ∧ x.val / 2 ^ t.val % 2 = 1)) := by decide +kernel
/-- a byte with one bit put -/
def bput (x s : Nat) (is : Bool) : Nat := if is then x ||| 2 ^ s else if x / 2 ^ s % 2 = 1 then x - 2 ^ s else x
theorem bput_bit {x s t : Nat} {is : Bool} (hx : x < 256) (hs : s < 8) (ht : t < 8) : (bput x s is / 2 ^ t % 2 = 1 ↔ (if t = s then is = true else x / 2 ^ t % 2 = 1)) ∧ bput x s is < 256 := by
  have h1 := or_bit ⟨x, hx⟩ ⟨s, hs⟩ ⟨t, ht⟩
  have h2 := sub_bit ⟨x, hx⟩ ⟨s, hs⟩ ⟨t, ht⟩
  simp only [Fin.mk.injEq] at h1 h2
  unfold bput
  cases is with
  | true =>
    simp only [if_true]
    refine ⟨?_, h1.2⟩
    rw [h1.1]
    by_cases q : t = s <;> simp [q]
  | false =>
    simp only [Bool.false_eq_true, if_false]
    split
    · rename_i hb
      refine ⟨?_, Nat.lt_of_le_of_lt (Nat.sub_le _ _) hx⟩
      rw [h2 hb]
      by_cases q : t = s <;> simp [q]
    · rename_i hb
      refine ⟨?_, hx⟩
      by_cases q : t = s
      · subst q; simp; omega
      · simp [q]
/-- an address with one bit put -/
def put (a : Ad) (i : Nat) (is : Bool) : Ad := ⟨a.v6, a.B.set (i / 8) (bput (byt a (i / 8)) (7 - i % 8) is)⟩
theorem put_byt {a : Ad} (h : a.Wf) (i : Nat) (hi : i < 128) (is : Bool) (j : Nat) : byt (put a i is) j = if j = i / 8 then bput (byt a (i / 8)) (7 - i % 8) is else byt a j := by
  have hl := h.len
  unfold byt put
  simp only [List.getElem?_set]
  by_cases q : i / 8 = j
  · rw [if_pos q, if_pos (by omega), if_pos q.symm]; rfl
  · rw [if_neg q, if_neg (fun e => q e.symm)]
theorem put_wf {a : Ad} (h : a.Wf) (i : Nat) (hi : i < 128) (is : Bool) : (put a i is).Wf := by
  refine ⟨by simp [put, h.len], fun x hx => ?_⟩
  rcases List.mem_or_eq_of_mem_set hx with q | q
  · exact h.sm x q
  · subst q
    exact (bput_bit (t := 0) (byt_lt h _) (by omega) (by omega)).2
theorem put_bit {a : Ad} (h : a.Wf) (i : Nat) (hi : i < 128) (is : Bool) (j : Nat) (hj : j < 128) : bit (put a i is) j = if j = i then is else bit a j := by
  rw [Bool.eq_iff_iff, bit_iff, put_byt h i hi]
  by_cases q : j / 8 = i / 8
  · rw [if_pos q, (bput_bit (byt_lt h _) (by omega) (by omega)).1]
    by_cases e : j = i
    · subst e; simp
    · rw [if_neg (show ¬ 7 - j % 8 = 7 - i % 8 by omega), if_neg e, bit_iff, q]
  · rw [if_neg q, if_neg (show ¬ j = i by intro e; subst e; exact q rfl), bit_iff]
/-- the prefix of an address's first k bits -/
def ofP (a : Ad) (k : Nat) : Px := ⟨clr a k, (k : Int)⟩
theorem clr_okA {a : Ad} (h : a.Wf) (ho : okA a) (k : Nat) : okA (clr a k) := by
  rw [okA_bits (clr_wf h k)]
  intro i h1 h2
  rw [clr_bit h k i h2, (okA_bits h).1 ho i h1 h2]
  simp
theorem ofP_ok {a : Ad} (h : a.Wf) (ho : okA a) (k : Nat) (hk : k ≤ wid a) : okP (ofP a k) := by
  have hw := (wid_le a).1
  refine ⟨clr_okA h ho k, ⟨by simp [ofP], by show (k : Int) ≤ (wid (clr a k) : Int); rw [wid_of (a := clr a k) (b := a) rfl]; omega⟩, fun i h1 h2 => ?_⟩
  have h2 : i < wid a := h2
  have h1 : (k : Int) ≤ (i : Int) := h1
  show bit (clr a k) i = false
  rw [clr_bit h k i (by omega), decide_eq_false (by omega)]; rfl
/-- bits behind the prefix's are 0, all 128 -/
theorem okP_zero {p : Px} (h : p.a.Wf) (hp : okP p) (i : Nat) (h1 : p.bits ≤ (i : Int)) (h2 : i < 128) : bit p.a i = false := by
  rcases Nat.lt_or_ge i (wid p.a) with q | q
  · exact hp.2.2 i h1 q
  · exact (okA_bits h).1 hp.1 i q h2
theorem px_ext {p q : Px} (hp : p.a.Wf) (hq : q.a.Wf) (kp : okP p) (kq : okP q) (hv : p.a.v6 = q.a.v6) (hb : p.bits = q.bits) (h : ∀ i : Nat, (i : Int) < p.bits → bit p.a i = bit q.a i) : p = q := by
  have e : p.a = q.a := by
    refine Ad.ext_bit hp hq hv fun i hi => ?_
    by_cases c : (i : Int) < p.bits
    · exact h i c
    · rw [okP_zero hp kp i (by omega) hi, okP_zero hq kq i (by omega) hi]
  cases p; cases q
  simp at e hb
  simp [e, hb]
theorem of_has {a : Ad} (h : a.Wf) (ho : okA a) (k : Nat) (hk : k ≤ wid a) : has (ofP a k) a := by
  have hw := (wid_le a).1
  refine ⟨ofP_ok h ho k hk, ho, rfl, fun i hi => ?_⟩
  have hi : (i : Int) < (k : Int) := hi
  show bit a i = bit (clr a k) i
  rw [clr_bit h k i (by omega), decide_eq_true (by omega)]; simp
theorem covers_self {p : Px} (hp : okP p) : covers p p := ⟨hp, Int.le_refl _, hp, hp.1, rfl, fun _ _ => rfl⟩
theorem covers_has {p q : Px} (hc : covers p q) {b : Ad} (hb : has q b) : has p b :=
  ⟨hc.2.2.1, hb.2.1, hb.2.2.1.trans hc.2.2.2.2.1, fun i hi => (hb.2.2.2 i (by have := hc.2.1; omega)).trans (hc.2.2.2.2.2 i hi)⟩
theorem covers_both {p q : Px} (hp : p.a.Wf) (hq : q.a.Wf) (h1 : covers p q) (h2 : covers q p) : p = q :=
  px_ext hp hq h2.1 h1.1 h1.2.2.2.2.1.symm (by have := h1.2.1; have := h2.2.1; omega) fun i hi => (h1.2.2.2.2.2 i hi).symm
/-- two that share an address: one covers the other -/
theorem share {p q : Px} {b : Ad} (hp : has p b) (hq : has q b) : covers p q ∨ covers q p := by
  have hv : p.a.v6 = q.a.v6 := hp.2.2.1.symm.trans hq.2.2.1
  rcases Int.le_total p.bits q.bits with h | h
  · exact .inl ⟨hq.1, h, hp.1, hq.1.1, hv.symm, fun i hi => (hq.2.2.2 i (by omega)).symm.trans (hp.2.2.2 i hi)⟩
  · exact .inr ⟨hp.1, h, hq.1, hp.1.1, hv, fun i hi => (hp.2.2.2 i (by omega)).symm.trans (hq.2.2.2 i hi)⟩
theorem first_has {p q : Px} (h : has p q.a) (hq : okP q) : covers p q ∨ covers q p := share h ⟨hq, hq.1, rfl, fun _ _ => rfl⟩
/-- the halves -/
def half0 (p : Px) : Px := ⟨p.a, p.bits + 1⟩
def half1 (p : Px) : Px := ⟨put p.a p.bits.toNat true, p.bits + 1⟩
section
variable {p : Px}
theorem half_place (hp : okP p) (hb : ¬ p.bits = (wid p.a : Int)) : ∃ k : Nat, p.bits = (k : Int) ∧ p.bits.toNat = k ∧ k < wid p.a ∧ k < 128 := by
  obtain ⟨_, ⟨h0, h1⟩, _⟩ := hp
  have := (wid_le p.a).1
  exact ⟨p.bits.toNat, by omega, rfl, by omega, by omega⟩
theorem half0_ok (h : p.a.Wf) (hp : okP p) (hb : ¬ p.bits = (wid p.a : Int)) : okP (half0 p) := by
  obtain ⟨k, e1, _, h1, _⟩ := half_place hp hb
  exact ⟨hp.1, ⟨by show (0 : Int) ≤ p.bits + 1; omega, by show p.bits + 1 ≤ (wid p.a : Int); omega⟩, fun i hi h2 => hp.2.2 i (by have hi : p.bits + 1 ≤ (i : Int) := hi; omega) h2⟩
theorem half1_bit (h : p.a.Wf) (hp : okP p) (hb : ¬ p.bits = (wid p.a : Int)) (i : Nat) (hi : i < 128) : bit (half1 p).a i = if (i : Int) = p.bits then true else bit p.a i := by
  obtain ⟨k, e1, e2, h1, h2⟩ := half_place hp hb
  show bit (put p.a p.bits.toNat true) i = _
  rw [put_bit h _ (by omega) _ _ hi]
  by_cases q : i = p.bits.toNat
  · rw [if_pos q, if_pos (by omega)]
  · rw [if_neg q, if_neg (by omega)]
theorem half1_wf (h : p.a.Wf) (hp : okP p) (hb : ¬ p.bits = (wid p.a : Int)) : (half1 p).a.Wf := by
  obtain ⟨k, e1, e2, h1, h2⟩ := half_place hp hb
  exact put_wf h _ (by omega) _
theorem half1_ok (h : p.a.Wf) (hp : okP p) (hb : ¬ p.bits = (wid p.a : Int)) : okP (half1 p) := by
  obtain ⟨k, e1, e2, h1, h2⟩ := half_place hp hb
  have hw : wid (half1 p).a = wid p.a := wid_of rfl
  have hw2 := (wid_le p.a).1
  refine ⟨?_, ⟨by show (0 : Int) ≤ p.bits + 1; omega, by show p.bits + 1 ≤ (wid (half1 p).a : Int); rw [hw]; omega⟩, fun i hi hj => ?_⟩
  · rw [okA_bits (half1_wf h hp hb)]
    intro i hi hj
    rw [hw] at hi
    rw [half1_bit h hp hb i hj, if_neg (by omega)]
    exact (okA_bits h).1 hp.1 i hi hj
  · have hi : p.bits + 1 ≤ (i : Int) := hi
    rw [hw] at hj
    rw [half1_bit h hp hb i (by omega), if_neg (by omega)]
    exact hp.2.2 i (by omega) hj
theorem half0_has (h : p.a.Wf) (hp : okP p) (hb : ¬ p.bits = (wid p.a : Int)) (b : Ad) : has (half0 p) b ↔ has p b ∧ bit b p.bits.toNat = false := by
  obtain ⟨k, e1, e2, h1, h2⟩ := half_place hp hb
  constructor
  · rintro ⟨_, g2, g3, g4⟩
    refine ⟨⟨hp, g2, g3, fun i hi => g4 i (by show (i : Int) < p.bits + 1; omega)⟩, ?_⟩
    have := g4 k (by show (k : Int) < p.bits + 1; omega)
    rw [e2, this]
    exact okP_zero h hp k (by omega) h2
  · rintro ⟨⟨_, g2, g3, g4⟩, g5⟩
    refine ⟨half0_ok h hp hb, g2, g3, fun i hi => ?_⟩
    have hi : (i : Int) < p.bits + 1 := hi
    by_cases q : (i : Int) < p.bits
    · exact g4 i q
    · obtain rfl : i = k := by omega
      rw [e2] at g5
      rw [g5]
      exact (okP_zero h hp i (by omega) h2).symm
theorem half1_has (h : p.a.Wf) (hp : okP p) (hb : ¬ p.bits = (wid p.a : Int)) (b : Ad) : has (half1 p) b ↔ has p b ∧ bit b p.bits.toNat = true := by
  obtain ⟨k, e1, e2, h1, h2⟩ := half_place hp hb
  have hw2 := (wid_le p.a).1
  constructor
  · rintro ⟨_, g2, g3, g4⟩
    have g4 : ∀ i : Nat, (i : Int) < p.bits + 1 → bit b i = bit (half1 p).a i := g4
    refine ⟨⟨hp, g2, g3, fun i hi => ?_⟩, ?_⟩
    · rw [g4 i (by omega), half1_bit h hp hb i (by omega), if_neg (by omega)]
    · rw [e2, g4 k (by omega), half1_bit h hp hb k h2, if_pos (by omega)]
  · rintro ⟨⟨_, g2, g3, g4⟩, g5⟩
    refine ⟨half1_ok h hp hb, g2, g3, fun i hi => ?_⟩
    have hi : (i : Int) < p.bits + 1 := hi
    rw [half1_bit h hp hb i (by omega)]
    by_cases q : (i : Int) < p.bits
    · rw [if_neg (by omega)]; exact g4 i q
    · obtain rfl : i = k := by omega
      rw [if_pos (by omega), ← e2]; exact g5
theorem half_apart (h : p.a.Wf) (hp : okP p) (hb : ¬ p.bits = (wid p.a : Int)) : covers p (half0 p) ∧ covers p (half1 p) ∧ ¬ covers (half0 p) (half1 p) ∧ ¬ covers (half1 p) (half0 p) := by
  have o0 := half0_ok h hp hb
  have o1 := half1_ok h hp hb
  obtain ⟨k, e1, e2, h1, h2⟩ := half_place hp hb
  have b1 := half1_bit h hp hb k h2
  rw [if_pos (by omega)] at b1
  have b0 := okP_zero h hp k (by omega) h2
  have hw2 := (wid_le p.a).1
  refine ⟨⟨o0, by show p.bits ≤ p.bits + 1; omega, hp, hp.1, rfl, fun _ _ => rfl⟩, ⟨o1, by show p.bits ≤ p.bits + 1; omega, hp, o1.1, rfl, fun i hi => ?_⟩, fun c => ?_, fun c => ?_⟩
  · rw [half1_bit h hp hb i (by omega), if_neg (by omega)]
  · have := c.2.2.2.2.2 k (by show (k : Int) < p.bits + 1; omega)
    rw [b1, show bit (half0 p).a k = false from b0] at this
    cases this
  · have := c.2.2.2.2.2 k (by show (k : Int) < p.bits + 1; omega)
    rw [b1, show bit (half0 p).a k = false from b0] at this
    cases this
end
/-- bytes, in their order -/
def cmpB : List Nat → List Nat → Int
  | x :: xs, y :: ys => if x < y then -1 else if y < x then 1 else cmpB xs ys
  | _, _ => 0
def cmp (p q : Px) : Int :=
  if p.a.v6 = q.a.v6 then (if ¬ cmpB p.a.B q.a.B = 0 then cmpB p.a.B q.a.B else if p.bits < q.bits then -1 else if q.bits < p.bits then 1 else 0)
  else if q.a.v6 then -1 else 1
theorem cmpB_self : ∀ l : List Nat, cmpB l l = 0
  | [] => rfl
  | x :: r => by simp [cmpB, cmpB_self r]
theorem cmpB_set : ∀ (l : List Nat) (i v x : Nat), l[i]? = some x → x < v → cmpB l (l.set i v) = -1
  | [], i, v, x, h, _ => by simp at h
  | y :: r, 0, v, x, h, hv => by simp at h; subst h; simp [cmpB, hv]
  | y :: r, i + 1, v, x, h, hv => by
    simp only [List.getElem?_cons_succ] at h
    simp only [List.set_cons_succ, cmpB, Nat.lt_irrefl, if_false]
    exact cmpB_set r i v x h hv
theorem or_more : ∀ x : Fin 256, ∀ s : Fin 8, ¬ x.val / 2 ^ s.val % 2 = 1 → x.val < (x.val ||| 2 ^ s.val) := by decide +kernel
theorem half_cmp {p : Px} (h : p.a.Wf) (hp : okP p) (hb : ¬ p.bits = (wid p.a : Int)) : cmp (half0 p) (half1 p) = -1 ∧ cmp p (half0 p) = -1 := by
  obtain ⟨k, e1, e2, h1, h2⟩ := half_place hp hb
  constructor
  · have hlt : byt p.a (k / 8) < bput (byt p.a (k / 8)) (7 - k % 8) true := by
      have b0 := okP_zero h hp k (by omega) h2
      have n0 : ¬ byt p.a (k / 8) / 2 ^ (7 - k % 8) % 2 = 1 := by rw [← bit_iff, b0]; simp
      exact or_more ⟨_, byt_lt h _⟩ ⟨7 - k % 8, by omega⟩ n0
    have hc := cmpB_set p.a.B (k / 8) _ _ (byt_some h (by omega)) hlt
    have e : (half1 p).a.B = p.a.B.set (k / 8) (bput (byt p.a (k / 8)) (7 - k % 8) true) := by show (put p.a p.bits.toNat true).B = _; rw [e2]; rfl
    unfold cmp
    rw [if_pos (show (half0 p).a.v6 = (half1 p).a.v6 from rfl), e, show (half0 p).a.B = p.a.B from rfl, hc]
    rfl
  · unfold cmp
    rw [if_pos (show p.a.v6 = (half0 p).a.v6 from rfl), show (half0 p).a.B = p.a.B from rfl, cmpB_self]
    simp only [not_true, if_false]
    exact if_pos (show p.bits < p.bits + 1 by omega)
end Go.Proofs.YtgcdhfpbmcfedaaGreatDoor.pf
end
section
set_option linter.unusedVariables false
set_option linter.unusedSimpArgs false
namespace Go.Proofs.YtgcdhfpbmcfedaaGreatDoor.pf
/-- some prefix of the list has the address -/
def had (l : List Px) (b : Ad) : Prop := ∃ p ∈ l, has p b
/-- prefixes that may be, of which none covers another one and no two are the halves of one -/
structure Nrm (l : List Px) : Prop where
  ok : ∀ p ∈ l, p.a.Wf ∧ okP p
  cov : ∀ p ∈ l, ∀ q ∈ l, covers p q → p = q
  hal : ∀ p : Px, p.a.Wf → okP p → ¬ p.bits = (wid p.a : Int) → ¬ (half0 p ∈ l ∧ half1 p ∈ l)
theorem covers_trans {p q r : Px} (h : covers p q) (k : covers q r) : covers p r := ⟨k.1, by have := h.2.1; have := k.2.1; omega, by
  have hb := covers_has h k.2.2
  exact hb⟩
/-- a prefix all of whose addresses are had is covered by one of the list -/
theorem inside {l : List Px} (hl : Nrm l) : ∀ (n : Nat) (p : Px), p.a.Wf → okP p → (n : Int) = (wid p.a : Int) - p.bits → (∀ b : Ad, b.Wf → has p b → had l b) → ∃ q ∈ l, covers q p
  | 0, p, hw, ho, hn, hb => by
    obtain ⟨q, hq, hh⟩ := hb p.a hw ⟨ho, ho.1, rfl, fun _ _ => rfl⟩
    refine ⟨q, hq, ho, ?_, hh⟩
    have h1 := hh.1.2.1.2
    rw [wid_of hh.2.2.1.symm] at h1
    omega
  | n + 1, p, hw, ho, hn, hb => by
    have hne : ¬ p.bits = (wid p.a : Int) := by omega
    have o0 := half0_ok hw ho hne
    have o1 := half1_ok hw ho hne
    have w1 := half1_wf hw ho hne
    have hw1 : wid (half1 p).a = wid p.a := wid_of rfl
    obtain ⟨q0, m0, c0⟩ := inside hl n (half0 p) hw o0 (by show (n : Int) = (wid p.a : Int) - (p.bits + 1); omega) (fun b hbw hh => hb b hbw ((half0_has hw ho hne b).1 hh).1)
    obtain ⟨q1, m1, c1⟩ := inside hl n (half1 p) w1 o1 (by show (n : Int) = (wid (half1 p).a : Int) - (p.bits + 1); rw [hw1]; omega) (fun b hbw hh => hb b hbw ((half1_has hw ho hne b).1 hh).1)
    have b0 : q0.bits ≤ p.bits + 1 := c0.2.1
    have b1 : q1.bits ≤ p.bits + 1 := c1.2.1
    have ob := ho.2.1
    have hwl := wid_le p.a
    by_cases e0 : q0.bits ≤ p.bits
    · exact ⟨q0, m0, ho, e0, c0.2.2⟩
    · by_cases e1 : q1.bits ≤ p.bits
      · refine ⟨q1, m1, ho, e1, c1.2.2.1, ho.1, c1.2.2.2.2.1, fun i hi => ?_⟩
        have := c1.2.2.2.2.2 i hi
        rw [half1_bit hw ho hne i (by omega), if_neg (by omega)] at this
        exact this
      · exfalso
        have q0e : q0 = half0 p := px_ext (hl.ok q0 m0).1 hw (hl.ok q0 m0).2 o0 c0.2.2.2.2.1.symm (by show q0.bits = p.bits + 1; omega) (fun i hi => (c0.2.2.2.2.2 i hi).symm)
        have q1e : q1 = half1 p := px_ext (hl.ok q1 m1).1 w1 (hl.ok q1 m1).2 o1 c1.2.2.2.2.1.symm (by show q1.bits = p.bits + 1; omega) (fun i hi => (c1.2.2.2.2.2 i hi).symm)
        exact hl.hal p hw ho hne ⟨q0e ▸ m0, q1e ▸ m1⟩
theorem inside' {l : List Px} (hl : Nrm l) (p : Px) (hw : p.a.Wf) (ho : okP p) (h : ∀ b : Ad, b.Wf → has p b → had l b) : ∃ q ∈ l, covers q p :=
  inside hl ((wid p.a : Int) - p.bits).toNat p hw ho (by have := ho.2.1; omega) h
/-- of the same addresses there is one such list, but for its order -/
theorem nrm_sub {l m : List Px} (hl : Nrm l) (hm : Nrm m) (h : ∀ b : Ad, b.Wf → (had l b ↔ had m b)) : ∀ p ∈ l, p ∈ m := fun p hp => by
  obtain ⟨hw, ho⟩ := hl.ok p hp
  obtain ⟨q, hq, hc⟩ := inside' hm p hw ho (fun b hb hh => (h b hb).1 ⟨p, hp, hh⟩)
  obtain ⟨qw, qo⟩ := hm.ok q hq
  obtain ⟨r, hr, hd⟩ := inside' hl q qw qo (fun b hb hh => (h b hb).2 ⟨q, hq, hh⟩)
  have e := hl.cov r hr p hp (covers_trans hd hc)
  subst e
  rw [covers_both hw qw hd hc]; exact hq
theorem nrm_same {l m : List Px} (hl : Nrm l) (hm : Nrm m) (h : ∀ b : Ad, b.Wf → (had l b ↔ had m b)) (p : Px) : p ∈ l ↔ p ∈ m :=
  ⟨nrm_sub hl hm h p, nrm_sub hm hl (fun b hb => (h b hb).symm) p⟩
theorem cmpB_asymm : ∀ (l m : List Nat), cmpB l m = -1 → cmpB m l = 1
  | [], _, h => by simp [cmpB] at h
  | _ :: _, [], h => by simp [cmpB] at h
  | x :: r, y :: t, h => by
    unfold cmpB at h ⊢
    by_cases h1 : x < y
    · rw [if_neg (by omega), if_pos h1]
    · rw [if_neg h1] at h
      by_cases h2 : y < x
      · rw [if_pos h2] at h; omega
      · rw [if_neg h2] at h
        rw [if_neg h2, if_neg h1]; exact cmpB_asymm r t h
theorem cmpB_flip : ∀ (l m : List Nat), cmpB l m = 0 → cmpB m l = 0
  | [], [], _ => rfl
  | [], _ :: _, _ => by simp [cmpB]
  | _ :: _, [], _ => by simp [cmpB]
  | x :: r, y :: t, h => by
    unfold cmpB at h ⊢
    by_cases h1 : x < y
    · rw [if_pos h1] at h; omega
    · rw [if_neg h1] at h
      by_cases h2 : y < x
      · rw [if_pos h2] at h; omega
      · rw [if_neg h2] at h
        rw [if_neg h2, if_neg h1]; exact cmpB_flip r t h
theorem cmpB_zero : ∀ (l m : List Nat), cmpB l m = 0 → l.length = m.length → l = m
  | [], [], _, _ => rfl
  | [], _ :: _, _, h => by simp at h
  | _ :: _, [], _, h => by simp at h
  | x :: r, y :: t, h, hl => by
    unfold cmpB at h
    by_cases h1 : x < y
    · rw [if_pos h1] at h; omega
    · rw [if_neg h1] at h
      by_cases h2 : y < x
      · rw [if_pos h2] at h; omega
      · rw [if_neg h2] at h
        rw [show x = y from by omega, cmpB_zero r t h (by simpa using hl)]
theorem cmp_self (p : Px) : cmp p p = 0 := by unfold cmp; simp [cmpB_self]
theorem cmp_asymm {p q : Px} (h : cmp p q = -1) : ¬ cmp q p = -1 := by
  unfold cmp at h ⊢
  by_cases hv : p.a.v6 = q.a.v6
  · rw [if_pos hv] at h
    rw [if_pos hv.symm]
    by_cases h0 : cmpB p.a.B q.a.B = 0
    · rw [if_neg (fun z => z h0)] at h
      have h0' : cmpB q.a.B p.a.B = 0 := cmpB_flip _ _ h0
      rw [if_neg (fun z => z h0')]
      split at h
      · rw [if_neg (by omega)]; split <;> omega
      · split at h <;> omega
    · rw [if_pos h0] at h
      have := cmpB_asymm _ _ h
      rw [if_pos (by omega)]; omega
  · rw [if_neg hv] at h
    rw [if_neg (fun z => hv z.symm)]
    cases hp : p.a.v6 <;> cases hq : q.a.v6 <;> simp_all
/-- two lists in order with the same prefixes are one -/
theorem sorted_same : ∀ (l m : List Px), l.Pairwise (fun p q => cmp p q = -1) → m.Pairwise (fun p q => cmp p q = -1) → (∀ p, p ∈ l ↔ p ∈ m) → l = m
  | [], [], _, _, _ => rfl
  | [], q :: m, _, _, h => by have := (h q).2 (by simp); simp at this
  | p :: l, [], _, _, h => by have := (h p).1 (by simp); simp at this
  | p :: l, q :: m, hl, hm, h => by
    rw [List.pairwise_cons] at hl hm
    have e : p = q := by
      rcases List.mem_cons.1 ((h p).1 (by simp)) with c | c
      · exact c
      · rcases List.mem_cons.1 ((h q).2 (by simp)) with d | d
        · exact d.symm
        · exact absurd (hm.1 p c) (cmp_asymm (hl.1 q d))
    subst e
    have np : ∀ (t : List Px), (∀ x ∈ t, cmp p x = -1) → p ∉ t := fun t ht hx => by have := ht p hx; rw [cmp_self] at this; omega
    rw [sorted_same l m hl.2 hm.2 (fun x => ⟨fun hx => by
      rcases List.mem_cons.1 ((h x).1 (List.mem_cons_of_mem _ hx)) with c | c
      · subst c; exact absurd hx (np l hl.1)
      · exact c, fun hx => by
      rcases List.mem_cons.1 ((h x).2 (List.mem_cons_of_mem _ hx)) with c | c
      · subst c; exact absurd hx (np m hm.1)
      · exact c⟩)]
/-- THE MERGED LIST IS ONE -/
theorem nrm_one {l m : List Px} (hl : Nrm l) (hm : Nrm m) (sl : l.Pairwise (fun p q => cmp p q = -1)) (sm : m.Pairwise (fun p q => cmp p q = -1)) (h : ∀ b : Ad, b.Wf → (had l b ↔ had m b)) : l = m :=
  sorted_same l m sl sm (nrm_same hl hm h)
end Go.Proofs.YtgcdhfpbmcfedaaGreatDoor.pf
end
section
set_option linter.unusedVariables false
set_option linter.unusedSimpArgs false
namespace Go.Proofs.YtgcdhfpbmcfedaaGreatDoor.pf
/-- the number of bytes, the highest first -/
def vb : List Nat → Nat
  | [] => 0
  | x :: r => x * 256 ^ r.length + vb r
theorem vb_lt : ∀ (l : List Nat), (∀ x ∈ l, x < 256) → vb l < 256 ^ l.length
  | [], _ => by simp [vb]
  | x :: r, h => by
    have ih := vb_lt r (fun y hy => h y (List.mem_cons_of_mem _ hy))
    have hx := h x (by simp)
    rw [vb, List.length_cons, Nat.pow_succ]
    have : x * 256 ^ r.length + 256 ^ r.length ≤ 256 * 256 ^ r.length := by
      rw [← Nat.succ_mul]; exact Nat.mul_le_mul_right _ hx
    rw [Nat.mul_comm (256 ^ r.length) 256]
    omega
theorem vb_at : ∀ (l : List Nat) (j : Nat), (∀ x ∈ l, x < 256) → j < l.length → vb l / 256 ^ (l.length - 1 - j) % 256 = l[j]?.getD 0
  | [], j, _, h => by simp at h
  | x :: r, 0, h, _ => by
    have hx := h x (by simp)
    have hr := vb_lt r (fun y hy => h y (List.mem_cons_of_mem _ hy))
    rw [show (x :: r).length - 1 - 0 = r.length from by simp, vb, Nat.mul_comm x, Nat.mul_add_div (Nat.pow_pos (by decide)), Nat.div_eq_of_lt hr, Nat.add_zero, Nat.mod_eq_of_lt hx]
    rfl
  | x :: r, j + 1, h, hj => by
    have hl : j < r.length := by simpa using hj
    have ih := vb_at r j (fun y hy => h y (List.mem_cons_of_mem _ hy)) hl
    rw [show (x :: r).length - 1 - (j + 1) = r.length - 1 - j from by simp; omega, vb]
    obtain ⟨d, hd⟩ : ∃ d, r.length = (r.length - 1 - j) + (d + 1) := ⟨j, by omega⟩
    have e : x * 256 ^ r.length = 256 ^ (r.length - 1 - j) * (x * 256 ^ d * 256) := by
      conv => lhs; rw [hd, Nat.pow_add, Nat.pow_succ]
      rw [Nat.mul_left_comm, Nat.mul_assoc x]
    rw [e, Nat.mul_add_div (Nat.pow_pos (by decide)), Nat.mul_add_mod_self_right, ih]
    rfl
theorem vb_inj : ∀ (l m : List Nat), (∀ x ∈ l, x < 256) → (∀ x ∈ m, x < 256) → l.length = m.length → (cmpB l m = -1 ∧ vb l < vb m) ∨ (cmpB l m = 1 ∧ vb m < vb l) ∨ (cmpB l m = 0 ∧ vb l = vb m ∧ l = m)
  | [], [], _, _, _ => .inr (.inr ⟨rfl, rfl, rfl⟩)
  | [], _ :: _, _, _, h => by simp at h
  | _ :: _, [], _, _, h => by simp at h
  | x :: r, y :: t, hl, hm, h => by
    have hlen : r.length = t.length := by simpa using h
    have hr := vb_lt r (fun z hz => hl z (List.mem_cons_of_mem _ hz))
    have ht := vb_lt t (fun z hz => hm z (List.mem_cons_of_mem _ hz))
    have ih := vb_inj r t (fun z hz => hl z (List.mem_cons_of_mem _ hz)) (fun z hz => hm z (List.mem_cons_of_mem _ hz)) hlen
    unfold cmpB vb
    rw [hlen] at hr ⊢
    generalize 256 ^ t.length = P at *
    have mono : ∀ a b : Nat, a < b → a * P + P ≤ b * P := fun a b hab => by rw [← Nat.succ_mul]; exact Nat.mul_le_mul_right _ hab
    by_cases c1 : x < y
    · have := mono x y c1
      exact .inl ⟨if_pos c1, by omega⟩
    · by_cases c2 : y < x
      · have := mono y x c2
        exact .inr (.inl ⟨by rw [if_neg c1, if_pos c2], by omega⟩)
      · obtain rfl : x = y := by omega
        rw [if_neg c1, if_neg c2]
        rcases ih with ⟨q, v⟩ | ⟨q, v⟩ | ⟨q, v, e⟩
        · exact .inl ⟨q, by omega⟩
        · exact .inr (.inl ⟨q, by omega⟩)
        · exact .inr (.inr ⟨q, by rw [v], by rw [e]⟩)
/-- an address's number -/
def nA (a : Ad) : Nat := vb a.B
@[irreducible] def MM : Nat := 2 ^ 128
theorem MM_pos : 0 < MM := by unfold MM; decide
theorem nA_lt {a : Ad} (h : a.Wf) : nA a < 2 ^ 128 := by
  have := vb_lt a.B h.sm
  rw [h.len] at this
  exact this
theorem nA_MM {a : Ad} (h : a.Wf) : nA a < MM := by unfold MM; exact nA_lt h
theorem bit_n {a : Ad} (h : a.Wf) (i : Nat) (hi : i < 128) : bit a i = (nA a).testBit (127 - i) := by
  have hb := vb_at a.B (i / 8) h.sm (by rw [h.len]; omega)
  rw [h.len] at hb
  have hq : byt a (i / 8) = nA a / 256 ^ (16 - 1 - i / 8) % 256 := hb.symm
  unfold bit
  rw [hq, Nat.testBit_eq_decide_div_mod_eq]
  have e : 127 - i = 8 * (16 - 1 - i / 8) + (7 - i % 8) := by omega
  rw [e, Nat.pow_add, ← Nat.div_div_eq_div_mul, show (2 : Nat) ^ (8 * (16 - 1 - i / 8)) = 256 ^ (16 - 1 - i / 8) from by rw [Nat.pow_mul]]
  generalize nA a / 256 ^ (16 - 1 - i / 8) = X
  obtain ⟨t, ht⟩ : ∃ t, 7 - i % 8 = t ∧ t < 8 := ⟨_, rfl, by omega⟩
  rw [ht.1]
  have hm := Nat.testBit_mod_two_pow X 8 t
  rw [Nat.testBit_eq_decide_div_mod_eq, Nat.testBit_eq_decide_div_mod_eq] at hm
  rw [show (256 : Nat) = 2 ^ 8 from rfl, hm]
  simp [ht.2]
theorem pre_iff {a b : Ad} (ha : a.Wf) (hb : b.Wf) (k : Nat) (hk : k ≤ 128) : (∀ i, i < k → bit a i = bit b i) ↔ nA a / 2 ^ (128 - k) = nA b / 2 ^ (128 - k) := by
  constructor
  · intro h
    refine Nat.eq_of_testBit_eq fun j => ?_
    rw [Nat.testBit_div_two_pow, Nat.testBit_div_two_pow]
    rcases Nat.lt_or_ge (j + (128 - k)) 128 with q | q
    · have := h (127 - (j + (128 - k))) (by omega)
      rw [bit_n ha _ (by omega), bit_n hb _ (by omega), show 127 - (127 - (j + (128 - k))) = j + (128 - k) from by omega] at this
      exact this
    · have p : 2 ^ 128 ≤ 2 ^ (j + (128 - k)) := Nat.pow_le_pow_right (by omega) q
      rw [Nat.testBit_lt_two_pow (Nat.lt_of_lt_of_le (nA_lt ha) p), Nat.testBit_lt_two_pow (Nat.lt_of_lt_of_le (nA_lt hb) p)]
  · intro h i hi
    rw [bit_n ha _ (by omega), bit_n hb _ (by omega)]
    have := congrArg (fun x => x.testBit (127 - i - (128 - k))) h
    simp only [Nat.testBit_div_two_pow] at this
    rw [show 127 - i - (128 - k) + (128 - k) = 127 - i from by omega] at this
    exact this
/-- the order as a number -/
def KP (p : Px) : Int := ((if p.a.v6 then (MM : Int) else 0) + (nA p.a : Int)) * 1000 + p.bits
theorem bits_le {p : Px} (hp : okP p) : 0 ≤ p.bits ∧ p.bits ≤ 128 := by have := (wid_le p.a).1; have := hp.2.1; omega
theorem cmp_key {p q : Px} (hp : p.a.Wf) (hq : q.a.Wf) (op : okP p) (oq : okP q) : (cmp p q = -1 ∧ KP p < KP q) ∨ (cmp p q = 1 ∧ KP q < KP p) ∨ (cmp p q = 0 ∧ KP p = KP q ∧ p = q) := by
  have bp := bits_le op
  have bq := bits_le oq
  have np := nA_MM hp
  have nq := nA_MM hq
  have hm := vb_inj p.a.B q.a.B hp.sm hq.sm (hp.len.trans hq.len.symm)
  unfold KP cmp
  change (_ ∧ nA p.a < nA q.a) ∨ (_ ∧ nA q.a < nA p.a) ∨ (_ ∧ nA p.a = nA q.a ∧ _) at hm
  generalize MM = M at *
  by_cases hv : p.a.v6 = q.a.v6
  · rw [if_pos hv, hv]
    rcases hm with ⟨e, v⟩ | ⟨e, v⟩ | ⟨e, v, eb⟩
    · left; rw [e]; refine ⟨rfl, ?_⟩; split <;> omega
    · right; left; rw [e]; refine ⟨rfl, ?_⟩; split <;> omega
    · rw [e, if_neg (by simp)]
      by_cases c1 : p.bits < q.bits
      · left; rw [if_pos c1]; refine ⟨rfl, ?_⟩; split <;> omega
      · by_cases c2 : q.bits < p.bits
        · right; left; rw [if_neg c1, if_pos c2]; refine ⟨rfl, ?_⟩; split <;> omega
        · right; right
          rw [if_neg c1, if_neg c2]
          have eb2 : p.bits = q.bits := by omega
          refine ⟨rfl, by rw [v, eb2], ?_⟩
          have : p.a = q.a := Ad.eq_of hv eb
          cases p; cases q; simp at this eb2; simp [this, eb2]
  · rw [if_neg hv]
    cases h1 : p.a.v6 <;> cases h2 : q.a.v6
    · exact absurd (h1.trans h2.symm) hv
    · left; refine ⟨rfl, ?_⟩; simp; omega
    · right; left; refine ⟨rfl, ?_⟩; simp; omega
    · exact absurd (h1.trans h2.symm) hv
theorem key_inj {p q : Px} (hp : p.a.Wf) (hq : q.a.Wf) (op : okP p) (oq : okP q) (h : KP p = KP q) : p = q := by
  rcases cmp_key hp hq op oq with ⟨_, v⟩ | ⟨_, v⟩ | ⟨_, _, e⟩
  · omega
  · omega
  · exact e
theorem key_lt {p q : Px} (hp : p.a.Wf) (hq : q.a.Wf) (op : okP p) (oq : okP q) : cmp p q = -1 ↔ KP p < KP q := by
  rcases cmp_key hp hq op oq with ⟨c, v⟩ | ⟨c, v⟩ | ⟨c, v, _⟩
  · exact ⟨fun _ => v, fun _ => c⟩
  · exact ⟨fun z => by omega, fun z => by omega⟩
  · exact ⟨fun z => by omega, fun z => by omega⟩
/-- the size of a prefix's stretch -/
def siz (p : Px) : Nat := 2 ^ (128 - p.bits.toNat)
theorem has_n {p : Px} {a : Ad} (hp : p.a.Wf) (ha : a.Wf) (op : okP p) (oa : okA a) : has p a ↔ a.v6 = p.a.v6 ∧ nA a / siz p = nA p.a / siz p := by
  have bp := bits_le op
  have h := pre_iff ha hp p.bits.toNat (by omega)
  unfold siz
  rw [← h]
  constructor
  · rintro ⟨_, _, q3, q4⟩
    exact ⟨q3, fun i hi => q4 i (by omega)⟩
  · rintro ⟨q3, q4⟩
    exact ⟨op, oa, q3, fun i hi => q4 i (by omega)⟩
theorem first_n {p : Px} (hp : p.a.Wf) (op : okP p) : nA p.a % siz p = 0 := by
  have bp := bits_le op
  refine Nat.eq_of_testBit_eq fun j => ?_
  unfold siz
  rw [Nat.testBit_mod_two_pow, Nat.zero_testBit]
  by_cases c : j < 128 - p.bits.toNat
  · have := okP_zero hp op (127 - j) (by omega) (by omega)
    rw [bit_n hp _ (by omega), show 127 - (127 - j) = j from by omega] at this
    simp [this]
  · simp [c]
theorem first_le {p : Px} {a : Ad} (hp : p.a.Wf) (ha : a.Wf) (h : has p a) : nA p.a ≤ nA a := by
  have h1 := ((has_n hp ha h.1 h.2.1).1 h).2
  have h2 := first_n hp h.1
  have e1 := Nat.div_add_mod (nA p.a) (siz p)
  have e2 := Nat.div_add_mod (nA a) (siz p)
  rw [h1] at e2
  omega
/-- one that is not ahead of another one, and covers it, is it -/
theorem cover_eq {p x : Px} (hp : p.a.Wf) (hx : x.a.Wf) (h : covers p x) (hk : KP x ≤ KP p) : p = x := by
  have h1 := first_le hp hx h.2.2
  have hv : x.a.v6 = p.a.v6 := h.2.2.2.2.1
  have hb := h.2.1
  refine key_inj hp hx h.2.2.1 h.1 ?_
  unfold KP at hk ⊢
  rw [hv] at hk ⊢
  have b1 := bits_le h.1
  have b2 := bits_le h.2.2.1
  split at hk <;> split <;> omega
/-- what lies between two of a prefix's is had by it -/
theorem between {q x l p : Px} (hq : q.a.Wf) (hx : x.a.Wf) (hl : l.a.Wf) (hp : p.a.Wf) (ox : okP x) (ol : okP l) (op : okP p) (h1 : has q x.a) (h2 : has q p.a) (k1 : KP x ≤ KP l) (k2 : KP l ≤ KP p) : has q l.a := by
  have g1 := (has_n hq hx h1.1 ox.1).1 h1
  have g2 := (has_n hq hp h1.1 op.1).1 h2
  have b1 := bits_le ox
  have b2 := bits_le ol
  have b3 := bits_le op
  have n1 := nA_MM hx
  have n2 := nA_MM hl
  have n3 := nA_MM hp
  unfold KP at k1 k2
  rw [g1.1] at k1
  rw [g2.1] at k2
  generalize MM = M at *
  have hlv : l.a.v6 = q.a.v6 := by
    cases h5 : l.a.v6 <;> cases h6 : q.a.v6 <;> simp [h5, h6] at k1 k2 ⊢ <;> omega
  rw [hlv] at k1 k2
  have m1 : nA x.a ≤ nA l.a := by split at k1 <;> omega
  have m2 : nA l.a ≤ nA p.a := by split at k2 <;> omega
  refine (has_n hq hl h1.1 ol.1).2 ⟨hlv, ?_⟩
  have d1 := Nat.div_le_div_right (c := siz q) m1
  have d2 := Nat.div_le_div_right (c := siz q) m2
  rw [g1.2] at d1
  rw [g2.2] at d2
  omega
end Go.Proofs.YtgcdhfpbmcfedaaGreatDoor.pf
end
section
namespace Go.Proofs.YtgcdhfpbmcfedaaGreatDoor.oc
open Go.RowKit

/-- the slice's address A shows the cells xs, in blocks below B -/
def Rd (w : World) (B : Nat) (A : Option Addr) (xs : List Value) : Prop :=
  ∀ k v, xs[k]? = some v → ∃ b o, A = some ⟨b, o, none⟩ ∧ b < B ∧ w.cell? ⟨b, o + k, none⟩ = some v

/-- bytes as cells -/
def by_ (bs : List Nat) : List Value := bs.map (fun x : Nat => Value.int .u8 (x : Int))
/-- all below 256 -/
def Small (bs : List Nat) : Prop := ∀ x, x ∈ bs → x < 256

theorem by_length (bs : List Nat) : (by_ bs).length = bs.length := by simp [by_]
theorem by_at {bs : List Nat} {k x : Nat} (h : bs[k]? = some x) : (by_ bs)[k]? = some (.int .u8 (x : Int)) := by simp [by_, h]
theorem by_append (a b : List Nat) : by_ (a ++ b) = by_ a ++ by_ b := by simp [by_]
theorem by_one (bs : List Nat) : ∀ u ∈ by_ bs, u.oneCell' = true := by
  intro u hu
  simp only [by_, List.mem_map] at hu
  obtain ⟨x, _, rfl⟩ := hu
  rfl
theorem Small.at_ {bs : List Nat} (h : Small bs) {k x : Nat} (hx : bs[k]? = some x) : x < 256 := h x (List.mem_of_getElem? hx)
theorem Small.append {a b : List Nat} (ha : Small a) (hb : Small b) : Small (a ++ b) := by
  intro x hx
  rcases List.mem_append.1 hx with h | h
  · exact ha x h
  · exact hb x h
theorem Small.take {a : List Nat} (ha : Small a) (n : Nat) : Small (a.take n) := fun x hx => ha x (List.mem_of_mem_take hx)
theorem Small.drop {a : List Nat} (ha : Small a) (n : Nat) : Small (a.drop n) := fun x hx => ha x (List.mem_of_mem_drop hx)
theorem Small.nil : Small [] := fun x hx => by cases hx
theorem Small.one {x : Nat} (h : x < 256) : Small [x] := fun y hy => by simp at hy; omega

theorem getq {bs : List Nat} {k : Nat} (h : k < bs.length) : bs[k]? = some (bs.getD k 0) := by
  rw [List.getElem?_eq_getElem h]; simp [List.getD, List.getElem?_eq_getElem h]
theorem take_snoc {bs : List Nat} {k x : Nat} (h : bs[k]? = some x) : bs.take (k + 1) = bs.take k ++ [x] := by
  rw [List.take_add_one, h]; rfl

section
variable {w w' : World} {B B' : Nat} {A : Option Addr} {xs : List Value}
theorem Rd.nil_ : Rd w B A [] := fun k v h => by simp at h
theorem Rd.byte {bs : List Nat} (h : Rd w B A (by_ bs)) {k x : Nat} (hx : bs[k]? = some x) : ∃ b o, A = some ⟨b, o, none⟩ ∧ b < B ∧ w.cell? ⟨b, o + k, none⟩ = some (.int .u8 (x : Int)) :=
  h k _ (by_at hx)
theorem Rd.keep (h : Rd w B A xs) (hk : ∀ p : Addr, p.block < B → w'.cell? p = w.cell? p) : Rd w' B A xs := fun k v hv => by
  obtain ⟨b, o, e, hb, hc⟩ := h k v hv
  exact ⟨b, o, e, hb, (hk ⟨b, o + k, none⟩ hb).trans hc⟩
theorem Rd.more (h : Rd w B A xs) (hB : B ≤ B') : Rd w B' A xs := fun k v hv => by
  obtain ⟨b, o, e, hb, hc⟩ := h k v hv
  exact ⟨b, o, e, by omega, hc⟩
theorem Rd.below (h : Rd w B A xs) (hb : Below B w w') : Rd w' B A xs := h.keep fun _ hp => hb.cell hp
theorem Rd.drew (h : Rd w B A xs) : Rd w.drew B A xs := h
theorem Rd.drewN (h : Rd w B A xs) (k : Nat) : Rd (w.drewN k) B A xs := h
theorem Rd.alloc (h : Rd w B A xs) (hB : B ≤ w.heap.size) (o : Obj) : Rd (w.alloc o) B A xs := h.keep fun p hp => World.cell?_alloc_lt w o p (by omega)
theorem Rd.setCell (h : Rd w B A xs) {p : Addr} (hB : B ≤ p.block) (u : Value) : Rd (w.setCell p u) B A xs :=
  h.keep fun q hq => World.cell?_setCell_other w p q u (fun e => by subst e; omega)
theorem Rd.grown (h : Rd w B A xs) {row : Option Nat} (hg : w.grownBy w' row) (hB : B ≤ w.heap.size) (hr : ∀ g, row = some g → B ≤ g) : Rd w' B A xs :=
  h.keep fun p hp => World.cell?_of_block (hg.block p.block (by omega) (fun e => by have := hr _ e.symm; omega))
theorem Rd.take (h : Rd w B A xs) (n : Nat) : Rd w B A (xs.take n) := fun k v hv => h k v (by
  rw [List.getElem?_take] at hv
  split at hv
  · exact hv
  · cases hv)
/-- a cut from k on, as the model writes its address -/
theorem Rd.cut (h : Rd w B A xs) {k cap : Nat} (hc : xs.length ≤ cap) : Rd w B (if cap = k then A else A.map (·.add k)) (xs.drop k) := fun j v hv => by
  rw [List.getElem?_drop] at hv
  have hl : k + j < xs.length := (List.getElem?_eq_some_iff.1 hv).1
  obtain ⟨b, o, rfl, hb, hcell⟩ := h _ _ hv
  rw [if_neg (by omega)]
  refine ⟨b, o + k, by simp [Addr.add_lit], hb, ?_⟩
  rw [Nat.add_assoc]
  exact hcell
theorem Rd.own {base n : Nat} {e : TypeId} {c : Nat} (h : w.ownsRow base e 1 (.slice A n c) n xs) : Rd w w.heap.size A xs := fun k v hv => by
  have hn : 0 < n := by
    have h1 := h.1
    have hl := (List.getElem?_eq_some_iff.1 hv).1
    omega
  obtain ⟨g, cap, hv', _, hlt⟩ := h.form hn
  have hA : A = some ⟨g, 0, none⟩ := by injection hv'
  subst hA
  exact ⟨g, 0, rfl, hlt, by have := h.cells (g := g) rfl k v hv; rwa [Addr.add_lit] at this⟩
/-- a slice of slices of bytes: its address P shows the slices of bytes ps -/
def Pt (w : World) (B : Nat) (P : Option Addr) (ps : List (List Nat)) : Prop :=
  ∀ k bs, ps[k]? = some bs → ∃ b o A c, P = some ⟨b, o, none⟩ ∧ b < B ∧ w.cell? ⟨b, o + k, none⟩ = some (.slice A bs.length c) ∧ Rd w B A (by_ bs)
theorem Pt.keep {P : Option Addr} {ps : List (List Nat)} (h : Pt w B P ps) (hk : ∀ p : Addr, p.block < B → w'.cell? p = w.cell? p) : Pt w' B P ps := fun k bs hv => by
  obtain ⟨b, o, A, c, e, hb, hc, hr⟩ := h k bs hv
  exact ⟨b, o, A, c, e, hb, (hk ⟨b, o + k, none⟩ hb).trans hc, hr.keep hk⟩
theorem Pt.more {P : Option Addr} {ps : List (List Nat)} (h : Pt w B P ps) (hB : B ≤ B') : Pt w B' P ps := fun k bs hv => by
  obtain ⟨b, o, A, c, e, hb, hc, hr⟩ := h k bs hv
  exact ⟨b, o, A, c, e, by omega, hc, hr.more hB⟩
theorem Pt.below {P : Option Addr} {ps : List (List Nat)} (h : Pt w B P ps) (hb : Below B w w') : Pt w' B P ps := h.keep fun _ hp => hb.cell hp
/-- the source of a copy or of an append -/
theorem Rd.src (h : Rd w B A xs) (hx : 0 < xs.length) : ∃ ad, A = some ad ∧ ∀ j v, xs[j]? = some v → w.cell? (ad.add j) = some v := by
  obtain ⟨b, o, rfl, hb, hc⟩ := h 0 _ (List.getElem?_eq_getElem hx)
  refine ⟨_, rfl, fun j v hj => ?_⟩
  obtain ⟨b', o', e, _, hc'⟩ := h j v hj
  injection e with e
  injection e with e1 e2
  subst e1
  subst e2
  rw [Addr.add_lit]
  exact hc'
/-- a block known whole -/
def Blk (w : World) (g : Nat) (t : TypeId) (cs : List Value) : Prop := w.heap[g]? = some (.cells cs.toArray t (0, 0))
section
variable {g : Nat} {t : TypeId} {cs : List Value}
theorem Blk.lt (h : Blk w g t cs) : g < w.heap.size := (Array.getElem?_eq_some_iff.1 h).1
theorem Blk.cell (h : Blk w g t cs) (i : Nat) : w.cell? ⟨g, i, none⟩ = cs[i]? := by
  rw [cell_of_row w g i cs.toArray t (0, 0) h]; simp
theorem Blk.frozen (h : Blk w g t cs) (i : Nat) : w.frozen? ⟨g, i, none⟩ = false := by
  unfold Blk at h
  simp [World.frozen?, h]
theorem Blk.new (w : World) (t : TypeId) (cs : Array Value) : Blk (w.alloc (.cells cs t)) w.heap.size t cs.toList := by
  have h := heap_alloc_new w (.cells cs t)
  unfold Blk
  simpa using h
theorem Blk.drew (h : Blk w g t cs) : Blk w.drew g t cs := h
theorem Blk.drewN (h : Blk w g t cs) (n : Nat) : Blk (w.drewN n) g t cs := h
theorem Blk.alloc (h : Blk w g t cs) (o : Obj) : Blk (w.alloc o) g t cs := (Below.heap_alloc w o g h.lt).trans h
theorem Blk.put (h : Blk w g t cs) (i : Nat) (u : Value) : Blk (w.setCell ⟨g, i, none⟩ u) g t (cs.set i u) := by
  unfold Blk at h ⊢
  simp [World.setCell, Array.getElem?_modify, h]
theorem Blk.far (h : Blk w g t cs) {p : Addr} (hp : g ≠ p.block) (u : Value) : Blk (w.setCell p u) g t cs := (Below.heap_setCell w p u g hp).trans h
theorem Blk.below {B : Nat} (h : Blk w g t cs) (hb : Below B w w') (hg : g < B) : Blk w' g t cs := (hb.block g hg).trans h
theorem Blk.grown {row : Option Nat} (h : Blk w g t cs) (hb : w.grownBy w' row) (hg : some g ≠ row) : Blk w' g t cs := (hb.block g h.lt hg).trans h
end
end
end Go.Proofs.YtgcdhfpbmcfedaaGreatDoor.oc
end
section
namespace Go.Proofs.YtgcdhfpbmcfedaaGreatDoor.mz
open Go.RowKit Go.Proofs.YtgcdhfpbmcfedaaGreatDoor.oc
/-- the streams and the tape are one -/
structure Same (w w' : World) : Prop where
  os : w'.os = w.os
  tape : w'.tape = w.tape
  output : w'.output = w.output
theorem Same.trans {a b c : World} (h : Same a b) (k : Same b c) : Same a c := ⟨k.os.trans h.os, k.tape.trans h.tape, k.output.trans h.output⟩
/-- only blocks of S, and new ones, are another than they were -/
structure Keeps (S : Nat → Prop) (w w' : World) : Prop where
  size : w.heap.size ≤ w'.heap.size
  block : ∀ b, b < w.heap.size → ¬ S b → w'.heap[b]? = w.heap[b]?
  same : Same w w'
theorem Keeps.refl (S : Nat → Prop) (w : World) : Keeps S w w := ⟨Nat.le_refl _, fun _ _ _ => rfl, rfl, rfl, rfl⟩
theorem Keeps.trans {S : Nat → Prop} {a b c : World} (h : Keeps S a b) (k : Keeps S b c) : Keeps S a c :=
  ⟨Nat.le_trans h.size k.size, fun x hx hs => (k.block x (by have := h.size; omega) hs).trans (h.block x hx hs), h.same.trans k.same⟩
theorem Keeps.mono {S S' : Nat → Prop} {a b : World} (h : Keeps S a b) (k : ∀ x, x < a.heap.size → S x → S' x) : Keeps S' a b :=
  ⟨h.size, fun x hx hs => h.block x hx fun z => hs (k x hx z), h.same⟩
theorem Keeps.drew {S : Nat → Prop} {a b : World} (h : Keeps S a b) : Keeps S a b.drew := ⟨h.size, h.block, h.same.os, h.same.tape, h.same.output⟩
theorem Keeps.alloc {S : Nat → Prop} {a b : World} (h : Keeps S a b) (o : Obj) : Keeps S a (b.alloc o) :=
  ⟨by have := h.size; show a.heap.size ≤ (b.heap.push o).size; simp; omega, fun x hx hs => (Below.heap_alloc b o x (by have := h.size; omega)).trans (h.block x hx hs), h.same.os, h.same.tape, h.same.output⟩
theorem Keeps.setCell {S : Nat → Prop} {a b : World} (h : Keeps S a b) {p : Addr} (hp : S p.block ∨ a.heap.size ≤ p.block) (u : Value) : Keeps S a (b.setCell p u) :=
  ⟨by have := h.size; show a.heap.size ≤ (b.heap.modify _ _).size; simpa using this, fun x hx hs => (Below.heap_setCell b p u x (fun e => by subst e; rcases hp with k | k; exact hs k; omega)).trans (h.block x hx hs), h.same.os, h.same.tape, h.same.output⟩
theorem Same.of_grown {w w' : World} {r : Option Nat} (h : w.grownBy w' r) : Same w w' := ⟨h.os, h.tape, h.output⟩
theorem Keeps.below {w w' : World} (h : Keeps (fun _ => False) w w') : Below w.heap.size w w' := ⟨h.same.os, h.same.tape, h.same.output, h.size, fun k hk => h.block k hk (fun z => z)⟩
theorem Keeps.of_drew {S : Nat → Prop} (w : World) (n : Nat) : Keeps S w (w.drewN n) := ⟨Nat.le_refl _, fun _ _ _ => rfl, rfl, rfl, rfl⟩
theorem grown_set (w : World) (p : Addr) (u : Value) : w.grownBy (w.setCell p u) (some p.block) :=
  ⟨rfl, rfl, rfl, by show w.heap.size ≤ (w.heap.modify _ _).size; simp, fun k _ hk => Below.heap_setCell w p u k (fun e => hk (by rw [e]))⟩
theorem Blk.keeps {S : Nat → Prop} {w w' : World} {g : Nat} {t : TypeId} {cs : List Value} (h : Blk w g t cs) (k : Keeps S w w') (hg : ¬ S g) : Blk w' g t cs := (k.block g h.lt hg).trans h
/-- likewise, told whole -/
theorem enter_blk (w : World) (cs : Array Value) (t : TypeId) : ∃ w1, w1 = w.alloc (.cells cs t) ∧ (∀ S, Keeps S w w1) ∧ Blk w1 w.heap.size t cs.toList :=
  ⟨_, rfl, fun _ => (Keeps.refl _ w).alloc _, Blk.new w t cs⟩
theorem wrap_u64 (x : Int) : IntKind.u64.wrap x = x % 18446744073709551616 := by simp [IntKind.wrap, IntKind.signed, IntKind.bits]
end Go.Proofs.YtgcdhfpbmcfedaaGreatDoor.mz
end
section
namespace Go.Proofs.YtgcdhfpbmcfedaaGreatDoor.oc
open Go.RowKit
section
variable {P : Program} {w : World}

end
end Go.Proofs.YtgcdhfpbmcfedaaGreatDoor.oc
end
section
namespace Go.Proofs.YtgcdhfpbmcfedaaGreatDoor.mz
open Go.RowKit Go.Proofs.YtgcdhfpbmcfedaaGreatDoor.oc
section
variable {P : Program} {w : World}
theorem wp_apps {o : Oper} {a : Act} {K : Act → World → Prop} {Q : Exit → Act → World → Prop} (s x : Operand) (t : TypeId)
    (ho : o.op = .call { callee := .builtin .append, args := #[s, x], argTypes := #[t, t] })
    (base : Nat) (e : TypeId) (i : TypeInfo) (z : Value) (size bytes : Nat) (ht : P.underlying t = some (.slice e)) (hi : P.info? e = some i) (hz : i.zero = some z)
    (hsize : i.size = size) (hby : i.bytes = bytes) (hzs : z.cells.size = size) (hsz : 0 < size)
    (v : Value) (n : Nat) (xs : List Value) (hs : a.eval s = v) (hown : w.ownsRow base e size v n xs)
    (ad : Addr) (m c : Nat) (news : List Value) (hx : a.eval x = .slice (some ad) m c) (hl : news.length = m * size) (hnews : ∀ j u, news[j]? = some u → w.cell? (ad.add j) = some u) (h1 : ∀ u ∈ news, u.oneCell' = true)
    (h63 : n + m ≤ maxLen) (hbytes : (n + m) * bytes ≤ 140737488355328) (hbase : base ≤ w.heap.size)
    (h : ∀ v' w', w'.ownsRow base e size v' (n + m) (xs ++ news) → w.grownBy w' v.ownBlock → (v'.ownBlock = v.ownBlock ∨ v'.ownBlock = some w.heap.size) → K (a.put o.dst v') w') : o.wp P a w K Q := by
  obtain ⟨v', w', hr, h2, h3, _, h5⟩ := run_append_own_at (P := P) w base t o.type e i z size bytes ht hi hz hsize hby hzs hsz v n xs hown ad m c news hl hnews h1 h63 hbytes hbase
  unfold Oper.wp execOp
  simp only [ho, resolve, invoke, builtin, Sem.run_bind, Sem.run_pure, Result.andThen_ok, List.map_toArray, List.map_cons, List.map_nil, hs, hx, hr]
  exact h v' w' h2 h3 h5
theorem wpList_apps {ops : Array Oper} {rest : List Oper} {o : Oper} {a : Act} {Q : Exit → Act → World → Prop} (hgd : o.guard = none) (s x : Operand) (t : TypeId)
    (ho : o.op = .call { callee := .builtin .append, args := #[s, x], argTypes := #[t, t] })
    (base : Nat) (e : TypeId) (i : TypeInfo) (z : Value) (size bytes : Nat) (ht : P.underlying t = some (.slice e)) (hi : P.info? e = some i) (hz : i.zero = some z)
    (hsize : i.size = size) (hby : i.bytes = bytes) (hzs : z.cells.size = size) (hsz : 0 < size)
    (v : Value) (n : Nat) (xs : List Value) (hs : a.eval s = v) (hown : w.ownsRow base e size v n xs)
    (ad : Addr) (m c : Nat) (news : List Value) (hx : a.eval x = .slice (some ad) m c) (hl : news.length = m * size) (hnews : ∀ j u, news[j]? = some u → w.cell? (ad.add j) = some u) (h1 : ∀ u ∈ news, u.oneCell' = true)
    (h63 : n + m ≤ maxLen) (hbytes : (n + m) * bytes ≤ 140737488355328) (hbase : base ≤ w.heap.size)
    (h : ∀ v' w', w'.ownsRow base e size v' (n + m) (xs ++ news) → w.grownBy w' v.ownBlock → (v'.ownBlock = v.ownBlock ∨ v'.ownBlock = some w.heap.size) → wpList P ops Q rest (a.put o.dst v') w') : wpList P ops Q (o :: rest) a w :=
  wpList_plain hgd fun _ hK => wp_apps s x t ho base e i z size bytes ht hi hz hsize hby hzs hsz v n xs hs hown ad m c news hx hl hnews h1 h63 hbytes hbase fun v' w' h2 h3 h4 => hK _ _ (h v' w' h2 h3 h4)
end
end Go.Proofs.YtgcdhfpbmcfedaaGreatDoor.mz
end
section
namespace Go.Proofs.YtgcdhfpbmcfedaaGreatDoor.mz
open Go.RowKit Go.Proofs.YtgcdhfpbmcfedaaGreatDoor.oc
def u64s (l : List Nat) : List Value := l.map (fun x : Nat => Value.int .u64 (x : Int))
theorem owns_keeps {S : Nat → Prop} {w w' : World} {base : Nat} {e : TypeId} {size : Nat} {v : Value} {n : Nat} {xs : List Value} (h : w.ownsRow base e size v n xs) (k : Keeps S w w') (hs : ∀ b, v.ownBlock = some b → ¬ S b) : w'.ownsRow base e size v n xs := by
  refine ⟨h.1, ?_⟩
  rcases h.2 with hn | ⟨g, cap, cur, rfl, hb, hgg, rest⟩
  · exact .inl hn
  · refine .inr ⟨g, cap, cur, rfl, hb, ?_, rest⟩
    rw [k.block g (Array.getElem?_eq_some_iff.1 hgg).1 (hs g rfl)]
    exact hgg
/-- what F becomes: what is new is in it too -/
def Grown (w w' : World) (F : Nat → Prop) : Nat → Prop := fun b => F b ∨ (w.heap.size ≤ b ∧ b < w'.heap.size)
theorem size_alloc (w : World) (o : Obj) : w.heap.size < (w.alloc o).heap.size := by show _ < (w.heap.push _).size; simp
end Go.Proofs.YtgcdhfpbmcfedaaGreatDoor.mz
end
section
set_option linter.unusedVariables false
namespace Go.Proofs.YtgcdhfpbmcfedaaGreatDoor.wh
open Go.RowKit Go.Proofs.YtgcdhfpbmcfedaaGreatDoor.oc Go.Proofs.YtgcdhfpbmcfedaaGreatDoor.mz
theorem Blk.range {w : World} {g : Nat} {t : TypeId} {cs : List Value} (h : Blk w g t cs) : w.rangeAt g 0 cs := fun j v hv => by rw [Nat.zero_add, h.cell]; exact hv
theorem Blk.thereAll {w : World} {g : Nat} {t : TypeId} {cs : List Value} (h : Blk w g t cs) : w.there g 0 cs.length := fun j hj => by
  rw [Nat.zero_add]
  refine ⟨?_, h.frozen j⟩
  rw [h.cell, List.getElem?_eq_getElem hj]; rfl
theorem Blk.setMid {g : Nat} {t : TypeId} : ∀ (vs : List Value) (w : World) (cs : List Value) (o : Nat), Blk w g t cs → o + vs.length ≤ cs.length → Blk (w.setCells g o vs) g t (cs.take o ++ vs ++ cs.drop (o + vs.length))
  | [], w, cs, o, h, hl => by simpa [World.setCells] using h
  | v :: r, w, cs, o, h, hl => by
    have h1 := Blk.setMid r (w.setCell ⟨g, o, none⟩ v) (cs.set o v) (o + 1) (h.put o v) (by simp at hl ⊢; omega)
    have e : (cs.set o v).take (o + 1) ++ r ++ (cs.set o v).drop (o + 1 + r.length) = cs.take o ++ (v :: r) ++ cs.drop (o + (v :: r).length) := by
      have hlt : o < cs.length := by simp at hl; omega
      rw [List.take_add_one, List.take_set_of_le (by omega), List.drop_set_of_lt (by omega), List.getElem?_set_self hlt, show o + 1 + r.length = o + (v :: r).length from by simp; omega]
      simp
    rw [e] at h1
    exact h1
theorem Blk.setAll {w : World} {g : Nat} {t : TypeId} {cs : List Value} (h : Blk w g t cs) (vs : List Value) (hl : vs.length = cs.length) : Blk (w.setCells g 0 vs) g t vs := by
  have := Blk.setMid vs w cs 0 h (by omega)
  rw [Nat.zero_add, hl, List.take_zero, List.drop_length, List.append_nil, List.nil_append] at this
  exact this
theorem keeps_setCells (g : Nat) : ∀ (vs : List Value) (w : World) (o : Nat), Keeps (· = g) w (w.setCells g o vs)
  | [], w, o => Keeps.refl _ _
  | v :: r, w, o => by
    have h := keeps_setCells g r (w.setCell ⟨g, o, none⟩ v) (o + 1)
    exact Keeps.trans ((Keeps.refl (· = g) w).setCell (p := ⟨g, o, none⟩) (.inl rfl) v) h
/-- a load of many cells, in a region that only reads -/
theorem quiet_load {P : Program} {ops : Array Oper} {C : World → Prop} {Q : Act → Prop} {rest : List Oper} {o : Oper} {a : Act} (hw : Region.wanted o (yielded ops a.tmps) = true) (ty : TypeId) (x : Operand) (ho : o.op = .load ty x)
    (b off : Nat) (hx : a.eval x = .pointer (some ⟨b, off, none⟩)) (cs : List Value) (d : TypeDesc) (hc : ∀ w, C w → w.rangeAt b off cs)
    (hu : P.underlying ty = some d) (hd : d.isRow = true) (hi : (P.info? ty).map (·.size) = some cs.length)
    (h : wpQuiet P ops C Q rest (a.put o.dst (.agg cs.toArray))) : wpQuiet P ops C Q (o :: rest) a := by
  unfold wpQuiet
  rw [if_pos hw]
  refine ⟨_, fun w hw' => ?_, h⟩
  unfold Oper.quietAt execOp
  simp only [ho, hx, Instr.loadAt, Instr.sureAddr, Sem.run_bind, Sem.run_pure, Result.andThen_ok, run_loadVar_mid w b off ty cs d (hc w hw') hu hd hi]
  exact ⟨rfl, rfl⟩
/-- the results: an aggregate that lies in a block of its own, and a number -/
theorem ret_cell {fn : Func} {p u : Tmp} {ty : TypeId} (h : fn.results = #[.cell p ty, .tmp u]) (tmps : Array Value) (P : Program) (w : World) (g : Nat) (t : TypeId) (cs : List Value) (d : TypeDesc)
    (hp : tmps.getD p undef = .pointer (some ⟨g, 0, none⟩)) (hb : Blk w g t cs) (hu : P.underlying ty = some d) (hd : d.isRow = true) (hi : (P.info? ty).map (·.size) = some cs.length) :
    (results fn tmps).run P w = .ok (.tuple #[.agg cs.toArray, tmps.getD u undef]) w := by
  rw [results_cell_tmp h, hp]
  have e : (asAddr (.pointer (some ⟨g, 0, none⟩))).run P w = .ok ⟨g, 0, none⟩ w := rfl
  rw [e]
  simp only [Result.andThen_ok, run_loadVar_mid w g 0 ty cs d (Blk.range hb) hu hd hi]
end Go.Proofs.YtgcdhfpbmcfedaaGreatDoor.wh
end
section
namespace Go.Proofs.YtgcdhfpbmcfedaaGreatDoor.mz
open Go.RowKit Go.Proofs.YtgcdhfpbmcfedaaGreatDoor.oc
theorem Keeps.here {w : World} {b i : Nat} (u : Value) : Keeps (· = b) w (w.setCell ⟨b, i, none⟩ u) := (Keeps.refl (· = b) w).setCell (p := ⟨b, i, none⟩) (.inl rfl) u
theorem Keeps.cell {S : Nat → Prop} {w w' : World} (k : Keeps S w w') {b i : Nat} {v : Value} (h : w.cell? ⟨b, i, none⟩ = some v) (hb : ¬ S b) : w'.cell? ⟨b, i, none⟩ = some v := by
  have hl : b < w.heap.size := by
    rcases Nat.lt_or_ge b w.heap.size with q | q
    · exact q
    · exfalso
      simp [World.cell?, Array.getElem?_eq_none q] at h
  have := k.block b hl hb
  simp only [World.cell?] at h ⊢
  rw [this]; exact h
/-- an append's step, in the frame's word -/
theorem Keeps.of_grown {w w' : World} {r : Option Nat} (h : w.grownBy w' r) : Keeps (fun b => r = some b) w w' :=
  ⟨h.size, fun b hb hs => h.block b hb (fun e => hs e.symm), h.os, h.tape, h.output⟩
theorem Keeps.only {S : Nat → Prop} {w w' : World} (k : Keeps S w w') (hs : ∀ b, S b → w.heap.size ≤ b) : Keeps (fun _ => False) w w' := k.mono (fun b hb z => by have := hs b z; omega)
end Go.Proofs.YtgcdhfpbmcfedaaGreatDoor.mz
end
section
set_option linter.unusedVariables false
namespace Go.Proofs.YtgcdhfpbmcfedaaGreatDoor.pf
open Go.RowKit Go.Proofs.YtgcdhfpbmcfedaaGreatDoor.oc Go.Proofs.YtgcdhfpbmcfedaaGreatDoor.mz
def b8s (l : List Nat) : List Value := l.map (fun (x : Nat) => Value.int .u8 (x : Int))
/-- an address's cells, a prefix's -/
def adc (a : Ad) : List Value := .bool a.v6 :: b8s a.B
def pxc (p : Px) : List Value := adc p.a ++ [.int .i64 p.bits]
def av (a : Ad) : Value := .agg (adc a).toArray
def pv (p : Px) : Value := .agg (pxc p).toArray
section
variable {a : Ad} {p : Px} {w : World} {P : Nat} {T : TypeId}
theorem adc_len (h : a.Wf) : (adc a).length = 17 := by simp [adc, b8s, h.len]
theorem pxc_len (h : p.a.Wf) : (pxc p).length = 18 := by simp [pxc, adc_len h]
theorem ad_v6 (h : Blk w P T (adc a)) : w.cell? ⟨P, 0, none⟩ = some (.bool a.v6) := by rw [h.cell]; rfl
theorem ad_byt (hw : a.Wf) (h : Blk w P T (adc a)) {i : Nat} (hi : i < 16) : w.cell? ⟨P, 1 + i, none⟩ = some (.int .u8 ((byt a i : Nat) : Int)) := by
  rw [h.cell, Nat.add_comm 1 i, adc, List.getElem?_cons_succ, b8s, List.getElem?_map, byt_some hw hi]; rfl
theorem px_v6 (h : Blk w P T (pxc p)) : w.cell? ⟨P, 0, none⟩ = some (.bool p.a.v6) := by rw [h.cell]; rfl
theorem px_byt (hw : p.a.Wf) (h : Blk w P T (pxc p)) {i : Nat} (hi : i < 16) : w.cell? ⟨P, 1 + i, none⟩ = some (.int .u8 ((byt p.a i : Nat) : Int)) := by
  have e : (adc p.a)[1 + i]? = some (.int .u8 ((byt p.a i : Nat) : Int)) := by
    rw [Nat.add_comm 1 i, adc, List.getElem?_cons_succ, b8s, List.getElem?_map, byt_some hw hi]; rfl
  rw [h.cell, pxc, List.getElem?_append_left (by rw [adc_len hw]; omega), e]
theorem px_bits (hw : p.a.Wf) (h : Blk w P T (pxc p)) : w.cell? ⟨P, 17, none⟩ = some (.int .i64 p.bits) := by
  rw [h.cell, pxc, List.getElem?_append_right (by rw [adc_len hw]; omega), adc_len hw]; rfl
theorem px_addr (hw : p.a.Wf) (h : Blk w P T (pxc p)) : w.rangeAt P 0 (adc p.a) := fun j v hv => by
  rw [Nat.zero_add, h.cell, pxc, List.getElem?_append_left (by rcases Nat.lt_or_ge j (adc p.a).length with q | q; exact q; rw [List.getElem?_eq_none q] at hv; cases hv)]
  exact hv
end
theorem bit_form (x k : Nat) : (((x : Int) / 2 ^ k).tmod 2 == 1) = decide (x / 2 ^ k % 2 = 1) := by
  have e : ((x : Int) / 2 ^ k) = ((x / 2 ^ k : Nat) : Int) := by rw [Int.natCast_ediv]; norm_cast
  rw [e, Int.tmod_eq_emod_of_nonneg (Int.natCast_nonneg _), Bool.eq_iff_iff]
  simp only [beq_iff_eq, decide_eq_true_eq]
  omega
theorem addr_info : (Tryz.prog.info? 24).map (·.size) = some 17 := by kernel_rfl
theorem prefix_info : (Tryz.prog.info? 28).map (·.size) = some 18 := by kernel_rfl
section
variable (a : Ad) (w : World)
set_option maxRecDepth 100000 in
set_option maxHeartbeats 1000000 in
theorem width_ : Calls Tryz.prog 46 #[av a] w fun e w' => e = .returned (.int .i64 (wid a : Int)) ∧ ∀ S, Keeps S w w' := by
  have b1 := Blk.new w 24 (adc a).toArray
  have x0 := ad_v6 b1
  have hc := wid_cases a
  unfold av
  generalize (adc a).toArray = C at *
  clear b1
  rcases hc with ⟨h, e⟩ | ⟨h, e⟩
  all_goals
    rw [h] at x0
    rw [e]
    clear h e
    go_enter Tryz.func46, Tryz.ntmps46
    go_wp2
    try rw [Exit.noGoto_ret]
    go_ret
    exact ⟨rfl, fun S => (Keeps.refl S w).alloc _⟩
set_option maxRecDepth 100000 in
set_option maxHeartbeats 1000000 in
theorem bit_ (i : Nat) (ha : a.Wf) (hi : i < 128) : Calls Tryz.prog 47 #[av a, .int .i64 (i : Int)] w fun e w' => e = .returned (.bool (bit a i)) ∧ ∀ S, Keeps S w w' := by
  have b1 := Blk.new w 24 (adc a).toArray
  have xb := ad_byt ha b1 (i := i / 8) (by omega)
  have hl := byt_lt ha (i / 8)
  unfold bit
  generalize byt a (i / 8) = x at *
  unfold av
  generalize (adc a).toArray = C at *
  clear b1 ha
  have i0 : (0 : Int) ≤ (i : Int) := by omega
  have i1 : (i : Int) < 128 := by omega
  go_enter Tryz.func47, Tryz.ntmps47
  go_wp2
  go_ret
  exact ⟨by rw [bit_form]; rfl, fun S => (Keeps.refl S w).alloc _⟩
end
end Go.Proofs.YtgcdhfpbmcfedaaGreatDoor.pf
end
section
set_option linter.unusedVariables false
set_option linter.unusedSimpArgs false
namespace Go.Proofs.YtgcdhfpbmcfedaaGreatDoor.pf
open Go.RowKit Go.Proofs.YtgcdhfpbmcfedaaGreatDoor.oc Go.Proofs.YtgcdhfpbmcfedaaGreatDoor.mz
def sign (x : Nat) : Nat := if x < 10 then 48 + x else 87 + x
/-- a number's digits to the base b, f of them at most -/
def dg (b : Nat) : Nat → Nat → List Nat
  | 0, _ => []
  | f + 1, n => if n < b then [sign n] else dg b f (n / b) ++ [sign (n % b)]
def str (l : List Nat) : ByteArray := ⟨(l.map (fun x => UInt8.ofNat x)).toArray⟩
theorem signs_at : ∀ x : Fin 16, (⟨#[48, 49, 50, 51, 52, 53, 54, 55, 56, 57, 97, 98, 99, 100, 101, 102]⟩ : ByteArray).extract x.val (x.val + 1) = str [sign x.val] := by decide +kernel
section
variable (w : World)
set_option maxRecDepth 100000 in
set_option maxHeartbeats 2000000 in
theorem digits_one (b n : Nat) (h1 : n < b) (hb : b ≤ 16) : Calls Tryz.prog 51 #[.int .i64 (n : Int), .int .i64 (b : Int)] w fun e w' => e = .returned (.string (str [sign n])) ∧ w = w' := by
  have hs := signs_at ⟨n, by omega⟩
  simp only at hs
  have q0 : (0 : Int) ≤ (n : Int) := by omega
  have q1 : (n : Int) < (b : Int) := by omega
  have q2 : (n : Int) < 16 := by omega
  clear h1 hb
  go_enter Tryz.func51, Tryz.ntmps51
  go_wp2
  try rw [Exit.noGoto_ret]
  go_ret
  exact ⟨rfl, rfl⟩
theorem str_size (l : List Nat) : (str l).size = l.length := by simp [str, ByteArray.size]
theorem drew_more (w : World) (d : Nat) : w.drew.drewN d = w.drewN (1 + d) := by
  show World.drewN (World.drewN w 1) d = _
  simp [World.drewN, Nat.add_assoc]
  exact ⟨rfl, rfl, rfl⟩
theorem dg_len (b : Nat) : ∀ f n, (dg b f n).length ≤ f
  | 0, _ => by simp [dg]
  | f + 1, n => by
    have ih := dg_len b f (n / b)
    unfold dg
    split <;> simp <;> omega
theorem str_append (l m : List Nat) : str l ++ str m = str (l ++ m) := by
  apply ByteArray.ext
  simp [str, ByteArray.data_append]

set_option maxRecDepth 100000 in
set_option maxHeartbeats 2000000 in
theorem digits_more (b n : Nat) (l : List Nat) (h1 : ¬ n < b) (hb0 : 10 ≤ b) (hb : b ≤ 16) (hn : n < 65536) (hl : l.length ≤ 20) (hr : ∀ w, Calls Tryz.prog 51 #[.int .i64 ((n / b : Nat) : Int), .int .i64 (b : Int)] w fun e w' => e = .returned (.string (str l)) ∧ ∃ d, w' = w.drewN d) : Calls Tryz.prog 51 #[.int .i64 (n : Int), .int .i64 (b : Int)] w fun e w' => e = .returned (.string (str (l ++ [sign (n % b)]))) ∧ ∃ d, w' = w.drewN d := by
  have HR := fun w => Lib.hid (hr w)
  have hrb : n % b < b := Nat.mod_lt _ (by omega)
  have hs := signs_at ⟨n % b, by omega⟩
  simp only at hs
  have q1 : ¬ (n : Int) < (b : Int) := by omega
  have q2 : ¬ (b : Int) = 0 := by omega
  have q3 : ((b : Int) == 0) = false := by simpa using q2
  have hqn : n / b ≤ n := Nat.div_le_self _ _
  obtain ⟨q, hq⟩ : ∃ q, q = n / b := ⟨_, rfl⟩
  obtain ⟨r, hrr⟩ : ∃ r, r = n % b := ⟨_, rfl⟩
  have e1 : (n : Int) / (b : Int) = (q : Int) := by rw [hq, Int.natCast_ediv]
  have e2 : IntKind.i64.wrap ((n : Int).tdiv (b : Int)) = (q : Int) := by rw [Int.tdiv_eq_ediv_of_nonneg (by omega), e1, IntKind.wrap_i64]; omega
  have e3 : (n : Int) % (b : Int) = (r : Int) := by rw [hrr]; exact (Int.natCast_emod n b).symm
  have e4 : IntKind.i64.wrap ((n : Int).tmod (b : Int)) = (r : Int) := by rw [Int.tmod_eq_emod_of_nonneg (by omega), e3, IntKind.wrap_i64]; omega
  have e5 : (n : Int).tmod (b : Int) = (r : Int) := by rw [Int.tmod_eq_emod_of_nonneg (by omega), e3]
  have e6 : (n : Int).tdiv (b : Int) = (q : Int) := by rw [Int.tdiv_eq_ediv_of_nonneg (by omega), e1]
  rw [← hq] at HR
  rw [← hrr] at hs ⊢
  have hbz : ¬ b = 0 := by omega
  have e7 : IntKind.i64.wrap (q : Int) = (q : Int) := by rw [IntKind.wrap_i64]; omega
  have r0 : (0 : Int) ≤ (r : Int) := by omega
  have r1 : (r : Int) < 16 := by omega
  have r2 : IntKind.i64.wrap ((r : Int) + 1) = (r : Int) + 1 := by rw [IntKind.wrap_i64]; omega
  have r3 : (0 : Int) ≤ (r : Int) + 1 := by omega
  have r4 : (r : Int) + 1 ≤ 16 := by omega
  have r5 : (r : Int) ≤ (r : Int) + 1 := by omega
  have hsz : ¬ 9223372036854775807 < (str l).size + (str [sign r]).size := by rw [str_size, str_size]; simp; omega
  have n0 : (0 : Int) ≤ (n : Int) := by omega
  have n1 : (n : Int) < 65536 := by omega
  clear h1 hb0 hb hn hr hrb hqn hq hrr hl
  go_enter Tryz.func51, Tryz.ntmps51
  go_wp2_with fail
  refine wp_region_held_drew (S := fun _ => True) (by kernel_rfl) trivial (fun hHeld => ?_)
  refine wpAnyH_take (i := 0) (v := ?_) rfl (by kernel_rfl) (by kernel_rfl) (by kernel_rfl) (fun _ _ _ h => h) (Or.inl ⟨by kernel_rfl, ?_⟩) (by assumption) ?_
  rotate_left
  · (intro w hSw; (try dsimp only at hSw); go_simp) <;> (try (with_reducible rfl))
  try simp only [Act.put, Array.getInternal_eq_getElem, List.getElem_toArray, List.getElem_cons_zero, List.getElem_cons_succ, List.setIfInBounds_toArray, List.set_cons_zero, List.set_cons_succ]
  refine wpAnyH_take (i := 1) (v := ?_) rfl (by kernel_rfl) (by kernel_rfl) (by kernel_rfl) (fun _ _ _ h => h) (Or.inl ⟨by kernel_rfl, ?_⟩) (by assumption) ?_
  rotate_left
  · (intro w hSw; (try dsimp only at hSw); go_simp) <;> (try (with_reducible rfl))
  try simp only [Act.put, Array.getInternal_eq_getElem, List.getElem_toArray, List.getElem_cons_zero, List.getElem_cons_succ, List.setIfInBounds_toArray, List.set_cons_zero, List.set_cons_succ]
  refine wpAnyH_take (i := 2) (v := ?_) rfl (by kernel_rfl) (by kernel_rfl) (by kernel_rfl) (fun _ _ _ h => h) (Or.inl ⟨by kernel_rfl, ?_⟩) (by assumption) ?_
  rotate_left
  · (intro w hSw; (try dsimp only at hSw); go_simp) <;> (try (with_reducible rfl))
  try simp only [Act.put, Array.getInternal_eq_getElem, List.getElem_toArray, List.getElem_cons_zero, List.getElem_cons_succ, List.setIfInBounds_toArray, List.set_cons_zero, List.set_cons_succ]
  refine wpAnyH_take (i := 3) (v := ?_) rfl (by kernel_rfl) (by kernel_rfl) (by kernel_rfl) (fun _ _ _ h => h) (Or.inl ⟨by kernel_rfl, ?_⟩) (by assumption) ?_
  rotate_left
  · (intro w hSw; (try dsimp only at hSw); go_simp) <;> (try (with_reducible rfl))
  try simp only [Act.put, Array.getInternal_eq_getElem, List.getElem_toArray, List.getElem_cons_zero, List.getElem_cons_succ, List.setIfInBounds_toArray, List.set_cons_zero, List.set_cons_succ]
  refine wpAnyH_take (i := 5) (v := ?_) rfl (by kernel_rfl) (by kernel_rfl) (by kernel_rfl) (fun _ _ _ h => h) (Or.inl ⟨by kernel_rfl, ?_⟩) (by assumption) ?_
  rotate_left
  · (intro w hSw; (try dsimp only at hSw); go_simp) <;> (try (with_reducible rfl))
  try simp only [Act.put, Array.getInternal_eq_getElem, List.getElem_toArray, List.getElem_cons_zero, List.getElem_cons_succ, List.setIfInBounds_toArray, List.set_cons_zero, List.set_cons_succ]
  refine wpAnyH_take (i := 6) (v := ?_) rfl (by kernel_rfl) (by kernel_rfl) (by kernel_rfl) (fun _ _ _ h => h) (Or.inl ⟨by kernel_rfl, ?_⟩) (by assumption) ?_
  rotate_left
  · (intro w hSw; (try dsimp only at hSw); go_simp) <;> (try (with_reducible rfl))
  try simp only [Act.put, Array.getInternal_eq_getElem, List.getElem_toArray, List.getElem_cons_zero, List.getElem_cons_succ, List.setIfInBounds_toArray, List.set_cons_zero, List.set_cons_succ]
  refine wpAnyH_take (i := 7) (v := ?_) rfl (by kernel_rfl) (by kernel_rfl) (by kernel_rfl) (fun _ _ _ h => h) (Or.inl ⟨by kernel_rfl, ?_⟩) (by assumption) ?_
  rotate_left
  · (intro w hSw; (try dsimp only at hSw); go_simp) <;> (try (with_reducible rfl))
  try simp only [Act.put, Array.getInternal_eq_getElem, List.getElem_toArray, List.getElem_cons_zero, List.getElem_cons_succ, List.setIfInBounds_toArray, List.set_cons_zero, List.set_cons_succ]
  refine wpAnyH_take (i := 8) (v := ?_) rfl (by kernel_rfl) (by kernel_rfl) (by kernel_rfl) (fun _ _ _ h => h) (Or.inl ⟨by kernel_rfl, ?_⟩) (by assumption) ?_
  rotate_left
  · (intro w hSw; (try dsimp only at hSw); go_simp) <;> (try (with_reducible rfl))
  try simp only [Act.put, Array.getInternal_eq_getElem, List.getElem_toArray, List.getElem_cons_zero, List.getElem_cons_succ, List.setIfInBounds_toArray, List.set_cons_zero, List.set_cons_succ]
  refine wpAnyH_take (i := 9) (v := ?_) rfl (by kernel_rfl) (by kernel_rfl) (by kernel_rfl) (fun _ _ _ h => h) (Or.inl ⟨by kernel_rfl, ?_⟩) (by assumption) ?_
  rotate_left
  · (intro w hSw; (try dsimp only at hSw); go_simp) <;> (try (with_reducible rfl))
  try simp only [Act.put, Array.getInternal_eq_getElem, List.getElem_toArray, List.getElem_cons_zero, List.getElem_cons_succ, List.setIfInBounds_toArray, List.set_cons_zero, List.set_cons_succ]
  refine wpAnyH_take (i := 10) (v := ?_) rfl (by kernel_rfl) (by kernel_rfl) (by kernel_rfl) (fun _ _ _ h => h) (Or.inl ⟨by kernel_rfl, ?_⟩) (by assumption) ?_
  rotate_left
  · (intro w hSw; (try dsimp only at hSw); go_simp) <;> (try (with_reducible rfl))
  try simp only [Act.put, Array.getInternal_eq_getElem, List.getElem_toArray, List.getElem_cons_zero, List.getElem_cons_succ, List.setIfInBounds_toArray, List.set_cons_zero, List.set_cons_succ]
  refine wpAnyH_take (i := 11) (v := ?_) rfl (by kernel_rfl) (by kernel_rfl) (by kernel_rfl) (fun _ _ _ h => h) (Or.inl ⟨by kernel_rfl, ?_⟩) (by assumption) ?_
  rotate_left
  · (intro w hSw; (try dsimp only at hSw); go_simp) <;> (try (with_reducible rfl))
  try simp only [Act.put, Array.getInternal_eq_getElem, List.getElem_toArray, List.getElem_cons_zero, List.getElem_cons_succ, List.setIfInBounds_toArray, List.set_cons_zero, List.set_cons_succ]
  refine wpAnyH_take (i := 12) (v := ?_) rfl (by kernel_rfl) (by kernel_rfl) (by kernel_rfl) (fun _ _ _ h => h) (Or.inl ⟨by kernel_rfl, ?_⟩) (by assumption) ?_
  rotate_left
  · (intro w hSw; (try dsimp only at hSw); go_simp) <;> (try (with_reducible rfl))
  try simp only [Act.put, Array.getInternal_eq_getElem, List.getElem_toArray, List.getElem_cons_zero, List.getElem_cons_succ, List.setIfInBounds_toArray, List.set_cons_zero, List.set_cons_succ]
  refine wpAnyH_ready (rs := [4]) (by kernel_rfl) (by simp) ?_
  refine AllReadyH.cons rfl (fun K hK => ?_) AllReadyH.nil
  (rw [if_pos (by kernel_rfl)]; go_simp; go_at_call 51; refine (HR _).out.mono ?_; rintro e w2 ⟨rfl, d2, rfl⟩)
  refine hK.out _ _ trivial (fun hHeld => ?_)
  clear hK K
  try simp only [Act.put, Array.getInternal_eq_getElem, List.getElem_toArray, List.getElem_cons_zero, List.getElem_cons_succ, List.setIfInBounds_toArray, List.set_cons_zero, List.set_cons_succ]
  refine wpAnyH_take (i := 13) (v := ?_) rfl (by kernel_rfl) (by kernel_rfl) (by kernel_rfl) (fun _ _ _ h => h) (Or.inl ⟨by kernel_rfl, ?_⟩) (by assumption) ?_
  rotate_left
  · (intro w hSw; (try dsimp only at hSw); go_simp) <;> (try (with_reducible rfl))
  try simp only [Act.put, Array.getInternal_eq_getElem, List.getElem_toArray, List.getElem_cons_zero, List.getElem_cons_succ, List.setIfInBounds_toArray, List.set_cons_zero, List.set_cons_succ]
  refine wpAnyH_take (i := 14) (v := ?_) rfl (by kernel_rfl) (by kernel_rfl) (by kernel_rfl) (fun _ _ _ h => h) (Or.inl ⟨by kernel_rfl, ?_⟩) (by assumption) ?_
  rotate_left
  · (intro w hSw; (try dsimp only at hSw); go_simp) <;> (try (with_reducible rfl))
  try simp only [Act.put, Array.getInternal_eq_getElem, List.getElem_toArray, List.getElem_cons_zero, List.getElem_cons_succ, List.setIfInBounds_toArray, List.set_cons_zero, List.set_cons_succ]
  refine wpAnyH_done ?_ ?_ _
  · kernel_rfl
  go_wp2
  try rw [Exit.noGoto_ret]
  go_ret
  exact ⟨by rw [← str_append]; rfl, _, drew_more w d2⟩
end
theorem digits_ (b : Nat) (hb0 : 10 ≤ b) (hb : b ≤ 16) : ∀ (f n : Nat) (w : World), f < 10 → n < b ^ (f + 1) → n < 65536 → Calls Tryz.prog 51 #[.int .i64 (n : Int), .int .i64 (b : Int)] w fun e w' => e = .returned (.string (str (dg b (f + 1) n))) ∧ ∃ d, w' = w.drewN d
  | 0, n, w, _, h, _ => by
    have h1 : n < b := by simpa using h
    have e : dg b 1 n = [sign n] := by unfold dg; rw [if_pos h1]
    rw [e]
    exact (digits_one w b n h1 hb).mono fun e w' ⟨he, hw⟩ => ⟨he, 0, hw.symm⟩
  | f + 1, n, w, hf, h, hn => by
    by_cases h1 : n < b
    · have e : dg b (f + 1 + 1) n = [sign n] := by unfold dg; rw [if_pos h1]
      rw [e]
      exact (digits_one w b n h1 hb).mono fun e w' ⟨he, hw⟩ => ⟨he, 0, hw.symm⟩
    · have e : dg b (f + 1 + 1) n = dg b (f + 1) (n / b) ++ [sign (n % b)] := by rw [dg, if_neg h1]
      rw [e]
      have hq : n / b < b ^ (f + 1) := by rw [Nat.div_lt_iff_lt_mul (by omega)]; exact h
      exact digits_more w b n _ h1 hb0 hb hn (by have := dg_len b (f + 1) (n / b); omega) (fun w => digits_ b hb0 hb f (n / b) w (by omega) hq (Nat.lt_of_le_of_lt (Nat.div_le_self _ _) hn))
end Go.Proofs.YtgcdhfpbmcfedaaGreatDoor.pf
end
section
set_option linter.unusedVariables false
namespace Go.Proofs.YtgcdhfpbmcfedaaGreatDoor.pf
open Go.RowKit Go.Proofs.YtgcdhfpbmcfedaaGreatDoor.oc Go.Proofs.YtgcdhfpbmcfedaaGreatDoor.mz Go.Proofs.YtgcdhfpbmcfedaaGreatDoor.wh
open Classical in
noncomputable def errA (a : Ad) : Int := if okA a then 0 else 150
open Classical in
noncomputable def errP (p : Px) : Int := if okP p then 0 else 151
theorem errA_ok {a : Ad} (h : okA a) : errA a = 0 := by unfold errA; rw [if_pos h]
theorem errA_no {a : Ad} (h : ¬ okA a) : errA a = 150 := by unfold errA; rw [if_neg h]
theorem errP_ok {p : Px} (h : okP p) : errP p = 0 := by unfold errP; rw [if_pos h]
theorem errP_no {p : Px} (h : ¬ okP p) : errP p = 151 := by unfold errP; rw [if_neg h]
theorem upto_one {q k : Nat} {f : Nat → Prop} (h : ∀ j, q ≤ j → j < k → f j) (hk : f k) : ∀ j, q ≤ j → j < k + 1 → f j := fun j h1 h2 => by
  rcases Nat.lt_or_ge j k with z | z
  · exact h j h1 z
  · obtain rfl : j = k := by omega
    exact hk
section
variable (a : Ad) (w : World)
set_option maxRecDepth 100000 in
set_option maxHeartbeats 2000000 in
theorem checkaddr_ (ha : a.Wf) : Calls Tryz.prog 20 #[av a] w fun e w' => e = .returned (.int .i64 (errA a)) ∧ ∀ S, Keeps S w w' := by
  have b0 := Blk.new w 24 (adc a).toArray
  have HLD := Lib.hid (Blk.range b0)
  have HSX := Lib.hid (show (Tryz.prog.info? 24).map (·.size) = some (adc a).length from by rw [adc_len ha]; exact addr_info)
  have HWD := fun w => Lib.hid (width_ a w)
  have hw := wid_cases a
  obtain ⟨q, hq⟩ : ∃ q, wid a = q * 8 := ⟨wid a / 8, by omega⟩
  have hq4 : q = 16 ∨ q = 4 := by omega
  have q0 : (0 : Int) ≤ (q : Int) := by omega
  have q1 : (q : Int) ≤ 16 := by omega
  have e1 : ((wid a : Nat) : Int) / 8 = (q : Int) := by omega
  have e2 : IntKind.i64.wrap (((wid a : Nat) : Int).tdiv 8) = (q : Int) := by rw [Int.tdiv_eq_ediv_of_nonneg (by omega), e1, IntKind.wrap_i64]; omega
  have B0 := Lib.hid b0
  have HA := Lib.hid ha
  have HQ := Lib.hid (And.intro hq hq4)
  unfold av at HWD ⊢
  simp only [List.toArray] at HWD
  generalize hC : adc a = C at *
  have HC := Lib.hid hC
  obtain ⟨W, hW⟩ : ∃ W, W = wid a := ⟨_, rfl⟩
  rw [← hW] at HWD HQ e1 e2
  have HWW := Lib.hid hW
  clear b0 ha hw hq hq4 hC hW
  go_enter Tryz.func20, Tryz.ntmps20
  go_wp2_with (refine wpList_load_mid rfl 24 _ rfl w.heap.size 0 rfl C _ HLD.out Tryz.underlying24 rfl HSX.out ?_)
  refine (HWD _).out.mono ?_
  rintro e w1 ⟨rfl, k1⟩
  have B1 := Lib.hid (Blk.keeps B0.out (k1 (fun _ => False)) (fun z => z))
  have K1 : Hid (∀ S, Keeps S w w1) := Lib.hid (fun S => ((Keeps.refl S w).alloc _).trans (k1 S))
  clear k1 HLD B0 HWD
  go_wp2_with fail
  go_loopw [3] (fun i wr => ∃ k : Nat, q ≤ k ∧ k ≤ 16 ∧ i = .int .i64 (k : Int) ∧ w1 = wr ∧ ∀ j, q ≤ j → j < k → byt a j = 0) (fun i _ => 16 - (intOf i).toNat)
  case atStart => exact ⟨q, Nat.le_refl _, by have := HQ.out.2; omega, rfl, rfl, fun j h1 h2 => by omega⟩
  case round =>
    obtain ⟨k, h1, h2, rfl, rfl, hz⟩ := hrel
    have k0 : (0 : Int) ≤ (k : Int) := by omega
    by_cases hlt : k < 16
    · have hlt' : (k : Int) < 16 := by omega
      have xb := ad_byt HA.out (show Blk w1 w.heap.size _ (adc a) by rw [HC.out]; exact B1.out) hlt
      have HZ := Lib.hid hz
      clear hz
      by_cases hb : byt a k = 0
      · rw [hb] at xb
        have HB := Lib.hid hb
        clear hb
        go_wp2_with fail
        go_roundw
        case rel => exact ⟨k + 1, by omega, by omega, by go_num, trivial, upto_one HZ.out HB.out⟩
        case measure => simp [intOf]; omega
      · have hno : ¬ okA a := fun ho => hb (ho k (by have := HQ.out; have := HWW.out; omega) hlt)
        have HNO := Lib.hid (errA_no hno)
        have hb' : ¬ ((byt a k : Nat) : Int) = 0 := by omega
        generalize byt a k = x at *
        clear hno hb
        go_wp2
        try rw [Exit.noGoto_ret]
        go_ret
        exact ⟨by rw [HNO.out]; rfl, K1.out⟩
    · obtain rfl : k = 16 := by omega
      have hok : okA a := fun i a1 a2 => hz i (by have := HQ.out; have := HWW.out; omega) a2
      have HOK := Lib.hid (errA_ok hok)
      clear hz hok
      go_wp2
      try rw [Exit.noGoto_ret]
      go_ret
      exact ⟨by rw [HOK.out]; rfl, K1.out⟩
end
end Go.Proofs.YtgcdhfpbmcfedaaGreatDoor.pf
end
section
set_option linter.unusedVariables false
namespace Go.Proofs.YtgcdhfpbmcfedaaGreatDoor.pf
open Go.RowKit Go.Proofs.YtgcdhfpbmcfedaaGreatDoor.oc Go.Proofs.YtgcdhfpbmcfedaaGreatDoor.mz Go.Proofs.YtgcdhfpbmcfedaaGreatDoor.wh
theorem and_form : ∀ x : Fin 256, ∀ s : Fin 8, (bits .and .u8 ((x.val : Nat) : Int) ((2 : Int) ^ s.val % 256) != 0) = decide (x.val / 2 ^ s.val % 2 = 1) := by decide +kernel
theorem or_form : ∀ x : Fin 256, ∀ s : Fin 8, bits .or .u8 ((x.val : Nat) : Int) ((2 : Int) ^ s.val % 256) = ((bput x.val s.val true : Nat) : Int) := by decide +kernel
theorem sub_form : ∀ x : Fin 256, ∀ s : Fin 8, x.val / 2 ^ s.val % 2 = 1 → (((x.val : Nat) : Int) - (2 : Int) ^ s.val) % 256 = ((bput x.val s.val false : Nat) : Int) := by decide +kernel
theorem adc_put {a : Ad} (h : a.Wf) (i : Nat) (is : Bool) : adc (put a i is) = (adc a).set (1 + i / 8) (.int .u8 ((bput (byt a (i / 8)) (7 - i % 8) is : Nat) : Int)) := by
  unfold adc put b8s
  rw [Nat.add_comm 1, List.set_cons_succ, List.map_set]
theorem put_same {a : Ad} (h : a.Wf) {i : Nat} (hi : i < 128) (hb : bit a i = false) : put a i false = a := by
  refine Ad.ext_bit (put_wf h i hi _) h rfl fun j hj => ?_
  rw [put_bit h i hi _ j hj]
  split
  · rename_i e; subst e; exact hb.symm
  · rfl
theorem b8_one (l : List Nat) : ∀ v ∈ b8s l, v.oneCell' = true := fun v hv => by
  simp only [b8s, List.mem_map] at hv
  obtain ⟨x, _, rfl⟩ := hv
  rfl
theorem ad_one (a : Ad) : ∀ v ∈ adc a, v.oneCell' = true := fun v hv => by
  rcases List.mem_cons.1 hv with rfl | q
  · rfl
  · exact b8_one _ v q
/-- a boxed value of D, and a block of noughts to which it is stored -/
theorem two_blk (w : World) (D Z : List Value) (T : TypeId) (hl : D.length = Z.length) :
    ((w.alloc (.cells D.toArray T)).alloc (.cells Z.toArray T)).rangeAt w.heap.size 0 D ∧ ((w.alloc (.cells D.toArray T)).alloc (.cells Z.toArray T)).there (w.heap.size + 1) 0 D.toArray.size ∧
    Blk (((w.alloc (.cells D.toArray T)).alloc (.cells Z.toArray T)).setCells (w.heap.size + 1) 0 D) (w.heap.size + 1) T D ∧ ∀ S, Keeps S w (((w.alloc (.cells D.toArray T)).alloc (.cells Z.toArray T)).setCells (w.heap.size + 1) 0 D) := by
  have b1 := (Blk.new w T D.toArray).alloc (.cells Z.toArray T)
  have b2 := Blk.new (w.alloc (.cells D.toArray T)) T Z.toArray
  rw [World.size_alloc] at b2
  have k := wh.keeps_setCells (w.heap.size + 1) D ((w.alloc (.cells D.toArray T)).alloc (.cells Z.toArray T)) 0
  have k0 : ∀ S, Keeps S w ((w.alloc (.cells D.toArray T)).alloc (.cells Z.toArray T)) := fun S => ((Keeps.refl S w).alloc _).alloc _
  have ht := wh.Blk.thereAll b2
  refine ⟨wh.Blk.range b1, by rw [show D.toArray.size = Z.toArray.toList.length from by simp [hl]]; exact ht, wh.Blk.setAll b2 D hl, fun S => ?_⟩
  have ks := k0 S
  exact ⟨Nat.le_trans ks.size k.size, fun x hx hs => by rw [k.block x (Nat.lt_of_lt_of_le hx ks.size) (by omega), ks.block x hx hs], ks.same.trans k.same⟩
section
variable (a : Ad) (w : World)
set_option maxRecDepth 100000 in
set_option maxHeartbeats 4000000 in
theorem with_yes (i : Nat) (ha : a.Wf) (hi : i < 128)  : Calls Tryz.prog 48 #[av a, .int .i64 (i : Int), .bool true] w fun e w' => e = .returned (av (put a i true)) ∧ ∀ S, Keeps S w w' := by
  have b0 := (Blk.new w 24 (adc a).toArray).alloc (.cells #[.bool false, .int .u8 0, .int .u8 0, .int .u8 0, .int .u8 0, .int .u8 0, .int .u8 0, .int .u8 0, .int .u8 0, .int .u8 0, .int .u8 0, .int .u8 0, .int .u8 0, .int .u8 0, .int .u8 0, .int .u8 0, .int .u8 0] 24)
  have xb := ad_byt ha b0 (i := i / 8) (by omega)
  have hl := byt_lt ha (i / 8)
  have hap := adc_put ha i true
  have hlen := adc_len ha
  obtain ⟨x, hx⟩ : ∃ x, x = byt a (i / 8) := ⟨_, rfl⟩
  rw [← hx] at xb hl hap
  have hor := or_form ⟨x, hl⟩ ⟨7 - i % 8, by omega⟩
  simp only at hor
  obtain ⟨y, hy⟩ : ∃ y, y = bput x (7 - i % 8) true := ⟨_, rfl⟩
  rw [← hy] at hor hap
  have hone : ∀ v ∈ (adc a).set (1 + i / 8) (.int .u8 ((y : Nat) : Int)), v.oneCell' = true := by rw [← hap]; exact ad_one _
  clear hx hy
  have i0 : (0 : Int) ≤ (i : Int) := by omega
  have i1 : (i : Int) < 128 := by omega
  unfold av
  generalize adc a = C at *
  have ht := two_blk w (C.set (1 + i / 8) (.int .u8 ((y : Nat) : Int))) [.bool false, .int .u8 0, .int .u8 0, .int .u8 0, .int .u8 0, .int .u8 0, .int .u8 0, .int .u8 0, .int .u8 0, .int .u8 0, .int .u8 0, .int .u8 0, .int .u8 0, .int .u8 0, .int .u8 0, .int .u8 0, .int .u8 0] 24 (by simp [hlen])
  have HT := Lib.hid ht
  have HSX := Lib.hid (show (Tryz.prog.info? 24).map (·.size) = some ((C.set (1 + i / 8) (.int .u8 ((y : Nat) : Int)))).length from by rw [addr_info]; simp [hlen])
  have HSY := Lib.hid (show (Tryz.prog.info? 24).map (·.size) = some ((C.set (1 + i / 8) (.int .u8 ((y : Nat) : Int)))).toArray.size from by rw [addr_info]; simp [hlen])
  have HON := Lib.hid (all_oneCell_toArray (cs := (C.set (1 + i / 8) (.int .u8 ((y : Nat) : Int)))) (by exact hone))
  have HAP := Lib.hid hap
  clear b0 ht hap hlen ha
  go_enter Tryz.func48, Tryz.ntmps48
  go_wp2_with (first
    | (refine wpList_load_mid rfl 24 _ rfl w.heap.size 0 rfl ((C.set (1 + i / 8) (.int .u8 ((y : Nat) : Int)))) _ HT.out.1 Tryz.underlying24 rfl HSX.out ?_)
    | (refine wpList_store_mid rfl 24 _ _ rfl (w.heap.size + 1) 0 ((C.set (1 + i / 8) (.int .u8 ((y : Nat) : Int)))).toArray rfl rfl HT.out.2.1 HSY.out HON.out ?_))
  refine bodyPost_ret (results_cell_row (p := 6) (ty := 24) (by kernel_rfl) _ _ (w.heap.size + 1) _ _ _ _ (by rfl) HT.out.2.2.1 Tryz.underlying24 rfl HSY.out) rfl ?_
  exact ⟨by rw [HAP.out], HT.out.2.2.2⟩
set_option maxRecDepth 100000 in
set_option maxHeartbeats 4000000 in
theorem with_clear (i : Nat) (ha : a.Wf) (hi : i < 128) (hb : bit a i = true) : Calls Tryz.prog 48 #[av a, .int .i64 (i : Int), .bool false] w fun e w' => e = .returned (av (put a i false)) ∧ ∀ S, Keeps S w w' := by
  have b0 := (Blk.new w 24 (adc a).toArray).alloc (.cells #[.bool false, .int .u8 0, .int .u8 0, .int .u8 0, .int .u8 0, .int .u8 0, .int .u8 0, .int .u8 0, .int .u8 0, .int .u8 0, .int .u8 0, .int .u8 0, .int .u8 0, .int .u8 0, .int .u8 0, .int .u8 0, .int .u8 0] 24)
  have xb := ad_byt ha b0 (i := i / 8) (by omega)
  have hl := byt_lt ha (i / 8)
  have hap := adc_put ha i false
  have hlen := adc_len ha
  obtain ⟨x, hx⟩ : ∃ x, x = byt a (i / 8) := ⟨_, rfl⟩
  rw [← hx] at xb hl hap
  have hb2 := (bit_iff a i).1 hb
  rw [← hx] at hb2
  have hand := and_form ⟨x, hl⟩ ⟨7 - i % 8, by omega⟩
  have hsub := sub_form ⟨x, hl⟩ ⟨7 - i % 8, by omega⟩ hb2
  simp only at hand hsub
  rw [decide_eq_true hb2] at hand
  obtain ⟨y, hy⟩ : ∃ y, y = bput x (7 - i % 8) false := ⟨_, rfl⟩
  rw [← hy] at hsub hap
  have hone : ∀ v ∈ (adc a).set (1 + i / 8) (.int .u8 ((y : Nat) : Int)), v.oneCell' = true := by rw [← hap]; exact ad_one _
  clear hx hy hb hb2
  have i0 : (0 : Int) ≤ (i : Int) := by omega
  have i1 : (i : Int) < 128 := by omega
  unfold av
  generalize adc a = C at *
  have ht := two_blk w (C.set (1 + i / 8) (.int .u8 ((y : Nat) : Int))) [.bool false, .int .u8 0, .int .u8 0, .int .u8 0, .int .u8 0, .int .u8 0, .int .u8 0, .int .u8 0, .int .u8 0, .int .u8 0, .int .u8 0, .int .u8 0, .int .u8 0, .int .u8 0, .int .u8 0, .int .u8 0, .int .u8 0] 24 (by simp [hlen])
  have HT := Lib.hid ht
  have HSX := Lib.hid (show (Tryz.prog.info? 24).map (·.size) = some ((C.set (1 + i / 8) (.int .u8 ((y : Nat) : Int)))).length from by rw [addr_info]; simp [hlen])
  have HSY := Lib.hid (show (Tryz.prog.info? 24).map (·.size) = some ((C.set (1 + i / 8) (.int .u8 ((y : Nat) : Int)))).toArray.size from by rw [addr_info]; simp [hlen])
  have HON := Lib.hid (all_oneCell_toArray (cs := (C.set (1 + i / 8) (.int .u8 ((y : Nat) : Int)))) (by exact hone))
  have HAP := Lib.hid hap
  clear b0 ht hap hlen ha
  go_enter Tryz.func48, Tryz.ntmps48
  go_wp2_with (first
    | (refine wpList_load_mid rfl 24 _ rfl w.heap.size 0 rfl ((C.set (1 + i / 8) (.int .u8 ((y : Nat) : Int)))) _ HT.out.1 Tryz.underlying24 rfl HSX.out ?_)
    | (refine wpList_store_mid rfl 24 _ _ rfl (w.heap.size + 1) 0 ((C.set (1 + i / 8) (.int .u8 ((y : Nat) : Int)))).toArray rfl rfl HT.out.2.1 HSY.out HON.out ?_))
  refine bodyPost_ret (results_cell_row (p := 6) (ty := 24) (by kernel_rfl) _ _ (w.heap.size + 1) _ _ _ _ (by rfl) HT.out.2.2.1 Tryz.underlying24 rfl HSY.out) rfl ?_
  exact ⟨by rw [HAP.out], HT.out.2.2.2⟩
set_option maxRecDepth 100000 in
set_option maxHeartbeats 4000000 in
theorem with_none (i : Nat) (ha : a.Wf) (hi : i < 128) (hb : bit a i = false) : Calls Tryz.prog 48 #[av a, .int .i64 (i : Int), .bool false] w fun e w' => e = .returned (av (put a i false)) ∧ ∀ S, Keeps S w w' := by
  have b0 := (Blk.new w 24 (adc a).toArray).alloc (.cells #[.bool false, .int .u8 0, .int .u8 0, .int .u8 0, .int .u8 0, .int .u8 0, .int .u8 0, .int .u8 0, .int .u8 0, .int .u8 0, .int .u8 0, .int .u8 0, .int .u8 0, .int .u8 0, .int .u8 0, .int .u8 0, .int .u8 0] 24)
  have xb := ad_byt ha b0 (i := i / 8) (by omega)
  have hl := byt_lt ha (i / 8)
  have hap := adc_put ha i false
  have hlen := adc_len ha
  have hsame := put_same ha hi hb
  rw [hsame] at hap ⊢
  obtain ⟨x, hx⟩ : ∃ x, x = byt a (i / 8) := ⟨_, rfl⟩
  rw [← hx] at xb hl
  have hb2 : ¬ byt a (i / 8) / 2 ^ (7 - i % 8) % 2 = 1 := by rw [← bit_iff, hb]; simp
  rw [← hx] at hb2
  have hand := and_form ⟨x, hl⟩ ⟨7 - i % 8, by omega⟩
  simp only at hand
  rw [decide_eq_false hb2] at hand
  have hone : ∀ v ∈ adc a, v.oneCell' = true := ad_one _
  have hap : True := trivial
  clear hx hb hb2 hsame
  have i0 : (0 : Int) ≤ (i : Int) := by omega
  have i1 : (i : Int) < 128 := by omega
  unfold av
  generalize adc a = C at *
  have ht := two_blk w C [.bool false, .int .u8 0, .int .u8 0, .int .u8 0, .int .u8 0, .int .u8 0, .int .u8 0, .int .u8 0, .int .u8 0, .int .u8 0, .int .u8 0, .int .u8 0, .int .u8 0, .int .u8 0, .int .u8 0, .int .u8 0, .int .u8 0] 24 (by simp [hlen])
  have HT := Lib.hid ht
  have HSX := Lib.hid (show (Tryz.prog.info? 24).map (·.size) = some (C).length from by rw [addr_info]; simp [hlen])
  have HSY := Lib.hid (show (Tryz.prog.info? 24).map (·.size) = some (C).toArray.size from by rw [addr_info]; simp [hlen])
  have HON := Lib.hid (all_oneCell_toArray (cs := C) (by exact hone))
  have HAP := Lib.hid hap
  clear b0 ht hap hlen ha
  go_enter Tryz.func48, Tryz.ntmps48
  go_wp2_with (first
    | (refine wpList_load_mid rfl 24 _ rfl w.heap.size 0 rfl (C) _ HT.out.1 Tryz.underlying24 rfl HSX.out ?_)
    | (refine wpList_store_mid rfl 24 _ _ rfl (w.heap.size + 1) 0 (C).toArray rfl rfl HT.out.2.1 HSY.out HON.out ?_))
  refine bodyPost_ret (results_cell_row (p := 6) (ty := 24) (by kernel_rfl) _ _ (w.heap.size + 1) _ _ _ _ (by rfl) HT.out.2.2.1 Tryz.underlying24 rfl HSY.out) rfl ?_
  exact ⟨rfl, HT.out.2.2.2⟩
theorem with_ (i : Nat) (is : Bool) (ha : a.Wf) (hi : i < 128) : Calls Tryz.prog 48 #[av a, .int .i64 (i : Int), .bool is] w fun e w' => e = .returned (av (put a i is)) ∧ ∀ S, Keeps S w w' := by
  cases is with
  | true => exact with_yes a w i ha hi
  | false =>
    cases hb : bit a i with
    | true => exact with_clear a w i ha hi hb
    | false => exact with_none a w i ha hi hb
end
end Go.Proofs.YtgcdhfpbmcfedaaGreatDoor.pf
end
section
set_option linter.unusedVariables false
set_option linter.unusedSimpArgs false
namespace Go.Proofs.YtgcdhfpbmcfedaaGreatDoor.pf
open Go.RowKit Go.Proofs.YtgcdhfpbmcfedaaGreatDoor.oc Go.Proofs.YtgcdhfpbmcfedaaGreatDoor.mz Go.Proofs.YtgcdhfpbmcfedaaGreatDoor.wh
section
variable (w : World)
set_option maxRecDepth 100000 in
set_option maxHeartbeats 4000000 in
theorem check_addr (p : Px) (hp : p.a.Wf) (ho : ¬ okA p.a) : Calls Tryz.prog 22 #[pv p] w fun e w' => e = .returned (.int .i64 (errP p)) ∧ ∀ S, Keeps S w w' := by
  have HCA := fun w => Lib.hid (checkaddr_ p.a w hp)
  have HWD := fun w => Lib.hid (width_ p.a w)
  rw [errA_no ho] at HCA
  rw [errP_no (fun z => ho z.1)]
  have HSX := Lib.hid (show (Tryz.prog.info? 24).map (·.size) = some (adc p.a).length from by rw [adc_len hp]; exact addr_info)
  obtain ⟨w1, hw1, k1, b1⟩ := enter_blk w (pxc p).toArray 28
  have HKS : ∀ w', Blk w' w.heap.size 28 (pxc p) → w'.rangeAt w.heap.size 0 (adc p.a) ∧ w'.cell? ⟨w.heap.size, 17, none⟩ = some (.int .i64 p.bits) := fun w' h => ⟨px_addr hp h, px_bits hp h⟩
  have HS1 := Lib.hid (HKS w1.drew b1)
  have HW := Lib.hid hw1
  have K1 : Hid (∀ S, Keeps S w w1) := Lib.hid k1
  have BX : Hid (Blk w1 w.heap.size 28 (pxc p)) := Lib.hid b1
  unfold av at HCA
  unfold av at HWD
  unfold pv
  clear hw1 k1 b1 hp ho

  generalize wid p.a = W at *
  generalize adc p.a = C at *
  generalize p.bits = bits at *
  skip
  generalize pxc p = D at *
  go_enter Tryz.func22, Tryz.ntmps22
  go_wp2_with fail
  rw [← HW.out]
  refine wp_region_held_drew (S := fun w' => w'.rangeAt w.heap.size 0 C ∧ w'.cell? ⟨w.heap.size, 17, none⟩ = some (.int .i64 bits)) (by kernel_rfl) HS1.out (fun hHeld => ?_)
  refine wpAnyH_take (i := 0) (v := ?_) rfl (by kernel_rfl) (by kernel_rfl) (by kernel_rfl) (fun _ _ _ h => h) (Or.inl ⟨by kernel_rfl, ?_⟩) (by assumption) ?_
  rotate_left
  · (intro w hSw; (try dsimp only at hSw); go_simp) <;> (try (with_reducible rfl))
  try simp only [Act.put, Array.getInternal_eq_getElem, List.getElem_toArray, List.getElem_cons_zero, List.getElem_cons_succ, List.setIfInBounds_toArray, List.set_cons_zero, List.set_cons_succ]
  refine' wpAnyH_take (i := 1) (v := _) rfl (by kernel_rfl) (by kernel_rfl) (by kernel_rfl) (fun _ _ _ h => h) (yieldsIf_load_mid (by kernel_rfl) _ _ rfl _ _ rfl _ _ (fun w hSw => hSw.1) Tryz.underlying24 rfl HSX.out) (by assumption) ?_
  try simp only [Act.put, Array.getInternal_eq_getElem, List.getElem_toArray, List.getElem_cons_zero, List.getElem_cons_succ, List.setIfInBounds_toArray, List.set_cons_zero, List.set_cons_succ]
  refine wpAnyH_ready (rs := [2]) (by kernel_rfl) (by simp) ?_
  refine AllReadyH.cons rfl (fun K hK => ?_) AllReadyH.nil
  (rw [if_pos (by kernel_rfl)]; go_simp; go_at_call 20; refine (HCA _).out.mono ?_; rintro e wc ⟨rfl, kc⟩; have BY := Lib.hid (Blk.keeps BX.out ((Keeps.refl (fun _ => False) w1).drew.trans (kc _)) (fun z => z)); have KC : Hid (∀ S, Keeps S w wc) := Lib.hid (fun S => ((K1.out S).drew).trans (kc S)); clear kc)
  refine hK.out _ _ (HKS wc BY.out) (fun hHeld => ?_)
  clear hK K
  try simp only [Act.put, Array.getInternal_eq_getElem, List.getElem_toArray, List.getElem_cons_zero, List.getElem_cons_succ, List.setIfInBounds_toArray, List.set_cons_zero, List.set_cons_succ]
  refine wpAnyH_take (i := 3) (v := ?_) rfl (by kernel_rfl) (by kernel_rfl) (by kernel_rfl) (fun _ _ _ h => h) (Or.inl ⟨by kernel_rfl, ?_⟩) (by assumption) ?_
  rotate_left
  · (intro w hSw; (try dsimp only at hSw); go_simp) <;> (try (with_reducible rfl))
  try simp only [Act.put, Array.getInternal_eq_getElem, List.getElem_toArray, List.getElem_cons_zero, List.getElem_cons_succ, List.setIfInBounds_toArray, List.set_cons_zero, List.set_cons_succ]
  refine wpAnyH_take (i := 4) (v := ?_) rfl (by kernel_rfl) (by kernel_rfl) (by kernel_rfl) (fun _ _ _ h => h) (Or.inl ⟨by kernel_rfl, ?_⟩) (by assumption) ?_
  rotate_left
  · (intro w hSw; (try dsimp only at hSw); go_simp) <;> (try (with_reducible rfl))
  try simp only [Act.put, Array.getInternal_eq_getElem, List.getElem_toArray, List.getElem_cons_zero, List.getElem_cons_succ, List.setIfInBounds_toArray, List.set_cons_zero, List.set_cons_succ]
  refine wpAnyH_take (i := 5) (v := undef) rfl (by kernel_rfl) (by kernel_rfl) (by kernel_rfl) (fun _ _ _ h => h) (Or.inr ⟨by kernel_rfl, rfl⟩) (by assumption) ?_
  try simp only [Act.put, Array.getInternal_eq_getElem, List.getElem_toArray, List.getElem_cons_zero, List.getElem_cons_succ, List.setIfInBounds_toArray, List.set_cons_zero, List.set_cons_succ]
  refine wpAnyH_take (i := 6) (v := undef) rfl (by kernel_rfl) (by kernel_rfl) (by kernel_rfl) (fun _ _ _ h => h) (Or.inr ⟨by kernel_rfl, rfl⟩) (by assumption) ?_
  try simp only [Act.put, Array.getInternal_eq_getElem, List.getElem_toArray, List.getElem_cons_zero, List.getElem_cons_succ, List.setIfInBounds_toArray, List.set_cons_zero, List.set_cons_succ]
  refine wpAnyH_take (i := 7) (v := undef) rfl (by kernel_rfl) (by kernel_rfl) (by kernel_rfl) (fun _ _ _ h => h) (Or.inr ⟨by kernel_rfl, rfl⟩) (by assumption) ?_
  try simp only [Act.put, Array.getInternal_eq_getElem, List.getElem_toArray, List.getElem_cons_zero, List.getElem_cons_succ, List.setIfInBounds_toArray, List.set_cons_zero, List.set_cons_succ]
  refine wpAnyH_take (i := 8) (v := ?_) rfl (by kernel_rfl) (by kernel_rfl) (by kernel_rfl) (fun _ _ _ h => h) (Or.inl ⟨by kernel_rfl, ?_⟩) (by assumption) ?_
  rotate_left
  · (intro w hSw; (try dsimp only at hSw); go_simp) <;> (try (with_reducible rfl))
  try simp only [Act.put, Array.getInternal_eq_getElem, List.getElem_toArray, List.getElem_cons_zero, List.getElem_cons_succ, List.setIfInBounds_toArray, List.set_cons_zero, List.set_cons_succ]
  refine wpAnyH_take (i := 9) (v := ?_) rfl (by kernel_rfl) (by kernel_rfl) (by kernel_rfl) (fun _ _ _ h => h) (Or.inl ⟨by kernel_rfl, ?_⟩) (by assumption) ?_
  rotate_left
  · (intro w hSw; (try dsimp only at hSw); go_simp) <;> (try (with_reducible rfl))
  try simp only [Act.put, Array.getInternal_eq_getElem, List.getElem_toArray, List.getElem_cons_zero, List.getElem_cons_succ, List.setIfInBounds_toArray, List.set_cons_zero, List.set_cons_succ]
  refine wpAnyH_take (i := 10) (v := undef) rfl (by kernel_rfl) (by kernel_rfl) (by kernel_rfl) (fun _ _ _ h => h) (Or.inr ⟨by kernel_rfl, rfl⟩) (by assumption) ?_
  try simp only [Act.put, Array.getInternal_eq_getElem, List.getElem_toArray, List.getElem_cons_zero, List.getElem_cons_succ, List.setIfInBounds_toArray, List.set_cons_zero, List.set_cons_succ]
  refine wpAnyH_take (i := 11) (v := undef) rfl (by kernel_rfl) (by kernel_rfl) (by kernel_rfl) (fun _ _ _ h => h) (Or.inr ⟨by kernel_rfl, rfl⟩) (by assumption) ?_
  try simp only [Act.put, Array.getInternal_eq_getElem, List.getElem_toArray, List.getElem_cons_zero, List.getElem_cons_succ, List.setIfInBounds_toArray, List.set_cons_zero, List.set_cons_succ]
  refine wpAnyH_take (i := 12) (v := undef) rfl (by kernel_rfl) (by kernel_rfl) (by kernel_rfl) (fun _ _ _ h => h) (Or.inr ⟨by kernel_rfl, rfl⟩) (by assumption) ?_
  try simp only [Act.put, Array.getInternal_eq_getElem, List.getElem_toArray, List.getElem_cons_zero, List.getElem_cons_succ, List.setIfInBounds_toArray, List.set_cons_zero, List.set_cons_succ]
  refine wpAnyH_take (i := 13) (v := undef) rfl (by kernel_rfl) (by kernel_rfl) (by kernel_rfl) (fun _ _ _ h => h) (Or.inr ⟨by kernel_rfl, rfl⟩) (by assumption) ?_
  try simp only [Act.put, Array.getInternal_eq_getElem, List.getElem_toArray, List.getElem_cons_zero, List.getElem_cons_succ, List.setIfInBounds_toArray, List.set_cons_zero, List.set_cons_succ]
  refine wpAnyH_take (i := 14) (v := undef) rfl (by kernel_rfl) (by kernel_rfl) (by kernel_rfl) (fun _ _ _ h => h) (Or.inr ⟨by kernel_rfl, rfl⟩) (by assumption) ?_
  try simp only [Act.put, Array.getInternal_eq_getElem, List.getElem_toArray, List.getElem_cons_zero, List.getElem_cons_succ, List.setIfInBounds_toArray, List.set_cons_zero, List.set_cons_succ]
  refine wpAnyH_take (i := 15) (v := undef) rfl (by kernel_rfl) (by kernel_rfl) (by kernel_rfl) (fun _ _ _ h => h) (Or.inr ⟨by kernel_rfl, rfl⟩) (by assumption) ?_
  try simp only [Act.put, Array.getInternal_eq_getElem, List.getElem_toArray, List.getElem_cons_zero, List.getElem_cons_succ, List.setIfInBounds_toArray, List.set_cons_zero, List.set_cons_succ]
  refine wpAnyH_take (i := 16) (v := ?_) rfl (by kernel_rfl) (by kernel_rfl) (by kernel_rfl) (fun _ _ _ h => h) (Or.inl ⟨by kernel_rfl, ?_⟩) (by assumption) ?_
  rotate_left
  · (intro w hSw; (try dsimp only at hSw); go_simp) <;> (try (with_reducible rfl))
  try simp only [Act.put, Array.getInternal_eq_getElem, List.getElem_toArray, List.getElem_cons_zero, List.getElem_cons_succ, List.setIfInBounds_toArray, List.set_cons_zero, List.set_cons_succ]
  refine wpAnyH_done ?_ ?_ _
  · kernel_rfl
  go_wp2
  try rw [Exit.noGoto_ret]
  go_ret
  exact ⟨rfl, KC.out⟩
set_option maxRecDepth 100000 in
set_option maxHeartbeats 4000000 in
theorem check_neg (p : Px) (hp : p.a.Wf) (ho : okA p.a) (hb : p.bits < 0) : Calls Tryz.prog 22 #[pv p] w fun e w' => e = .returned (.int .i64 (errP p)) ∧ ∀ S, Keeps S w w' := by
  have HCA := fun w => Lib.hid (checkaddr_ p.a w hp)
  have HWD := fun w => Lib.hid (width_ p.a w)
  rw [errA_ok ho] at HCA
  rw [errP_no (fun z => by have := z.2.1.1; omega)]
  have HSX := Lib.hid (show (Tryz.prog.info? 24).map (·.size) = some (adc p.a).length from by rw [adc_len hp]; exact addr_info)
  obtain ⟨w1, hw1, k1, b1⟩ := enter_blk w (pxc p).toArray 28
  have HKS : ∀ w', Blk w' w.heap.size 28 (pxc p) → w'.rangeAt w.heap.size 0 (adc p.a) ∧ w'.cell? ⟨w.heap.size, 17, none⟩ = some (.int .i64 p.bits) := fun w' h => ⟨px_addr hp h, px_bits hp h⟩
  have HS1 := Lib.hid (HKS w1.drew b1)
  have HW := Lib.hid hw1
  have K1 : Hid (∀ S, Keeps S w w1) := Lib.hid k1
  have BX : Hid (Blk w1 w.heap.size 28 (pxc p)) := Lib.hid b1
  unfold av at HCA
  unfold av at HWD
  unfold pv
  clear hw1 k1 b1 hp ho

  generalize wid p.a = W at *
  generalize adc p.a = C at *
  generalize p.bits = bits at *
  skip
  generalize pxc p = D at *
  go_enter Tryz.func22, Tryz.ntmps22
  go_wp2_with fail
  rw [← HW.out]
  refine wp_region_held_drew (S := fun w' => w'.rangeAt w.heap.size 0 C ∧ w'.cell? ⟨w.heap.size, 17, none⟩ = some (.int .i64 bits)) (by kernel_rfl) HS1.out (fun hHeld => ?_)
  refine wpAnyH_take (i := 0) (v := ?_) rfl (by kernel_rfl) (by kernel_rfl) (by kernel_rfl) (fun _ _ _ h => h) (Or.inl ⟨by kernel_rfl, ?_⟩) (by assumption) ?_
  rotate_left
  · (intro w hSw; (try dsimp only at hSw); go_simp) <;> (try (with_reducible rfl))
  try simp only [Act.put, Array.getInternal_eq_getElem, List.getElem_toArray, List.getElem_cons_zero, List.getElem_cons_succ, List.setIfInBounds_toArray, List.set_cons_zero, List.set_cons_succ]
  refine' wpAnyH_take (i := 1) (v := _) rfl (by kernel_rfl) (by kernel_rfl) (by kernel_rfl) (fun _ _ _ h => h) (yieldsIf_load_mid (by kernel_rfl) _ _ rfl _ _ rfl _ _ (fun w hSw => hSw.1) Tryz.underlying24 rfl HSX.out) (by assumption) ?_
  try simp only [Act.put, Array.getInternal_eq_getElem, List.getElem_toArray, List.getElem_cons_zero, List.getElem_cons_succ, List.setIfInBounds_toArray, List.set_cons_zero, List.set_cons_succ]
  refine wpAnyH_ready (rs := [2]) (by kernel_rfl) (by simp) ?_
  refine AllReadyH.cons rfl (fun K hK => ?_) AllReadyH.nil
  (rw [if_pos (by kernel_rfl)]; go_simp; go_at_call 20; refine (HCA _).out.mono ?_; rintro e wc ⟨rfl, kc⟩; have BY := Lib.hid (Blk.keeps BX.out ((Keeps.refl (fun _ => False) w1).drew.trans (kc _)) (fun z => z)); have KC : Hid (∀ S, Keeps S w wc) := Lib.hid (fun S => ((K1.out S).drew).trans (kc S)); clear kc)
  refine hK.out _ _ (HKS wc BY.out) (fun hHeld => ?_)
  clear hK K
  try simp only [Act.put, Array.getInternal_eq_getElem, List.getElem_toArray, List.getElem_cons_zero, List.getElem_cons_succ, List.setIfInBounds_toArray, List.set_cons_zero, List.set_cons_succ]
  refine wpAnyH_take (i := 3) (v := ?_) rfl (by kernel_rfl) (by kernel_rfl) (by kernel_rfl) (fun _ _ _ h => h) (Or.inl ⟨by kernel_rfl, ?_⟩) (by assumption) ?_
  rotate_left
  · (intro w hSw; (try dsimp only at hSw); go_simp) <;> (try (with_reducible rfl))
  try simp only [Act.put, Array.getInternal_eq_getElem, List.getElem_toArray, List.getElem_cons_zero, List.getElem_cons_succ, List.setIfInBounds_toArray, List.set_cons_zero, List.set_cons_succ]
  refine wpAnyH_take (i := 4) (v := ?_) rfl (by kernel_rfl) (by kernel_rfl) (by kernel_rfl) (fun _ _ _ h => h) (Or.inl ⟨by kernel_rfl, ?_⟩) (by assumption) ?_
  rotate_left
  · (intro w hSw; (try dsimp only at hSw); go_simp) <;> (try (with_reducible rfl))
  try simp only [Act.put, Array.getInternal_eq_getElem, List.getElem_toArray, List.getElem_cons_zero, List.getElem_cons_succ, List.setIfInBounds_toArray, List.set_cons_zero, List.set_cons_succ]
  refine wpAnyH_take (i := 5) (v := ?_) rfl (by kernel_rfl) (by kernel_rfl) (by kernel_rfl) (fun _ _ _ h => h) (Or.inl ⟨by kernel_rfl, ?_⟩) (by assumption) ?_
  rotate_left
  · (intro w hSw; (try dsimp only at hSw); go_simp) <;> (try (with_reducible rfl))
  try simp only [Act.put, Array.getInternal_eq_getElem, List.getElem_toArray, List.getElem_cons_zero, List.getElem_cons_succ, List.setIfInBounds_toArray, List.set_cons_zero, List.set_cons_succ]
  refine wpAnyH_take (i := 6) (v := ?_) rfl (by kernel_rfl) (by kernel_rfl) (by kernel_rfl) (fun _ _ _ h => h) (Or.inl ⟨by kernel_rfl, ?_⟩) (by assumption) ?_
  rotate_left
  · (intro w hSw; (try dsimp only at hSw); go_simp) <;> (try (with_reducible rfl))
  try simp only [Act.put, Array.getInternal_eq_getElem, List.getElem_toArray, List.getElem_cons_zero, List.getElem_cons_succ, List.setIfInBounds_toArray, List.set_cons_zero, List.set_cons_succ]
  refine wpAnyH_take (i := 7) (v := ?_) rfl (by kernel_rfl) (by kernel_rfl) (by kernel_rfl) (fun _ _ _ h => h) (Or.inl ⟨by kernel_rfl, ?_⟩) (by assumption) ?_
  rotate_left
  · (intro w hSw; (try dsimp only at hSw); go_simp) <;> (try (with_reducible rfl))
  try simp only [Act.put, Array.getInternal_eq_getElem, List.getElem_toArray, List.getElem_cons_zero, List.getElem_cons_succ, List.setIfInBounds_toArray, List.set_cons_zero, List.set_cons_succ]
  refine wpAnyH_take (i := 8) (v := ?_) rfl (by kernel_rfl) (by kernel_rfl) (by kernel_rfl) (fun _ _ _ h => h) (Or.inl ⟨by kernel_rfl, ?_⟩) (by assumption) ?_
  rotate_left
  · (intro w hSw; (try dsimp only at hSw); go_simp) <;> (try (with_reducible rfl))
  try simp only [Act.put, Array.getInternal_eq_getElem, List.getElem_toArray, List.getElem_cons_zero, List.getElem_cons_succ, List.setIfInBounds_toArray, List.set_cons_zero, List.set_cons_succ]
  refine wpAnyH_take (i := 9) (v := ?_) rfl (by kernel_rfl) (by kernel_rfl) (by kernel_rfl) (fun _ _ _ h => h) (Or.inl ⟨by kernel_rfl, ?_⟩) (by assumption) ?_
  rotate_left
  · (intro w hSw; (try dsimp only at hSw); go_simp) <;> (try (with_reducible rfl))
  try simp only [Act.put, Array.getInternal_eq_getElem, List.getElem_toArray, List.getElem_cons_zero, List.getElem_cons_succ, List.setIfInBounds_toArray, List.set_cons_zero, List.set_cons_succ]
  refine wpAnyH_take (i := 10) (v := undef) rfl (by kernel_rfl) (by kernel_rfl) (by kernel_rfl) (fun _ _ _ h => h) (Or.inr ⟨by kernel_rfl, rfl⟩) (by assumption) ?_
  try simp only [Act.put, Array.getInternal_eq_getElem, List.getElem_toArray, List.getElem_cons_zero, List.getElem_cons_succ, List.setIfInBounds_toArray, List.set_cons_zero, List.set_cons_succ]
  refine wpAnyH_take (i := 11) (v := undef) rfl (by kernel_rfl) (by kernel_rfl) (by kernel_rfl) (fun _ _ _ h => h) (Or.inr ⟨by kernel_rfl, rfl⟩) (by assumption) ?_
  try simp only [Act.put, Array.getInternal_eq_getElem, List.getElem_toArray, List.getElem_cons_zero, List.getElem_cons_succ, List.setIfInBounds_toArray, List.set_cons_zero, List.set_cons_succ]
  refine wpAnyH_take (i := 12) (v := undef) rfl (by kernel_rfl) (by kernel_rfl) (by kernel_rfl) (fun _ _ _ h => h) (Or.inr ⟨by kernel_rfl, rfl⟩) (by assumption) ?_
  try simp only [Act.put, Array.getInternal_eq_getElem, List.getElem_toArray, List.getElem_cons_zero, List.getElem_cons_succ, List.setIfInBounds_toArray, List.set_cons_zero, List.set_cons_succ]
  refine wpAnyH_take (i := 13) (v := undef) rfl (by kernel_rfl) (by kernel_rfl) (by kernel_rfl) (fun _ _ _ h => h) (Or.inr ⟨by kernel_rfl, rfl⟩) (by assumption) ?_
  try simp only [Act.put, Array.getInternal_eq_getElem, List.getElem_toArray, List.getElem_cons_zero, List.getElem_cons_succ, List.setIfInBounds_toArray, List.set_cons_zero, List.set_cons_succ]
  refine wpAnyH_take (i := 14) (v := undef) rfl (by kernel_rfl) (by kernel_rfl) (by kernel_rfl) (fun _ _ _ h => h) (Or.inr ⟨by kernel_rfl, rfl⟩) (by assumption) ?_
  try simp only [Act.put, Array.getInternal_eq_getElem, List.getElem_toArray, List.getElem_cons_zero, List.getElem_cons_succ, List.setIfInBounds_toArray, List.set_cons_zero, List.set_cons_succ]
  refine wpAnyH_take (i := 15) (v := undef) rfl (by kernel_rfl) (by kernel_rfl) (by kernel_rfl) (fun _ _ _ h => h) (Or.inr ⟨by kernel_rfl, rfl⟩) (by assumption) ?_
  try simp only [Act.put, Array.getInternal_eq_getElem, List.getElem_toArray, List.getElem_cons_zero, List.getElem_cons_succ, List.setIfInBounds_toArray, List.set_cons_zero, List.set_cons_succ]
  refine wpAnyH_take (i := 16) (v := ?_) rfl (by kernel_rfl) (by kernel_rfl) (by kernel_rfl) (fun _ _ _ h => h) (Or.inl ⟨by kernel_rfl, ?_⟩) (by assumption) ?_
  rotate_left
  · (intro w hSw; (try dsimp only at hSw); go_simp) <;> (try (with_reducible rfl))
  try simp only [Act.put, Array.getInternal_eq_getElem, List.getElem_toArray, List.getElem_cons_zero, List.getElem_cons_succ, List.setIfInBounds_toArray, List.set_cons_zero, List.set_cons_succ]
  refine wpAnyH_done ?_ ?_ _
  · kernel_rfl
  go_wp2
  try rw [Exit.noGoto_ret]
  go_ret
  exact ⟨rfl, KC.out⟩
set_option maxRecDepth 100000 in
set_option maxHeartbeats 4000000 in
theorem check_over (p : Px) (hp : p.a.Wf) (ho : okA p.a) (hb : ¬ p.bits < 0) (hc : (wid p.a : Int) < p.bits) : Calls Tryz.prog 22 #[pv p] w fun e w' => e = .returned (.int .i64 (errP p)) ∧ ∀ S, Keeps S w w' := by
  have HCA := fun w => Lib.hid (checkaddr_ p.a w hp)
  have HWD := fun w => Lib.hid (width_ p.a w)
  rw [errA_ok ho] at HCA
  rw [errP_no (fun z => by have := z.2.1.2; omega)]
  have HSX := Lib.hid (show (Tryz.prog.info? 24).map (·.size) = some (adc p.a).length from by rw [adc_len hp]; exact addr_info)
  obtain ⟨w1, hw1, k1, b1⟩ := enter_blk w (pxc p).toArray 28
  have HKS : ∀ w', Blk w' w.heap.size 28 (pxc p) → w'.rangeAt w.heap.size 0 (adc p.a) ∧ w'.cell? ⟨w.heap.size, 17, none⟩ = some (.int .i64 p.bits) := fun w' h => ⟨px_addr hp h, px_bits hp h⟩
  have HS1 := Lib.hid (HKS w1.drew b1)
  have HW := Lib.hid hw1
  have K1 : Hid (∀ S, Keeps S w w1) := Lib.hid k1
  have BX : Hid (Blk w1 w.heap.size 28 (pxc p)) := Lib.hid b1
  unfold av at HCA
  unfold av at HWD
  unfold pv
  clear hw1 k1 b1 hp ho

  generalize wid p.a = W at *
  generalize adc p.a = C at *
  generalize p.bits = bits at *
  have hbd : decide (bits < 0) = false := decide_eq_false hb
  generalize pxc p = D at *
  go_enter Tryz.func22, Tryz.ntmps22
  go_wp2_with fail
  rw [← HW.out]
  refine wp_region_held_drew (S := fun w' => w'.rangeAt w.heap.size 0 C ∧ w'.cell? ⟨w.heap.size, 17, none⟩ = some (.int .i64 bits)) (by kernel_rfl) HS1.out (fun hHeld => ?_)
  refine wpAnyH_take (i := 0) (v := ?_) rfl (by kernel_rfl) (by kernel_rfl) (by kernel_rfl) (fun _ _ _ h => h) (Or.inl ⟨by kernel_rfl, ?_⟩) (by assumption) ?_
  rotate_left
  · (intro w hSw; (try dsimp only at hSw); go_simp) <;> (try (with_reducible rfl))
  try simp only [Act.put, Array.getInternal_eq_getElem, List.getElem_toArray, List.getElem_cons_zero, List.getElem_cons_succ, List.setIfInBounds_toArray, List.set_cons_zero, List.set_cons_succ]
  refine' wpAnyH_take (i := 1) (v := _) rfl (by kernel_rfl) (by kernel_rfl) (by kernel_rfl) (fun _ _ _ h => h) (yieldsIf_load_mid (by kernel_rfl) _ _ rfl _ _ rfl _ _ (fun w hSw => hSw.1) Tryz.underlying24 rfl HSX.out) (by assumption) ?_
  try simp only [Act.put, Array.getInternal_eq_getElem, List.getElem_toArray, List.getElem_cons_zero, List.getElem_cons_succ, List.setIfInBounds_toArray, List.set_cons_zero, List.set_cons_succ]
  refine wpAnyH_ready (rs := [2]) (by kernel_rfl) (by simp) ?_
  refine AllReadyH.cons rfl (fun K hK => ?_) AllReadyH.nil
  (rw [if_pos (by kernel_rfl)]; go_simp; go_at_call 20; refine (HCA _).out.mono ?_; rintro e wc ⟨rfl, kc⟩; have BY := Lib.hid (Blk.keeps BX.out ((Keeps.refl (fun _ => False) w1).drew.trans (kc _)) (fun z => z)); have KC : Hid (∀ S, Keeps S w wc) := Lib.hid (fun S => ((K1.out S).drew).trans (kc S)); clear kc)
  refine hK.out _ _ (HKS wc BY.out) (fun hHeld => ?_)
  clear hK K
  try simp only [Act.put, Array.getInternal_eq_getElem, List.getElem_toArray, List.getElem_cons_zero, List.getElem_cons_succ, List.setIfInBounds_toArray, List.set_cons_zero, List.set_cons_succ]
  refine wpAnyH_take (i := 3) (v := ?_) rfl (by kernel_rfl) (by kernel_rfl) (by kernel_rfl) (fun _ _ _ h => h) (Or.inl ⟨by kernel_rfl, ?_⟩) (by assumption) ?_
  rotate_left
  · (intro w hSw; (try dsimp only at hSw); go_simp) <;> (try (with_reducible rfl))
  try simp only [Act.put, Array.getInternal_eq_getElem, List.getElem_toArray, List.getElem_cons_zero, List.getElem_cons_succ, List.setIfInBounds_toArray, List.set_cons_zero, List.set_cons_succ]
  refine wpAnyH_take (i := 4) (v := ?_) rfl (by kernel_rfl) (by kernel_rfl) (by kernel_rfl) (fun _ _ _ h => h) (Or.inl ⟨by kernel_rfl, ?_⟩) (by assumption) ?_
  rotate_left
  · (intro w hSw; (try dsimp only at hSw); go_simp) <;> (try (with_reducible rfl))
  try simp only [Act.put, Array.getInternal_eq_getElem, List.getElem_toArray, List.getElem_cons_zero, List.getElem_cons_succ, List.setIfInBounds_toArray, List.set_cons_zero, List.set_cons_succ]
  refine wpAnyH_take (i := 5) (v := ?_) rfl (by kernel_rfl) (by kernel_rfl) (by kernel_rfl) (fun _ _ _ h => h) (Or.inl ⟨by kernel_rfl, ?_⟩) (by assumption) ?_
  rotate_left
  · (intro w hSw; (try dsimp only at hSw); go_simp) <;> (try (with_reducible rfl))
  try simp only [Act.put, Array.getInternal_eq_getElem, List.getElem_toArray, List.getElem_cons_zero, List.getElem_cons_succ, List.setIfInBounds_toArray, List.set_cons_zero, List.set_cons_succ]
  refine wpAnyH_take (i := 6) (v := ?_) rfl (by kernel_rfl) (by kernel_rfl) (by kernel_rfl) (fun _ _ _ h => h) (Or.inl ⟨by kernel_rfl, ?_⟩) (by assumption) ?_
  rotate_left
  · (intro w hSw; (try dsimp only at hSw); go_simp) <;> (try (with_reducible rfl))
  try simp only [Act.put, Array.getInternal_eq_getElem, List.getElem_toArray, List.getElem_cons_zero, List.getElem_cons_succ, List.setIfInBounds_toArray, List.set_cons_zero, List.set_cons_succ]
  refine wpAnyH_take (i := 7) (v := ?_) rfl (by kernel_rfl) (by kernel_rfl) (by kernel_rfl) (fun _ _ _ h => h) (Or.inl ⟨by kernel_rfl, ?_⟩) (by assumption) ?_
  rotate_left
  · (intro w hSw; (try dsimp only at hSw); go_simp) <;> (try (with_reducible rfl))
  try simp only [Act.put, Array.getInternal_eq_getElem, List.getElem_toArray, List.getElem_cons_zero, List.getElem_cons_succ, List.setIfInBounds_toArray, List.set_cons_zero, List.set_cons_succ]
  refine wpAnyH_take (i := 8) (v := ?_) rfl (by kernel_rfl) (by kernel_rfl) (by kernel_rfl) (fun _ _ _ h => h) (Or.inl ⟨by kernel_rfl, ?_⟩) (by assumption) ?_
  rotate_left
  · (intro w hSw; (try dsimp only at hSw); go_simp) <;> (try (with_reducible rfl))
  try simp only [Act.put, Array.getInternal_eq_getElem, List.getElem_toArray, List.getElem_cons_zero, List.getElem_cons_succ, List.setIfInBounds_toArray, List.set_cons_zero, List.set_cons_succ]
  refine wpAnyH_take (i := 9) (v := ?_) rfl (by kernel_rfl) (by kernel_rfl) (by kernel_rfl) (fun _ _ _ h => h) (Or.inl ⟨by kernel_rfl, ?_⟩) (by assumption) ?_
  rotate_left
  · (intro w hSw; (try dsimp only at hSw); go_simp) <;> (try (with_reducible rfl))
  try simp only [Act.put, Array.getInternal_eq_getElem, List.getElem_toArray, List.getElem_cons_zero, List.getElem_cons_succ, List.setIfInBounds_toArray, List.set_cons_zero, List.set_cons_succ]
  refine wpAnyH_take (i := 10) (v := ?_) rfl (by kernel_rfl) (by kernel_rfl) (by kernel_rfl) (fun _ _ _ h => h) (Or.inl ⟨by kernel_rfl, ?_⟩) (by assumption) ?_
  rotate_left
  · (intro w hSw; (try dsimp only at hSw); go_simp) <;> (try (with_reducible rfl))
  try simp only [Act.put, Array.getInternal_eq_getElem, List.getElem_toArray, List.getElem_cons_zero, List.getElem_cons_succ, List.setIfInBounds_toArray, List.set_cons_zero, List.set_cons_succ]
  refine wpAnyH_take (i := 11) (v := ?_) rfl (by kernel_rfl) (by kernel_rfl) (by kernel_rfl) (fun _ _ _ h => h) (Or.inl ⟨by kernel_rfl, ?_⟩) (by assumption) ?_
  rotate_left
  · (intro w hSw; (try dsimp only at hSw); go_simp) <;> (try (with_reducible rfl))
  try simp only [Act.put, Array.getInternal_eq_getElem, List.getElem_toArray, List.getElem_cons_zero, List.getElem_cons_succ, List.setIfInBounds_toArray, List.set_cons_zero, List.set_cons_succ]
  refine wpAnyH_take (i := 12) (v := ?_) rfl (by kernel_rfl) (by kernel_rfl) (by kernel_rfl) (fun _ _ _ h => h) (Or.inl ⟨by kernel_rfl, ?_⟩) (by assumption) ?_
  rotate_left
  · (intro w hSw; (try dsimp only at hSw); go_simp) <;> (try (with_reducible rfl))
  try simp only [Act.put, Array.getInternal_eq_getElem, List.getElem_toArray, List.getElem_cons_zero, List.getElem_cons_succ, List.setIfInBounds_toArray, List.set_cons_zero, List.set_cons_succ]
  refine' wpAnyH_take (i := 13) (v := _) rfl (by kernel_rfl) (by kernel_rfl) (by kernel_rfl) (fun _ _ _ h => h) (yieldsIf_load_mid (by kernel_rfl) _ _ rfl _ _ rfl _ _ (fun w hSw => hSw.1) Tryz.underlying24 rfl HSX.out) (by assumption) ?_
  try simp only [Act.put, Array.getInternal_eq_getElem, List.getElem_toArray, List.getElem_cons_zero, List.getElem_cons_succ, List.setIfInBounds_toArray, List.set_cons_zero, List.set_cons_succ]
  refine wpAnyH_ready (rs := [14]) (by kernel_rfl) (by simp) ?_
  refine AllReadyH.cons rfl (fun K hK => ?_) AllReadyH.nil
  (rw [if_pos (by kernel_rfl)]; go_simp; go_at_call 46; refine (HWD _).out.mono ?_; rintro e wd ⟨rfl, kd⟩; have BZ := Lib.hid (Blk.keeps BY.out (kd (fun _ => False)) (fun z => z)); have KD : Hid (∀ S, Keeps S w wd) := Lib.hid (fun S => (KC.out S).trans (kd S)); clear kd)
  refine hK.out _ _ (HKS wd BZ.out) (fun hHeld => ?_)
  clear hK K
  try simp only [Act.put, Array.getInternal_eq_getElem, List.getElem_toArray, List.getElem_cons_zero, List.getElem_cons_succ, List.setIfInBounds_toArray, List.set_cons_zero, List.set_cons_succ]
  refine wpAnyH_take (i := 15) (v := ?_) rfl (by kernel_rfl) (by kernel_rfl) (by kernel_rfl) (fun _ _ _ h => h) (Or.inl ⟨by kernel_rfl, ?_⟩) (by assumption) ?_
  rotate_left
  · (intro w hSw; (try dsimp only at hSw); go_simp) <;> (try (with_reducible rfl))
  try simp only [Act.put, Array.getInternal_eq_getElem, List.getElem_toArray, List.getElem_cons_zero, List.getElem_cons_succ, List.setIfInBounds_toArray, List.set_cons_zero, List.set_cons_succ]
  refine wpAnyH_take (i := 16) (v := ?_) rfl (by kernel_rfl) (by kernel_rfl) (by kernel_rfl) (fun _ _ _ h => h) (Or.inl ⟨by kernel_rfl, ?_⟩) (by assumption) ?_
  rotate_left
  · (intro w hSw; (try dsimp only at hSw); go_simp) <;> (try (with_reducible rfl))
  try simp only [Act.put, Array.getInternal_eq_getElem, List.getElem_toArray, List.getElem_cons_zero, List.getElem_cons_succ, List.setIfInBounds_toArray, List.set_cons_zero, List.set_cons_succ]
  refine wpAnyH_done ?_ ?_ _
  · kernel_rfl
  go_wp2
  try rw [Exit.noGoto_ret]
  go_ret
  exact ⟨rfl, KD.out⟩
set_option maxRecDepth 100000 in
set_option maxHeartbeats 4000000 in
theorem check_in (p : Px) (hp : p.a.Wf) (ho : okA p.a) (hb : ¬ p.bits < 0) (hc : ¬ (wid p.a : Int) < p.bits) : Calls Tryz.prog 22 #[pv p] w fun e w' => e = .returned (.int .i64 (errP p)) ∧ ∀ S, Keeps S w w' := by
  have HCA := fun w => Lib.hid (checkaddr_ p.a w hp)
  have HWD := fun w => Lib.hid (width_ p.a w)
  rw [errA_ok ho] at HCA

  have HSX := Lib.hid (show (Tryz.prog.info? 24).map (·.size) = some (adc p.a).length from by rw [adc_len hp]; exact addr_info)
  obtain ⟨w1, hw1, k1, b1⟩ := enter_blk w (pxc p).toArray 28
  have HKS : ∀ w', Blk w' w.heap.size 28 (pxc p) → w'.rangeAt w.heap.size 0 (adc p.a) ∧ w'.cell? ⟨w.heap.size, 17, none⟩ = some (.int .i64 p.bits) := fun w' h => ⟨px_addr hp h, px_bits hp h⟩
  have HS1 := Lib.hid (HKS w1.drew b1)
  have HW := Lib.hid hw1
  have K1 : Hid (∀ S, Keeps S w w1) := Lib.hid k1
  have BX : Hid (Blk w1 w.heap.size 28 (pxc p)) := Lib.hid b1
  have HBT := fun (i : Nat) (hi : i < 128) w => Lib.hid (bit_ p.a w i hp hi)
  obtain ⟨p', hp'⟩ : ∃ p', p' = p := ⟨_, rfl⟩
  obtain ⟨E, hE⟩ : ∃ E, E = errP p := ⟨_, rfl⟩
  rw [← hE]
  have HE : Hid (E = errP p') := Lib.hid (by rw [hE, hp'])
  obtain ⟨m, hm⟩ : ∃ m : Nat, p.bits = (m : Int) := ⟨p.bits.toNat, by omega⟩
  have HMM : Hid (okA p'.a ∧ p'.bits = (m : Int) ∧ m ≤ wid p'.a ∧ wid p'.a ≤ 128 ∧ wid p'.a = wid p.a ∧ ∀ i, bit p'.a i = bit p.a i) := Lib.hid (by rw [hp']; exact ⟨ho, hm, by omega, (wid_le _).1, rfl, fun _ => rfl⟩)
  rw [hm] at hb hc HKS HS1
  unfold av at HCA HBT
  unfold av at HWD
  unfold pv
  clear hw1 k1 b1 hp ho hp' hm hE
  generalize bit p.a = BT at *
  generalize wid p.a = W at *
  generalize adc p.a = C at *
  have hbd : decide ((m : Int) < 0) = false := decide_eq_false hb
  have hcd : decide (W < m) = false := decide_eq_false (by omega)
  have hcn : ¬ W < m := by omega
  skip
  generalize pxc p = D at *
  go_enter Tryz.func22, Tryz.ntmps22
  go_wp2_with fail
  rw [← HW.out]
  refine wp_region_held_drew (S := fun w' => w'.rangeAt w.heap.size 0 C ∧ w'.cell? ⟨w.heap.size, 17, none⟩ = some (.int .i64 (m : Int))) (by kernel_rfl) HS1.out (fun hHeld => ?_)
  refine wpAnyH_take (i := 0) (v := ?_) rfl (by kernel_rfl) (by kernel_rfl) (by kernel_rfl) (fun _ _ _ h => h) (Or.inl ⟨by kernel_rfl, ?_⟩) (by assumption) ?_
  rotate_left
  · (intro w hSw; (try dsimp only at hSw); go_simp) <;> (try (with_reducible rfl))
  try simp only [Act.put, Array.getInternal_eq_getElem, List.getElem_toArray, List.getElem_cons_zero, List.getElem_cons_succ, List.setIfInBounds_toArray, List.set_cons_zero, List.set_cons_succ]
  refine' wpAnyH_take (i := 1) (v := _) rfl (by kernel_rfl) (by kernel_rfl) (by kernel_rfl) (fun _ _ _ h => h) (yieldsIf_load_mid (by kernel_rfl) _ _ rfl _ _ rfl _ _ (fun w hSw => hSw.1) Tryz.underlying24 rfl HSX.out) (by assumption) ?_
  try simp only [Act.put, Array.getInternal_eq_getElem, List.getElem_toArray, List.getElem_cons_zero, List.getElem_cons_succ, List.setIfInBounds_toArray, List.set_cons_zero, List.set_cons_succ]
  refine wpAnyH_ready (rs := [2]) (by kernel_rfl) (by simp) ?_
  refine AllReadyH.cons rfl (fun K hK => ?_) AllReadyH.nil
  (rw [if_pos (by kernel_rfl)]; go_simp; go_at_call 20; refine (HCA _).out.mono ?_; rintro e wc ⟨rfl, kc⟩; have BY := Lib.hid (Blk.keeps BX.out ((Keeps.refl (fun _ => False) w1).drew.trans (kc _)) (fun z => z)); have KC : Hid (∀ S, Keeps S w wc) := Lib.hid (fun S => ((K1.out S).drew).trans (kc S)); clear kc)
  refine hK.out _ _ (HKS wc BY.out) (fun hHeld => ?_)
  clear hK K
  try simp only [Act.put, Array.getInternal_eq_getElem, List.getElem_toArray, List.getElem_cons_zero, List.getElem_cons_succ, List.setIfInBounds_toArray, List.set_cons_zero, List.set_cons_succ]
  refine wpAnyH_take (i := 3) (v := ?_) rfl (by kernel_rfl) (by kernel_rfl) (by kernel_rfl) (fun _ _ _ h => h) (Or.inl ⟨by kernel_rfl, ?_⟩) (by assumption) ?_
  rotate_left
  · (intro w hSw; (try dsimp only at hSw); go_simp) <;> (try (with_reducible rfl))
  try simp only [Act.put, Array.getInternal_eq_getElem, List.getElem_toArray, List.getElem_cons_zero, List.getElem_cons_succ, List.setIfInBounds_toArray, List.set_cons_zero, List.set_cons_succ]
  refine wpAnyH_take (i := 4) (v := ?_) rfl (by kernel_rfl) (by kernel_rfl) (by kernel_rfl) (fun _ _ _ h => h) (Or.inl ⟨by kernel_rfl, ?_⟩) (by assumption) ?_
  rotate_left
  · (intro w hSw; (try dsimp only at hSw); go_simp) <;> (try (with_reducible rfl))
  try simp only [Act.put, Array.getInternal_eq_getElem, List.getElem_toArray, List.getElem_cons_zero, List.getElem_cons_succ, List.setIfInBounds_toArray, List.set_cons_zero, List.set_cons_succ]
  refine wpAnyH_take (i := 5) (v := ?_) rfl (by kernel_rfl) (by kernel_rfl) (by kernel_rfl) (fun _ _ _ h => h) (Or.inl ⟨by kernel_rfl, ?_⟩) (by assumption) ?_
  rotate_left
  · (intro w hSw; (try dsimp only at hSw); go_simp) <;> (try (with_reducible rfl))
  try simp only [Act.put, Array.getInternal_eq_getElem, List.getElem_toArray, List.getElem_cons_zero, List.getElem_cons_succ, List.setIfInBounds_toArray, List.set_cons_zero, List.set_cons_succ]
  refine wpAnyH_take (i := 6) (v := ?_) rfl (by kernel_rfl) (by kernel_rfl) (by kernel_rfl) (fun _ _ _ h => h) (Or.inl ⟨by kernel_rfl, ?_⟩) (by assumption) ?_
  rotate_left
  · (intro w hSw; (try dsimp only at hSw); go_simp) <;> (try (with_reducible rfl))
  try simp only [Act.put, Array.getInternal_eq_getElem, List.getElem_toArray, List.getElem_cons_zero, List.getElem_cons_succ, List.setIfInBounds_toArray, List.set_cons_zero, List.set_cons_succ]
  refine wpAnyH_take (i := 7) (v := ?_) rfl (by kernel_rfl) (by kernel_rfl) (by kernel_rfl) (fun _ _ _ h => h) (Or.inl ⟨by kernel_rfl, ?_⟩) (by assumption) ?_
  rotate_left
  · (intro w hSw; (try dsimp only at hSw); go_simp) <;> (try (with_reducible rfl))
  try simp only [Act.put, Array.getInternal_eq_getElem, List.getElem_toArray, List.getElem_cons_zero, List.getElem_cons_succ, List.setIfInBounds_toArray, List.set_cons_zero, List.set_cons_succ]
  refine wpAnyH_take (i := 8) (v := ?_) rfl (by kernel_rfl) (by kernel_rfl) (by kernel_rfl) (fun _ _ _ h => h) (Or.inl ⟨by kernel_rfl, ?_⟩) (by assumption) ?_
  rotate_left
  · (intro w hSw; (try dsimp only at hSw); go_simp) <;> (try (with_reducible rfl))
  try simp only [Act.put, Array.getInternal_eq_getElem, List.getElem_toArray, List.getElem_cons_zero, List.getElem_cons_succ, List.setIfInBounds_toArray, List.set_cons_zero, List.set_cons_succ]
  refine wpAnyH_take (i := 9) (v := ?_) rfl (by kernel_rfl) (by kernel_rfl) (by kernel_rfl) (fun _ _ _ h => h) (Or.inl ⟨by kernel_rfl, ?_⟩) (by assumption) ?_
  rotate_left
  · (intro w hSw; (try dsimp only at hSw); go_simp) <;> (try (with_reducible rfl))
  try simp only [Act.put, Array.getInternal_eq_getElem, List.getElem_toArray, List.getElem_cons_zero, List.getElem_cons_succ, List.setIfInBounds_toArray, List.set_cons_zero, List.set_cons_succ]
  refine wpAnyH_take (i := 10) (v := ?_) rfl (by kernel_rfl) (by kernel_rfl) (by kernel_rfl) (fun _ _ _ h => h) (Or.inl ⟨by kernel_rfl, ?_⟩) (by assumption) ?_
  rotate_left
  · (intro w hSw; (try dsimp only at hSw); go_simp) <;> (try (with_reducible rfl))
  try simp only [Act.put, Array.getInternal_eq_getElem, List.getElem_toArray, List.getElem_cons_zero, List.getElem_cons_succ, List.setIfInBounds_toArray, List.set_cons_zero, List.set_cons_succ]
  refine wpAnyH_take (i := 11) (v := ?_) rfl (by kernel_rfl) (by kernel_rfl) (by kernel_rfl) (fun _ _ _ h => h) (Or.inl ⟨by kernel_rfl, ?_⟩) (by assumption) ?_
  rotate_left
  · (intro w hSw; (try dsimp only at hSw); go_simp) <;> (try (with_reducible rfl))
  try simp only [Act.put, Array.getInternal_eq_getElem, List.getElem_toArray, List.getElem_cons_zero, List.getElem_cons_succ, List.setIfInBounds_toArray, List.set_cons_zero, List.set_cons_succ]
  refine wpAnyH_take (i := 12) (v := ?_) rfl (by kernel_rfl) (by kernel_rfl) (by kernel_rfl) (fun _ _ _ h => h) (Or.inl ⟨by kernel_rfl, ?_⟩) (by assumption) ?_
  rotate_left
  · (intro w hSw; (try dsimp only at hSw); go_simp) <;> (try (with_reducible rfl))
  try simp only [Act.put, Array.getInternal_eq_getElem, List.getElem_toArray, List.getElem_cons_zero, List.getElem_cons_succ, List.setIfInBounds_toArray, List.set_cons_zero, List.set_cons_succ]
  refine' wpAnyH_take (i := 13) (v := _) rfl (by kernel_rfl) (by kernel_rfl) (by kernel_rfl) (fun _ _ _ h => h) (yieldsIf_load_mid (by kernel_rfl) _ _ rfl _ _ rfl _ _ (fun w hSw => hSw.1) Tryz.underlying24 rfl HSX.out) (by assumption) ?_
  try simp only [Act.put, Array.getInternal_eq_getElem, List.getElem_toArray, List.getElem_cons_zero, List.getElem_cons_succ, List.setIfInBounds_toArray, List.set_cons_zero, List.set_cons_succ]
  refine wpAnyH_ready (rs := [14]) (by kernel_rfl) (by simp) ?_
  refine AllReadyH.cons rfl (fun K hK => ?_) AllReadyH.nil
  (rw [if_pos (by kernel_rfl)]; go_simp; go_at_call 46; refine (HWD _).out.mono ?_; rintro e wd ⟨rfl, kd⟩; have BZ := Lib.hid (Blk.keeps BY.out (kd (fun _ => False)) (fun z => z)); have KD : Hid (∀ S, Keeps S w wd) := Lib.hid (fun S => (KC.out S).trans (kd S)); clear kd)
  refine hK.out _ _ (HKS wd BZ.out) (fun hHeld => ?_)
  clear hK K
  try simp only [Act.put, Array.getInternal_eq_getElem, List.getElem_toArray, List.getElem_cons_zero, List.getElem_cons_succ, List.setIfInBounds_toArray, List.set_cons_zero, List.set_cons_succ]
  refine wpAnyH_take (i := 15) (v := ?_) rfl (by kernel_rfl) (by kernel_rfl) (by kernel_rfl) (fun _ _ _ h => h) (Or.inl ⟨by kernel_rfl, ?_⟩) (by assumption) ?_
  rotate_left
  · (intro w hSw; (try dsimp only at hSw); go_simp) <;> (try (with_reducible rfl))
  try simp only [Act.put, Array.getInternal_eq_getElem, List.getElem_toArray, List.getElem_cons_zero, List.getElem_cons_succ, List.setIfInBounds_toArray, List.set_cons_zero, List.set_cons_succ]
  refine wpAnyH_take (i := 16) (v := ?_) rfl (by kernel_rfl) (by kernel_rfl) (by kernel_rfl) (fun _ _ _ h => h) (Or.inl ⟨by kernel_rfl, ?_⟩) (by assumption) ?_
  rotate_left
  · (intro w hSw; (try dsimp only at hSw); go_simp) <;> (try (with_reducible rfl))
  try simp only [Act.put, Array.getInternal_eq_getElem, List.getElem_toArray, List.getElem_cons_zero, List.getElem_cons_succ, List.setIfInBounds_toArray, List.set_cons_zero, List.set_cons_succ]
  refine wpAnyH_done ?_ ?_ _
  · kernel_rfl
  clear hHeld
  have q0 : (0 : Int) ≤ (m : Int) := by omega
  have xd := (HKS wd BZ.out).2
  go_wp2_with fail
  clear xd
  go_loopw [3] (fun i wr => ∃ k : Nat, m ≤ k ∧ k ≤ W ∧ i = .int .i64 (k : Int) ∧ Blk wr w.heap.size 28 D ∧ (∀ S, Keeps S w wr) ∧ ∀ j, m ≤ j → j < k → BT j = false) (fun i _ => 200 - (intOf i).toNat)
  case atStart => exact ⟨m, Nat.le_refl _, by omega, rfl, BZ.out, KD.out, fun j h1 h2 => by omega⟩
  case round =>
    obtain ⟨k, h1, h2, rfl, hbl, hkr, hz⟩ := hrel
    have k0 : (0 : Int) ≤ (k : Int) := by omega
    have k1 : (k : Int) ≤ 128 := by have := HMM.out; omega
    have HLR := Lib.hid (HKS wr hbl).1
    have HBL := Lib.hid hbl
    have HKR : Hid (∀ S, Keeps S w wr) := Lib.hid hkr
    have HZ := Lib.hid hz
    clear hbl hkr hz
    by_cases hlt : k < W
    · have hlt' : (k : Int) < (W : Int) := by omega
      go_wp2_with (refine wpList_load_mid rfl 24 _ rfl w.heap.size 0 rfl C _ HLR.out Tryz.underlying24 rfl HSX.out ?_)
      refine (HWD _).out.mono ?_
      rintro e wa ⟨rfl, ka⟩
      have hba := Blk.keeps HBL.out (ka (fun _ => False)) (fun z => z)
      have HLA := Lib.hid (HKS wa hba).1
      have HBA := Lib.hid hba
      have HKA : Hid (∀ S, Keeps S w wa) := Lib.hid (fun S => (HKR.out S).trans (ka S))
      have HBK := HBT k (by have := HMM.out; omega)
      clear ka hba
      cases hbt : BT k with
      | true =>
        rw [hbt] at HBK
        have HER := Lib.hid (errP_no (p := p') (fun z => by have := z.2.2 k (by have := HMM.out; omega) (by have := HMM.out; omega); rw [HMM.out.2.2.2.2.2, hbt] at this; cases this))
        go_wp2_with (refine wpList_load_mid rfl 24 _ rfl w.heap.size 0 rfl C _ HLA.out Tryz.underlying24 rfl HSX.out ?_)
        refine (HBK _).out.mono ?_
        rintro e wb ⟨rfl, kb⟩
        have HKB : Hid (∀ S, Keeps S w wb) := Lib.hid (fun S => (HKA.out S).trans (kb S))
        clear kb
        go_wp2
        try rw [Exit.noGoto_ret]
        go_ret
        exact ⟨by rw [HE.out, HER.out]; rfl, HKB.out⟩
      | false =>
        rw [hbt] at HBK
        have HBF := Lib.hid hbt
        go_wp2_with (refine wpList_load_mid rfl 24 _ rfl w.heap.size 0 rfl C _ HLA.out Tryz.underlying24 rfl HSX.out ?_)
        refine (HBK _).out.mono ?_
        rintro e wb ⟨rfl, kb⟩
        have hbb := Blk.keeps HBA.out (kb (fun _ => False)) (fun z => z)
        have HBB := Lib.hid hbb
        have HKB : Hid (∀ S, Keeps S w wb) := Lib.hid (fun S => (HKA.out S).trans (kb S))
        clear kb hbb
        go_wp2_with fail
        go_roundw
        case rel => exact ⟨k + 1, by omega, by omega, by go_num, HBB.out, HKB.out, upto_one HZ.out HBF.out⟩
        case measure => simp [intOf]; have := HMM.out; omega
    · have hlt' : ¬ (k : Int) < (W : Int) := by omega
      have HER := Lib.hid (errP_ok (p := p') ⟨HMM.out.1, ⟨by have := HMM.out; omega, by have := HMM.out; omega⟩, fun i a1 a2 => by rw [HMM.out.2.2.2.2.2]; exact HZ.out i (by have := HMM.out; omega) (by have := HMM.out; omega)⟩)
      go_wp2_with (refine wpList_load_mid rfl 24 _ rfl w.heap.size 0 rfl C _ HLR.out Tryz.underlying24 rfl HSX.out ?_)
      refine (HWD _).out.mono ?_
      rintro e wa ⟨rfl, ka⟩
      have HKA : Hid (∀ S, Keeps S w wa) := Lib.hid (fun S => (HKR.out S).trans (ka S))
      clear ka
      go_wp2
      try rw [Exit.noGoto_ret]
      go_ret
      exact ⟨by rw [HE.out, HER.out]; rfl, HKA.out⟩
theorem check_ (p : Px) (hp : p.a.Wf) : Calls Tryz.prog 22 #[pv p] w fun e w' => e = .returned (.int .i64 (errP p)) ∧ ∀ S, Keeps S w w' := by
  by_cases ho : okA p.a
  · by_cases hb : p.bits < 0
    · exact check_neg w p hp ho hb
    · by_cases hc : (wid p.a : Int) < p.bits
      · exact check_over w p hp ho hb hc
      · exact check_in w p hp ho hb hc
  · exact check_addr w p hp ho
end
end Go.Proofs.YtgcdhfpbmcfedaaGreatDoor.pf
end
section
set_option linter.unusedVariables false
set_option linter.unusedSimpArgs false
namespace Go.Proofs.YtgcdhfpbmcfedaaGreatDoor.pf
open Go.RowKit Go.Proofs.YtgcdhfpbmcfedaaGreatDoor.oc Go.Proofs.YtgcdhfpbmcfedaaGreatDoor.mz Go.Proofs.YtgcdhfpbmcfedaaGreatDoor.wh
/-- a load of a whole aggregate that is asked for under a guard -/
theorem wpList_load_want {P : Program} {ops : Array Oper} {Q : Exit → Act → World → Prop} {a : Act} {w : World} {rest : List Oper} {o : Oper} (hw : Region.wanted o (yielded ops a.tmps) = true) (ty : TypeId) (x : Operand) (ho : o.op = .load ty x)
    (b off : Nat) (hx : a.eval x = .pointer (some ⟨b, off, none⟩)) (cs : List Value) (d : TypeDesc) (hc : w.rangeAt b off cs)
    (hu : P.underlying ty = some d) (hd : d.isRow = true) (hi : (P.info? ty).map (·.size) = some cs.length)
    (h : wpList P ops Q rest (a.put o.dst (.agg cs.toArray)) w) : wpList P ops Q (o :: rest) a w :=
  BigFrame.wpList_want hw fun K hK => wp_load_mid ty x ho b off hx cs d hc hu hd hi (hK _ _ h)
open Classical in
noncomputable def hasB (p : Px) (a : Ad) : Bool := decide (has p a)
theorem hasB_yes {p : Px} {a : Ad} (h : has p a) : hasB p a = true := by unfold hasB; simp [h]
theorem hasB_no {p : Px} {a : Ad} (h : ¬ has p a) : hasB p a = false := by unfold hasB; simp [h]
/-- a prefix, boxed, and an address, boxed -/
theorem box_two (w : World) (C D : List Value) (S T : TypeId) : ∃ w1, w1 = (w.alloc (.cells C.toArray S)).alloc (.cells D.toArray T) ∧ (∀ K, Keeps K w w1) ∧ Blk w1 w.heap.size S C ∧ Blk w1 (w.heap.size + 1) T D := by
  have b2 := Blk.new (w.alloc (.cells C.toArray S)) T D.toArray
  rw [World.size_alloc] at b2
  exact ⟨_, rfl, fun K => ((Keeps.refl K w).alloc _).alloc _, (Blk.new w S C.toArray).alloc _, b2⟩
theorem upto {k : Nat} {f : Nat → Prop} (h : ∀ j, j < k → f j) (hk : f k) : ∀ j, j < k + 1 → f j := fun j h2 => by
  rcases Nat.lt_or_ge j k with z | z
  · exact h j z
  · obtain rfl : j = k := by omega
    exact hk
section
variable (w : World)

set_option maxRecDepth 100000 in
set_option maxHeartbeats 4000000 in
theorem has_p (p : Px) (a : Ad) (hp : p.a.Wf) (ha : a.Wf) (ho : ¬ okP p) : Calls Tryz.prog 24 #[pv p, av a] w fun e w' => e = .returned (.bool (hasB p a)) ∧ ∀ S, Keeps S w w' := by
  have HCP := fun w => Lib.hid (check_ w p hp)
  have HCA := fun w => Lib.hid (checkaddr_ a w ha)
  have HSP := Lib.hid (show (Tryz.prog.info? 28).map (·.size) = some (pxc p).length from by rw [pxc_len hp]; exact prefix_info)
  have HSA := Lib.hid (show (Tryz.prog.info? 24).map (·.size) = some (adc a).length from by rw [adc_len ha]; exact addr_info)
  obtain ⟨w1, hw1, k1, bP, bQ⟩ := box_two w (pxc p) (adc a) 28 24
  have HL1 := Lib.hid (And.intro (wh.Blk.range bP) (wh.Blk.range bQ))
  have HW := Lib.hid hw1
  have K1 : Hid (∀ S, Keeps S w w1) := Lib.hid k1
  have BP := Lib.hid bP
  have BQ := Lib.hid bQ
  unfold pv at HCP
  unfold av at HCA
  unfold pv av
  clear hw1 k1 bP bQ
  have HH := Lib.hid (hasB_no (p := p) (a := a) (fun z => ho z.1))
  rw [errP_no ho] at HCP
  clear ho hp ha
  go_enter Tryz.func24, Tryz.ntmps24
  go_wp2_with (first | (rw [← HW.out]; refine wpList_load_mid rfl 28 _ rfl w.heap.size 0 rfl (pxc p) _ HL1.out.1 Tryz.underlying28 rfl HSP.out ?_))
  refine (HCP _).out.mono ?_
  rintro e w2 ⟨rfl, k2⟩
  have K2 : Hid (∀ S, Keeps S w w2) := Lib.hid (fun S => (K1.out S).trans (k2 S))
  have BP2 := Lib.hid (Blk.keeps BP.out (k2 (fun _ => False)) (fun z => z))
  have BQ2 := Lib.hid (Blk.keeps BQ.out (k2 (fun _ => False)) (fun z => z))
  have HL2 := Lib.hid (wh.Blk.range BQ2.out)
  clear k2
  go_wp2
  try rw [Exit.noGoto_ret]
  go_ret
  exact ⟨by rw [HH.out]; rfl, K2.out⟩
set_option maxRecDepth 100000 in
set_option maxHeartbeats 4000000 in
theorem has_a (p : Px) (a : Ad) (hp : p.a.Wf) (ha : a.Wf) (ho : okP p) (hoa : ¬ okA a) : Calls Tryz.prog 24 #[pv p, av a] w fun e w' => e = .returned (.bool (hasB p a)) ∧ ∀ S, Keeps S w w' := by
  have HCP := fun w => Lib.hid (check_ w p hp)
  have HCA := fun w => Lib.hid (checkaddr_ a w ha)
  have HSP := Lib.hid (show (Tryz.prog.info? 28).map (·.size) = some (pxc p).length from by rw [pxc_len hp]; exact prefix_info)
  have HSA := Lib.hid (show (Tryz.prog.info? 24).map (·.size) = some (adc a).length from by rw [adc_len ha]; exact addr_info)
  obtain ⟨w1, hw1, k1, bP, bQ⟩ := box_two w (pxc p) (adc a) 28 24
  have HL1 := Lib.hid (And.intro (wh.Blk.range bP) (wh.Blk.range bQ))
  have HW := Lib.hid hw1
  have K1 : Hid (∀ S, Keeps S w w1) := Lib.hid k1
  have BP := Lib.hid bP
  have BQ := Lib.hid bQ
  unfold pv at HCP
  unfold av at HCA
  unfold pv av
  clear hw1 k1 bP bQ
  have HH := Lib.hid (hasB_no (p := p) (a := a) (fun z => hoa z.2.1))
  rw [errP_ok ho] at HCP
  rw [errA_no hoa] at HCA
  clear ho hp ha hoa
  go_enter Tryz.func24, Tryz.ntmps24
  go_wp2_with (first | (rw [← HW.out]; refine wpList_load_mid rfl 28 _ rfl w.heap.size 0 rfl (pxc p) _ HL1.out.1 Tryz.underlying28 rfl HSP.out ?_))
  refine (HCP _).out.mono ?_
  rintro e w2 ⟨rfl, k2⟩
  have K2 : Hid (∀ S, Keeps S w w2) := Lib.hid (fun S => (K1.out S).trans (k2 S))
  have BP2 := Lib.hid (Blk.keeps BP.out (k2 (fun _ => False)) (fun z => z))
  have BQ2 := Lib.hid (Blk.keeps BQ.out (k2 (fun _ => False)) (fun z => z))
  have HL2 := Lib.hid (wh.Blk.range BQ2.out)
  clear k2
  go_wp2_with (refine wpList_load_want (by kernel_rfl) 24 _ rfl (w.heap.size + 1) 0 rfl (adc a) _ HL2.out Tryz.underlying24 rfl HSA.out ?_)
  refine (HCA _).out.mono ?_
  rintro e w3 ⟨rfl, k3⟩
  have K3 : Hid (∀ S, Keeps S w w3) := Lib.hid (fun S => (K2.out S).trans (k3 S))
  have BP3 := Lib.hid (Blk.keeps BP2.out (k3 (fun _ => False)) (fun z => z))
  have BQ3 := Lib.hid (Blk.keeps BQ2.out (k3 (fun _ => False)) (fun z => z))
  have xp := px_v6 BP3.out
  have xa := ad_v6 BQ3.out
  clear k3
  go_wp2
  try rw [Exit.noGoto_ret]
  go_ret
  exact ⟨by rw [HH.out]; rfl, K3.out⟩
set_option maxRecDepth 100000 in
set_option maxHeartbeats 4000000 in
theorem has_kind (p : Px) (a : Ad) (hp : p.a.Wf) (ha : a.Wf) (ho : okP p) (hoa : okA a) (hv : ¬ a.v6 = p.a.v6) : Calls Tryz.prog 24 #[pv p, av a] w fun e w' => e = .returned (.bool (hasB p a)) ∧ ∀ S, Keeps S w w' := by
  have HCP := fun w => Lib.hid (check_ w p hp)
  have HCA := fun w => Lib.hid (checkaddr_ a w ha)
  have HSP := Lib.hid (show (Tryz.prog.info? 28).map (·.size) = some (pxc p).length from by rw [pxc_len hp]; exact prefix_info)
  have HSA := Lib.hid (show (Tryz.prog.info? 24).map (·.size) = some (adc a).length from by rw [adc_len ha]; exact addr_info)
  obtain ⟨w1, hw1, k1, bP, bQ⟩ := box_two w (pxc p) (adc a) 28 24
  have HL1 := Lib.hid (And.intro (wh.Blk.range bP) (wh.Blk.range bQ))
  have HW := Lib.hid hw1
  have K1 : Hid (∀ S, Keeps S w w1) := Lib.hid k1
  have BP := Lib.hid bP
  have BQ := Lib.hid bQ
  unfold pv at HCP
  unfold av at HCA
  unfold pv av
  clear hw1 k1 bP bQ
  have HH := Lib.hid (hasB_no (p := p) (a := a) (fun z => hv z.2.2.1))
  rw [errP_ok ho] at HCP
  rw [errA_ok hoa] at HCA
  clear ho hp ha hoa
  go_enter Tryz.func24, Tryz.ntmps24
  go_wp2_with (first | (rw [← HW.out]; refine wpList_load_mid rfl 28 _ rfl w.heap.size 0 rfl (pxc p) _ HL1.out.1 Tryz.underlying28 rfl HSP.out ?_))
  refine (HCP _).out.mono ?_
  rintro e w2 ⟨rfl, k2⟩
  have K2 : Hid (∀ S, Keeps S w w2) := Lib.hid (fun S => (K1.out S).trans (k2 S))
  have BP2 := Lib.hid (Blk.keeps BP.out (k2 (fun _ => False)) (fun z => z))
  have BQ2 := Lib.hid (Blk.keeps BQ.out (k2 (fun _ => False)) (fun z => z))
  have HL2 := Lib.hid (wh.Blk.range BQ2.out)
  clear k2
  go_wp2_with (refine wpList_load_want (by kernel_rfl) 24 _ rfl (w.heap.size + 1) 0 rfl (adc a) _ HL2.out Tryz.underlying24 rfl HSA.out ?_)
  refine (HCA _).out.mono ?_
  rintro e w3 ⟨rfl, k3⟩
  have K3 : Hid (∀ S, Keeps S w w3) := Lib.hid (fun S => (K2.out S).trans (k3 S))
  have BP3 := Lib.hid (Blk.keeps BP2.out (k3 (fun _ => False)) (fun z => z))
  have BQ3 := Lib.hid (Blk.keeps BQ2.out (k3 (fun _ => False)) (fun z => z))
  have xp := px_v6 BP3.out
  have xa := ad_v6 BQ3.out
  clear k3
  cases hva : a.v6 <;> cases hvp : p.a.v6
  · exact absurd (hva.trans hvp.symm) hv
  · rw [hva] at xa
    rw [hvp] at xp
    clear hv hva hvp
    go_wp2
    try rw [Exit.noGoto_ret]
    go_ret
    exact ⟨by rw [HH.out]; rfl, K3.out⟩
  · rw [hva] at xa
    rw [hvp] at xp
    clear hv hva hvp
    go_wp2
    try rw [Exit.noGoto_ret]
    go_ret
    exact ⟨by rw [HH.out]; rfl, K3.out⟩
  · exact absurd (hva.trans hvp.symm) hv
set_option maxRecDepth 100000 in
set_option maxHeartbeats 4000000 in
theorem has_loop (p : Px) (a : Ad) (hp : p.a.Wf) (ha : a.Wf) (ho : okP p) (hoa : okA a) (hv : a.v6 = p.a.v6) : Calls Tryz.prog 24 #[pv p, av a] w fun e w' => e = .returned (.bool (hasB p a)) ∧ ∀ S, Keeps S w w' := by
  have HCP := fun w => Lib.hid (check_ w p hp)
  have HCA := fun w => Lib.hid (checkaddr_ a w ha)
  have HSP := Lib.hid (show (Tryz.prog.info? 28).map (·.size) = some (pxc p).length from by rw [pxc_len hp]; exact prefix_info)
  have HSA := Lib.hid (show (Tryz.prog.info? 24).map (·.size) = some (adc a).length from by rw [adc_len ha]; exact addr_info)
  obtain ⟨w1, hw1, k1, bP, bQ⟩ := box_two w (pxc p) (adc a) 28 24
  have HL1 := Lib.hid (And.intro (wh.Blk.range bP) (wh.Blk.range bQ))
  have HW := Lib.hid hw1
  have K1 : Hid (∀ S, Keeps S w w1) := Lib.hid k1
  have BP := Lib.hid bP
  have BQ := Lib.hid bQ
  unfold pv at HCP
  unfold av at HCA
  unfold pv av
  clear hw1 k1 bP bQ
  rw [errP_ok ho] at HCP
  rw [errA_ok hoa] at HCA
  obtain ⟨m, hm⟩ : ∃ m : Nat, p.bits = (m : Int) := ⟨p.bits.toNat, by have := ho.2.1.1; omega⟩
  have HM := Lib.hid (show p.bits = (m : Int) ∧ m ≤ 128 from ⟨hm, by have := ho.2.1.2; have := (wid_le p.a).1; omega⟩)
  have HO := Lib.hid (show okP p ∧ okA a ∧ a.v6 = p.a.v6 from ⟨ho, hoa, hv⟩)
  have HWF := Lib.hid (And.intro hp ha)
  have HSC := Lib.hid (show (Tryz.prog.info? 24).map (·.size) = some (adc p.a).length from by rw [adc_len hp]; exact addr_info)
  clear ho hp ha hoa hv hm
  go_enter Tryz.func24, Tryz.ntmps24
  go_wp2_with (first | (rw [← HW.out]; refine wpList_load_mid rfl 28 _ rfl w.heap.size 0 rfl (pxc p) _ HL1.out.1 Tryz.underlying28 rfl HSP.out ?_))
  refine (HCP _).out.mono ?_
  rintro e w2 ⟨rfl, k2⟩
  have K2 : Hid (∀ S, Keeps S w w2) := Lib.hid (fun S => (K1.out S).trans (k2 S))
  have BP2 := Lib.hid (Blk.keeps BP.out (k2 (fun _ => False)) (fun z => z))
  have BQ2 := Lib.hid (Blk.keeps BQ.out (k2 (fun _ => False)) (fun z => z))
  have HL2 := Lib.hid (wh.Blk.range BQ2.out)
  clear k2
  go_wp2_with (refine wpList_load_want (by kernel_rfl) 24 _ rfl (w.heap.size + 1) 0 rfl (adc a) _ HL2.out Tryz.underlying24 rfl HSA.out ?_)
  refine (HCA _).out.mono ?_
  rintro e w3 ⟨rfl, k3⟩
  have K3 : Hid (∀ S, Keeps S w w3) := Lib.hid (fun S => (K2.out S).trans (k3 S))
  have BP3 := Lib.hid (Blk.keeps BP2.out (k3 (fun _ => False)) (fun z => z))
  have BQ3 := Lib.hid (Blk.keeps BQ2.out (k3 (fun _ => False)) (fun z => z))
  have xp := px_v6 BP3.out
  have xa := ad_v6 BQ3.out
  clear k3
  have hvv := HO.out.2.2
  rw [hvv] at xa
  generalize p.a.v6 = v at xp xa
  have hbx : ((if v = v then false else true) : Bool) = false := by simp
  cases v
  all_goals
    clear hvv hbx
    go_wp2_with fail
    generalize hQ : w.heap.size + 1 = Q at *
    generalize hP : w.heap.size = P at *
    have HKS : ∀ w', Blk w' P 28 (pxc p) → Blk w' Q 24 (adc a) → w'.rangeAt Q 0 (adc a) ∧ w'.rangeAt P 0 (adc p.a) := fun w' h1 h2 => ⟨wh.Blk.range h2, px_addr HWF.out.1 h1⟩
    clear HCP HCA HL1 HL2 K1 K2 xp xa BP BQ BP2 BQ2 HW hQ hP
    go_loopw [5] (fun i wr => ∃ k : Nat, k ≤ m ∧ i = .int .i64 (k : Int) ∧ Blk wr P 28 (pxc p) ∧ Blk wr Q 24 (adc a) ∧ (∀ S, Keeps S w wr) ∧ ∀ j, j < k → bit a j = bit p.a j) (fun i _ => 200 - (intOf i).toNat)
    case atStart => exact ⟨0, Nat.zero_le _, rfl, BP3.out, BQ3.out, K3.out, fun j h => by omega⟩
    case round =>
      obtain ⟨k, h1, rfl, bp, bq, kr, hz⟩ := hrel
      have k0 : (0 : Int) ≤ (k : Int) := by omega
      have k1 : (k : Int) ≤ 128 := by have := HM.out; omega
      have xb := px_bits HWF.out.1 bp
      rw [HM.out.1] at xb
      have BPr := Lib.hid bp
      have BQr := Lib.hid bq
      have KR : Hid (∀ S, Keeps S w wr) := Lib.hid kr
      have HZ := Lib.hid hz
      clear bp bq kr hz
      by_cases hlt : k < m
      · have hlt' : (k : Int) < (m : Int) := by omega
        have HBA := fun w => Lib.hid (bit_ a w k HWF.out.2 (by have := HM.out; omega))
        have HBP := fun w => Lib.hid (bit_ p.a w k HWF.out.1 (by have := HM.out; omega))
        unfold av at HBA HBP
        go_wp2_with fail
        clear xb
        cases hx : bit a k <;> cases hy : bit p.a k
        · have HX := Lib.hid hx
          have HY := Lib.hid hy
          rw [hx] at HBA
          rw [hy] at HBP

          clear hx hy
          refine wp_region_held_drew (S := fun w' => w'.rangeAt Q 0 (adc a) ∧ w'.rangeAt P 0 (adc p.a)) (by kernel_rfl) (HKS wr.drew BPr.out BQr.out) (fun hHeld => ?_)
          refine' wpAnyH_take (i := 0) (v := _) rfl (by kernel_rfl) (by kernel_rfl) (by kernel_rfl) (fun _ _ _ h => h) (yieldsIf_load_mid (by kernel_rfl) _ _ rfl _ _ rfl _ _ (fun w hSw => hSw.1) Tryz.underlying24 rfl HSA.out) (by assumption) ?_
          try simp only [Act.put, Array.getInternal_eq_getElem, List.getElem_toArray, List.getElem_cons_zero, List.getElem_cons_succ, List.setIfInBounds_toArray, List.set_cons_zero, List.set_cons_succ]
          refine wpAnyH_take (i := 1) (v := ?_) rfl (by kernel_rfl) (by kernel_rfl) (by kernel_rfl) (fun _ _ _ h => h) (Or.inl ⟨by kernel_rfl, ?_⟩) (by assumption) ?_
          rotate_left
          · (intro w hSw; (try dsimp only at hSw); go_simp) <;> (try (with_reducible rfl))
          try simp only [Act.put, Array.getInternal_eq_getElem, List.getElem_toArray, List.getElem_cons_zero, List.getElem_cons_succ, List.setIfInBounds_toArray, List.set_cons_zero, List.set_cons_succ]
          refine wpAnyH_take (i := 3) (v := ?_) rfl (by kernel_rfl) (by kernel_rfl) (by kernel_rfl) (fun _ _ _ h => h) (Or.inl ⟨by kernel_rfl, ?_⟩) (by assumption) ?_
          rotate_left
          · (intro w hSw; (try dsimp only at hSw); go_simp) <;> (try (with_reducible rfl))
          try simp only [Act.put, Array.getInternal_eq_getElem, List.getElem_toArray, List.getElem_cons_zero, List.getElem_cons_succ, List.setIfInBounds_toArray, List.set_cons_zero, List.set_cons_succ]
          refine' wpAnyH_take (i := 4) (v := _) rfl (by kernel_rfl) (by kernel_rfl) (by kernel_rfl) (fun _ _ _ h => h) (yieldsIf_load_mid (by kernel_rfl) _ _ rfl _ _ rfl _ _ (fun w hSw => hSw.2) Tryz.underlying24 rfl HSC.out) (by assumption) ?_
          try simp only [Act.put, Array.getInternal_eq_getElem, List.getElem_toArray, List.getElem_cons_zero, List.getElem_cons_succ, List.setIfInBounds_toArray, List.set_cons_zero, List.set_cons_succ]
          refine wpAnyH_take (i := 5) (v := ?_) rfl (by kernel_rfl) (by kernel_rfl) (by kernel_rfl) (fun _ _ _ h => h) (Or.inl ⟨by kernel_rfl, ?_⟩) (by assumption) ?_
          rotate_left
          · (intro w hSw; (try dsimp only at hSw); go_simp) <;> (try (with_reducible rfl))
          try simp only [Act.put, Array.getInternal_eq_getElem, List.getElem_toArray, List.getElem_cons_zero, List.getElem_cons_succ, List.setIfInBounds_toArray, List.set_cons_zero, List.set_cons_succ]
          refine wpAnyH_ready (rs := [2]) (by kernel_rfl) (by simp) ?_
          refine AllReadyH.cons rfl (fun K hK => ?_) AllReadyH.nil
          (rw [if_pos (by kernel_rfl)]; go_simp; go_at_call 47; refine (HBA _).out.mono ?_; rintro e wc ⟨rfl, kc⟩; have BPc := Lib.hid (Blk.keeps BPr.out ((Keeps.refl (fun _ => False) wr).drew.trans (kc _)) (fun z => z)); have BQc := Lib.hid (Blk.keeps BQr.out ((Keeps.refl (fun _ => False) wr).drew.trans (kc _)) (fun z => z)); have KC : Hid (∀ S, Keeps S w wc) := Lib.hid (fun S => ((KR.out S).drew).trans (kc S)); clear kc)
          refine hK.out _ _ (HKS wc BPc.out BQc.out) (fun hHeld => ?_)
          clear hK K
          try simp only [Act.put, Array.getInternal_eq_getElem, List.getElem_toArray, List.getElem_cons_zero, List.getElem_cons_succ, List.setIfInBounds_toArray, List.set_cons_zero, List.set_cons_succ]
          refine wpAnyH_ready (rs := [6]) (by kernel_rfl) (by simp) ?_
          refine AllReadyH.cons rfl (fun K hK => ?_) AllReadyH.nil
          (rw [if_pos (by kernel_rfl)]; go_simp; go_at_call 47; refine (HBP _).out.mono ?_; rintro e wd ⟨rfl, kd⟩; have BPd := Lib.hid (Blk.keeps BPc.out (kd (fun _ => False)) (fun z => z)); have BQd := Lib.hid (Blk.keeps BQc.out (kd (fun _ => False)) (fun z => z)); have KDD : Hid (∀ S, Keeps S w wd) := Lib.hid (fun S => (KC.out S).trans (kd S)); clear kd)
          refine hK.out _ _ (HKS wd BPd.out BQd.out) (fun hHeld => ?_)
          clear hK K
          try simp only [Act.put, Array.getInternal_eq_getElem, List.getElem_toArray, List.getElem_cons_zero, List.getElem_cons_succ, List.setIfInBounds_toArray, List.set_cons_zero, List.set_cons_succ]
          refine wpAnyH_take (i := 7) (v := ?_) rfl (by kernel_rfl) (by kernel_rfl) (by kernel_rfl) (fun _ _ _ h => h) (Or.inl ⟨by kernel_rfl, ?_⟩) (by assumption) ?_
          rotate_left
          · (intro w hSw; (try dsimp only at hSw); go_simp) <;> (try (with_reducible rfl))
          try simp only [Act.put, Array.getInternal_eq_getElem, List.getElem_toArray, List.getElem_cons_zero, List.getElem_cons_succ, List.setIfInBounds_toArray, List.set_cons_zero, List.set_cons_succ]
          refine wpAnyH_done ?_ ?_ _
          · kernel_rfl
          clear hHeld
          go_wp2_with fail
          go_roundw
          case rel => exact ⟨k + 1, by omega, by go_num, BPd.out, BQd.out, KDD.out, upto HZ.out (HX.out.trans HY.out.symm)⟩
          case measure => simp [intOf]; omega
        · have HX := Lib.hid hx
          have HY := Lib.hid hy
          rw [hx] at HBA
          rw [hy] at HBP
          have HNO := Lib.hid (hasB_no (p := p) (a := a) (fun z => by have := z.2.2.2 k (by have := HM.out; omega); rw [hx, hy] at this; cases this))
          clear hx hy
          refine wp_region_held_drew (S := fun w' => w'.rangeAt Q 0 (adc a) ∧ w'.rangeAt P 0 (adc p.a)) (by kernel_rfl) (HKS wr.drew BPr.out BQr.out) (fun hHeld => ?_)
          refine' wpAnyH_take (i := 0) (v := _) rfl (by kernel_rfl) (by kernel_rfl) (by kernel_rfl) (fun _ _ _ h => h) (yieldsIf_load_mid (by kernel_rfl) _ _ rfl _ _ rfl _ _ (fun w hSw => hSw.1) Tryz.underlying24 rfl HSA.out) (by assumption) ?_
          try simp only [Act.put, Array.getInternal_eq_getElem, List.getElem_toArray, List.getElem_cons_zero, List.getElem_cons_succ, List.setIfInBounds_toArray, List.set_cons_zero, List.set_cons_succ]
          refine wpAnyH_take (i := 1) (v := ?_) rfl (by kernel_rfl) (by kernel_rfl) (by kernel_rfl) (fun _ _ _ h => h) (Or.inl ⟨by kernel_rfl, ?_⟩) (by assumption) ?_
          rotate_left
          · (intro w hSw; (try dsimp only at hSw); go_simp) <;> (try (with_reducible rfl))
          try simp only [Act.put, Array.getInternal_eq_getElem, List.getElem_toArray, List.getElem_cons_zero, List.getElem_cons_succ, List.setIfInBounds_toArray, List.set_cons_zero, List.set_cons_succ]
          refine wpAnyH_take (i := 3) (v := ?_) rfl (by kernel_rfl) (by kernel_rfl) (by kernel_rfl) (fun _ _ _ h => h) (Or.inl ⟨by kernel_rfl, ?_⟩) (by assumption) ?_
          rotate_left
          · (intro w hSw; (try dsimp only at hSw); go_simp) <;> (try (with_reducible rfl))
          try simp only [Act.put, Array.getInternal_eq_getElem, List.getElem_toArray, List.getElem_cons_zero, List.getElem_cons_succ, List.setIfInBounds_toArray, List.set_cons_zero, List.set_cons_succ]
          refine' wpAnyH_take (i := 4) (v := _) rfl (by kernel_rfl) (by kernel_rfl) (by kernel_rfl) (fun _ _ _ h => h) (yieldsIf_load_mid (by kernel_rfl) _ _ rfl _ _ rfl _ _ (fun w hSw => hSw.2) Tryz.underlying24 rfl HSC.out) (by assumption) ?_
          try simp only [Act.put, Array.getInternal_eq_getElem, List.getElem_toArray, List.getElem_cons_zero, List.getElem_cons_succ, List.setIfInBounds_toArray, List.set_cons_zero, List.set_cons_succ]
          refine wpAnyH_take (i := 5) (v := ?_) rfl (by kernel_rfl) (by kernel_rfl) (by kernel_rfl) (fun _ _ _ h => h) (Or.inl ⟨by kernel_rfl, ?_⟩) (by assumption) ?_
          rotate_left
          · (intro w hSw; (try dsimp only at hSw); go_simp) <;> (try (with_reducible rfl))
          try simp only [Act.put, Array.getInternal_eq_getElem, List.getElem_toArray, List.getElem_cons_zero, List.getElem_cons_succ, List.setIfInBounds_toArray, List.set_cons_zero, List.set_cons_succ]
          refine wpAnyH_ready (rs := [2]) (by kernel_rfl) (by simp) ?_
          refine AllReadyH.cons rfl (fun K hK => ?_) AllReadyH.nil
          (rw [if_pos (by kernel_rfl)]; go_simp; go_at_call 47; refine (HBA _).out.mono ?_; rintro e wc ⟨rfl, kc⟩; have BPc := Lib.hid (Blk.keeps BPr.out ((Keeps.refl (fun _ => False) wr).drew.trans (kc _)) (fun z => z)); have BQc := Lib.hid (Blk.keeps BQr.out ((Keeps.refl (fun _ => False) wr).drew.trans (kc _)) (fun z => z)); have KC : Hid (∀ S, Keeps S w wc) := Lib.hid (fun S => ((KR.out S).drew).trans (kc S)); clear kc)
          refine hK.out _ _ (HKS wc BPc.out BQc.out) (fun hHeld => ?_)
          clear hK K
          try simp only [Act.put, Array.getInternal_eq_getElem, List.getElem_toArray, List.getElem_cons_zero, List.getElem_cons_succ, List.setIfInBounds_toArray, List.set_cons_zero, List.set_cons_succ]
          refine wpAnyH_ready (rs := [6]) (by kernel_rfl) (by simp) ?_
          refine AllReadyH.cons rfl (fun K hK => ?_) AllReadyH.nil
          (rw [if_pos (by kernel_rfl)]; go_simp; go_at_call 47; refine (HBP _).out.mono ?_; rintro e wd ⟨rfl, kd⟩; have BPd := Lib.hid (Blk.keeps BPc.out (kd (fun _ => False)) (fun z => z)); have BQd := Lib.hid (Blk.keeps BQc.out (kd (fun _ => False)) (fun z => z)); have KDD : Hid (∀ S, Keeps S w wd) := Lib.hid (fun S => (KC.out S).trans (kd S)); clear kd)
          refine hK.out _ _ (HKS wd BPd.out BQd.out) (fun hHeld => ?_)
          clear hK K
          try simp only [Act.put, Array.getInternal_eq_getElem, List.getElem_toArray, List.getElem_cons_zero, List.getElem_cons_succ, List.setIfInBounds_toArray, List.set_cons_zero, List.set_cons_succ]
          refine wpAnyH_take (i := 7) (v := ?_) rfl (by kernel_rfl) (by kernel_rfl) (by kernel_rfl) (fun _ _ _ h => h) (Or.inl ⟨by kernel_rfl, ?_⟩) (by assumption) ?_
          rotate_left
          · (intro w hSw; (try dsimp only at hSw); go_simp) <;> (try (with_reducible rfl))
          try simp only [Act.put, Array.getInternal_eq_getElem, List.getElem_toArray, List.getElem_cons_zero, List.getElem_cons_succ, List.setIfInBounds_toArray, List.set_cons_zero, List.set_cons_succ]
          refine wpAnyH_done ?_ ?_ _
          · kernel_rfl
          clear hHeld
          go_wp2
          try rw [Exit.noGoto_ret]
          go_ret
          exact ⟨by rw [HNO.out]; rfl, KDD.out⟩
        · have HX := Lib.hid hx
          have HY := Lib.hid hy
          rw [hx] at HBA
          rw [hy] at HBP
          have HNO := Lib.hid (hasB_no (p := p) (a := a) (fun z => by have := z.2.2.2 k (by have := HM.out; omega); rw [hx, hy] at this; cases this))
          clear hx hy
          refine wp_region_held_drew (S := fun w' => w'.rangeAt Q 0 (adc a) ∧ w'.rangeAt P 0 (adc p.a)) (by kernel_rfl) (HKS wr.drew BPr.out BQr.out) (fun hHeld => ?_)
          refine' wpAnyH_take (i := 0) (v := _) rfl (by kernel_rfl) (by kernel_rfl) (by kernel_rfl) (fun _ _ _ h => h) (yieldsIf_load_mid (by kernel_rfl) _ _ rfl _ _ rfl _ _ (fun w hSw => hSw.1) Tryz.underlying24 rfl HSA.out) (by assumption) ?_
          try simp only [Act.put, Array.getInternal_eq_getElem, List.getElem_toArray, List.getElem_cons_zero, List.getElem_cons_succ, List.setIfInBounds_toArray, List.set_cons_zero, List.set_cons_succ]
          refine wpAnyH_take (i := 1) (v := ?_) rfl (by kernel_rfl) (by kernel_rfl) (by kernel_rfl) (fun _ _ _ h => h) (Or.inl ⟨by kernel_rfl, ?_⟩) (by assumption) ?_
          rotate_left
          · (intro w hSw; (try dsimp only at hSw); go_simp) <;> (try (with_reducible rfl))
          try simp only [Act.put, Array.getInternal_eq_getElem, List.getElem_toArray, List.getElem_cons_zero, List.getElem_cons_succ, List.setIfInBounds_toArray, List.set_cons_zero, List.set_cons_succ]
          refine wpAnyH_take (i := 3) (v := ?_) rfl (by kernel_rfl) (by kernel_rfl) (by kernel_rfl) (fun _ _ _ h => h) (Or.inl ⟨by kernel_rfl, ?_⟩) (by assumption) ?_
          rotate_left
          · (intro w hSw; (try dsimp only at hSw); go_simp) <;> (try (with_reducible rfl))
          try simp only [Act.put, Array.getInternal_eq_getElem, List.getElem_toArray, List.getElem_cons_zero, List.getElem_cons_succ, List.setIfInBounds_toArray, List.set_cons_zero, List.set_cons_succ]
          refine' wpAnyH_take (i := 4) (v := _) rfl (by kernel_rfl) (by kernel_rfl) (by kernel_rfl) (fun _ _ _ h => h) (yieldsIf_load_mid (by kernel_rfl) _ _ rfl _ _ rfl _ _ (fun w hSw => hSw.2) Tryz.underlying24 rfl HSC.out) (by assumption) ?_
          try simp only [Act.put, Array.getInternal_eq_getElem, List.getElem_toArray, List.getElem_cons_zero, List.getElem_cons_succ, List.setIfInBounds_toArray, List.set_cons_zero, List.set_cons_succ]
          refine wpAnyH_take (i := 5) (v := ?_) rfl (by kernel_rfl) (by kernel_rfl) (by kernel_rfl) (fun _ _ _ h => h) (Or.inl ⟨by kernel_rfl, ?_⟩) (by assumption) ?_
          rotate_left
          · (intro w hSw; (try dsimp only at hSw); go_simp) <;> (try (with_reducible rfl))
          try simp only [Act.put, Array.getInternal_eq_getElem, List.getElem_toArray, List.getElem_cons_zero, List.getElem_cons_succ, List.setIfInBounds_toArray, List.set_cons_zero, List.set_cons_succ]
          refine wpAnyH_ready (rs := [2]) (by kernel_rfl) (by simp) ?_
          refine AllReadyH.cons rfl (fun K hK => ?_) AllReadyH.nil
          (rw [if_pos (by kernel_rfl)]; go_simp; go_at_call 47; refine (HBA _).out.mono ?_; rintro e wc ⟨rfl, kc⟩; have BPc := Lib.hid (Blk.keeps BPr.out ((Keeps.refl (fun _ => False) wr).drew.trans (kc _)) (fun z => z)); have BQc := Lib.hid (Blk.keeps BQr.out ((Keeps.refl (fun _ => False) wr).drew.trans (kc _)) (fun z => z)); have KC : Hid (∀ S, Keeps S w wc) := Lib.hid (fun S => ((KR.out S).drew).trans (kc S)); clear kc)
          refine hK.out _ _ (HKS wc BPc.out BQc.out) (fun hHeld => ?_)
          clear hK K
          try simp only [Act.put, Array.getInternal_eq_getElem, List.getElem_toArray, List.getElem_cons_zero, List.getElem_cons_succ, List.setIfInBounds_toArray, List.set_cons_zero, List.set_cons_succ]
          refine wpAnyH_ready (rs := [6]) (by kernel_rfl) (by simp) ?_
          refine AllReadyH.cons rfl (fun K hK => ?_) AllReadyH.nil
          (rw [if_pos (by kernel_rfl)]; go_simp; go_at_call 47; refine (HBP _).out.mono ?_; rintro e wd ⟨rfl, kd⟩; have BPd := Lib.hid (Blk.keeps BPc.out (kd (fun _ => False)) (fun z => z)); have BQd := Lib.hid (Blk.keeps BQc.out (kd (fun _ => False)) (fun z => z)); have KDD : Hid (∀ S, Keeps S w wd) := Lib.hid (fun S => (KC.out S).trans (kd S)); clear kd)
          refine hK.out _ _ (HKS wd BPd.out BQd.out) (fun hHeld => ?_)
          clear hK K
          try simp only [Act.put, Array.getInternal_eq_getElem, List.getElem_toArray, List.getElem_cons_zero, List.getElem_cons_succ, List.setIfInBounds_toArray, List.set_cons_zero, List.set_cons_succ]
          refine wpAnyH_take (i := 7) (v := ?_) rfl (by kernel_rfl) (by kernel_rfl) (by kernel_rfl) (fun _ _ _ h => h) (Or.inl ⟨by kernel_rfl, ?_⟩) (by assumption) ?_
          rotate_left
          · (intro w hSw; (try dsimp only at hSw); go_simp) <;> (try (with_reducible rfl))
          try simp only [Act.put, Array.getInternal_eq_getElem, List.getElem_toArray, List.getElem_cons_zero, List.getElem_cons_succ, List.setIfInBounds_toArray, List.set_cons_zero, List.set_cons_succ]
          refine wpAnyH_done ?_ ?_ _
          · kernel_rfl
          clear hHeld
          go_wp2
          try rw [Exit.noGoto_ret]
          go_ret
          exact ⟨by rw [HNO.out]; rfl, KDD.out⟩
        · have HX := Lib.hid hx
          have HY := Lib.hid hy
          rw [hx] at HBA
          rw [hy] at HBP

          clear hx hy
          refine wp_region_held_drew (S := fun w' => w'.rangeAt Q 0 (adc a) ∧ w'.rangeAt P 0 (adc p.a)) (by kernel_rfl) (HKS wr.drew BPr.out BQr.out) (fun hHeld => ?_)
          refine' wpAnyH_take (i := 0) (v := _) rfl (by kernel_rfl) (by kernel_rfl) (by kernel_rfl) (fun _ _ _ h => h) (yieldsIf_load_mid (by kernel_rfl) _ _ rfl _ _ rfl _ _ (fun w hSw => hSw.1) Tryz.underlying24 rfl HSA.out) (by assumption) ?_
          try simp only [Act.put, Array.getInternal_eq_getElem, List.getElem_toArray, List.getElem_cons_zero, List.getElem_cons_succ, List.setIfInBounds_toArray, List.set_cons_zero, List.set_cons_succ]
          refine wpAnyH_take (i := 1) (v := ?_) rfl (by kernel_rfl) (by kernel_rfl) (by kernel_rfl) (fun _ _ _ h => h) (Or.inl ⟨by kernel_rfl, ?_⟩) (by assumption) ?_
          rotate_left
          · (intro w hSw; (try dsimp only at hSw); go_simp) <;> (try (with_reducible rfl))
          try simp only [Act.put, Array.getInternal_eq_getElem, List.getElem_toArray, List.getElem_cons_zero, List.getElem_cons_succ, List.setIfInBounds_toArray, List.set_cons_zero, List.set_cons_succ]
          refine wpAnyH_take (i := 3) (v := ?_) rfl (by kernel_rfl) (by kernel_rfl) (by kernel_rfl) (fun _ _ _ h => h) (Or.inl ⟨by kernel_rfl, ?_⟩) (by assumption) ?_
          rotate_left
          · (intro w hSw; (try dsimp only at hSw); go_simp) <;> (try (with_reducible rfl))
          try simp only [Act.put, Array.getInternal_eq_getElem, List.getElem_toArray, List.getElem_cons_zero, List.getElem_cons_succ, List.setIfInBounds_toArray, List.set_cons_zero, List.set_cons_succ]
          refine' wpAnyH_take (i := 4) (v := _) rfl (by kernel_rfl) (by kernel_rfl) (by kernel_rfl) (fun _ _ _ h => h) (yieldsIf_load_mid (by kernel_rfl) _ _ rfl _ _ rfl _ _ (fun w hSw => hSw.2) Tryz.underlying24 rfl HSC.out) (by assumption) ?_
          try simp only [Act.put, Array.getInternal_eq_getElem, List.getElem_toArray, List.getElem_cons_zero, List.getElem_cons_succ, List.setIfInBounds_toArray, List.set_cons_zero, List.set_cons_succ]
          refine wpAnyH_take (i := 5) (v := ?_) rfl (by kernel_rfl) (by kernel_rfl) (by kernel_rfl) (fun _ _ _ h => h) (Or.inl ⟨by kernel_rfl, ?_⟩) (by assumption) ?_
          rotate_left
          · (intro w hSw; (try dsimp only at hSw); go_simp) <;> (try (with_reducible rfl))
          try simp only [Act.put, Array.getInternal_eq_getElem, List.getElem_toArray, List.getElem_cons_zero, List.getElem_cons_succ, List.setIfInBounds_toArray, List.set_cons_zero, List.set_cons_succ]
          refine wpAnyH_ready (rs := [2]) (by kernel_rfl) (by simp) ?_
          refine AllReadyH.cons rfl (fun K hK => ?_) AllReadyH.nil
          (rw [if_pos (by kernel_rfl)]; go_simp; go_at_call 47; refine (HBA _).out.mono ?_; rintro e wc ⟨rfl, kc⟩; have BPc := Lib.hid (Blk.keeps BPr.out ((Keeps.refl (fun _ => False) wr).drew.trans (kc _)) (fun z => z)); have BQc := Lib.hid (Blk.keeps BQr.out ((Keeps.refl (fun _ => False) wr).drew.trans (kc _)) (fun z => z)); have KC : Hid (∀ S, Keeps S w wc) := Lib.hid (fun S => ((KR.out S).drew).trans (kc S)); clear kc)
          refine hK.out _ _ (HKS wc BPc.out BQc.out) (fun hHeld => ?_)
          clear hK K
          try simp only [Act.put, Array.getInternal_eq_getElem, List.getElem_toArray, List.getElem_cons_zero, List.getElem_cons_succ, List.setIfInBounds_toArray, List.set_cons_zero, List.set_cons_succ]
          refine wpAnyH_ready (rs := [6]) (by kernel_rfl) (by simp) ?_
          refine AllReadyH.cons rfl (fun K hK => ?_) AllReadyH.nil
          (rw [if_pos (by kernel_rfl)]; go_simp; go_at_call 47; refine (HBP _).out.mono ?_; rintro e wd ⟨rfl, kd⟩; have BPd := Lib.hid (Blk.keeps BPc.out (kd (fun _ => False)) (fun z => z)); have BQd := Lib.hid (Blk.keeps BQc.out (kd (fun _ => False)) (fun z => z)); have KDD : Hid (∀ S, Keeps S w wd) := Lib.hid (fun S => (KC.out S).trans (kd S)); clear kd)
          refine hK.out _ _ (HKS wd BPd.out BQd.out) (fun hHeld => ?_)
          clear hK K
          try simp only [Act.put, Array.getInternal_eq_getElem, List.getElem_toArray, List.getElem_cons_zero, List.getElem_cons_succ, List.setIfInBounds_toArray, List.set_cons_zero, List.set_cons_succ]
          refine wpAnyH_take (i := 7) (v := ?_) rfl (by kernel_rfl) (by kernel_rfl) (by kernel_rfl) (fun _ _ _ h => h) (Or.inl ⟨by kernel_rfl, ?_⟩) (by assumption) ?_
          rotate_left
          · (intro w hSw; (try dsimp only at hSw); go_simp) <;> (try (with_reducible rfl))
          try simp only [Act.put, Array.getInternal_eq_getElem, List.getElem_toArray, List.getElem_cons_zero, List.getElem_cons_succ, List.setIfInBounds_toArray, List.set_cons_zero, List.set_cons_succ]
          refine wpAnyH_done ?_ ?_ _
          · kernel_rfl
          clear hHeld
          go_wp2_with fail
          go_roundw
          case rel => exact ⟨k + 1, by omega, by go_num, BPd.out, BQd.out, KDD.out, upto HZ.out (HX.out.trans HY.out.symm)⟩
          case measure => simp [intOf]; omega
      · obtain rfl : k = m := by omega
        have hlt' : ¬ (k : Int) < (k : Int) := by omega
        have HYES := Lib.hid (hasB_yes (p := p) (a := a) ⟨HO.out.1, HO.out.2.1, HO.out.2.2, fun i hi => HZ.out i (by have := HM.out; omega)⟩)
        go_wp2
        try rw [Exit.noGoto_ret]
        go_ret
        exact ⟨by rw [HYES.out]; rfl, KR.out⟩
theorem has_ (p : Px) (a : Ad) (hp : p.a.Wf) (ha : a.Wf) : Calls Tryz.prog 24 #[pv p, av a] w fun e w' => e = .returned (.bool (hasB p a)) ∧ ∀ S, Keeps S w w' := by
  by_cases ho : okP p
  · by_cases hoa : okA a
    · by_cases hv : a.v6 = p.a.v6
      · exact has_loop w p a hp ha ho hoa hv
      · exact has_kind w p a hp ha ho hoa hv
    · exact has_a w p a hp ha ho hoa
  · exact has_p w p a hp ha ho
end
end Go.Proofs.YtgcdhfpbmcfedaaGreatDoor.pf
end
section
set_option linter.unusedVariables false
set_option linter.unusedSimpArgs false
namespace Go.Proofs.YtgcdhfpbmcfedaaGreatDoor.pf
open Go.RowKit Go.Proofs.YtgcdhfpbmcfedaaGreatDoor.oc Go.Proofs.YtgcdhfpbmcfedaaGreatDoor.mz Go.Proofs.YtgcdhfpbmcfedaaGreatDoor.wh
/-- the i-th of an address's eight numbers -/
def num (a : Ad) (i : Nat) : Nat := byt a (2 * i) * 256 + byt a (2 * i + 1)
theorem num_lt {a : Ad} (h : a.Wf) (i : Nat) : num a i < 65536 := by
  have := byt_lt h (2 * i)
  have := byt_lt h (2 * i + 1)
  unfold num; omega
/-- how many numbers are 0 from the i-th on -/
def zr (nm : Nat → Nat) : Nat → Nat → Nat
  | 0, _ => 0
  | f + 1, i => if nm i = 0 then 1 + zr nm f (i + 1) else 0
def zrun (nm : Nat → Nat) (i : Nat) : Nat := zr nm (8 - i) i
theorem zr_le (nm : Nat → Nat) : ∀ f i, zr nm f i ≤ f
  | 0, _ => by simp [zr]
  | f + 1, i => by
    have := zr_le nm f (i + 1)
    unfold zr; split <;> omega
theorem zr_eq (nm : Nat → Nat) : ∀ (n f i : Nat), n ≤ f → (∀ j, j < n → nm (i + j) = 0) → (n = f ∨ ¬ nm (i + n) = 0) → zr nm f i = n
  | 0, f, i, _, _, hr => by
    cases f with
    | zero => simp [zr]
    | succ f =>
      rcases hr with hr | hr
      · omega
      · unfold zr; rw [if_neg (by simpa using hr)]
  | n + 1, f, i, h, hz, hr => by
    cases f with
    | zero => omega
    | succ f =>
      have h0 := hz 0 (by omega)
      unfold zr
      rw [if_pos (by simpa using h0), zr_eq nm n f (i + 1) (by omega) (fun j hj => by have := hz (j + 1) (by omega); rwa [show i + (j + 1) = i + 1 + j from by omega] at this) (by
        rcases hr with hr | hr
        · exact .inl (by omega)
        · exact .inr (by rwa [show i + (n + 1) = i + 1 + n from by omega] at hr))]
      omega
theorem zrun_eq (nm : Nat → Nat) {i n : Nat} (h : i + n ≤ 8) (hz : ∀ j, j < n → nm (i + j) = 0) (hr : i + n = 8 ∨ ¬ nm (i + n) = 0) : zrun nm i = n :=
  zr_eq nm n (8 - i) i (by omega) hz (by rcases hr with hr | hr; exact .inl (by omega); exact .inr hr)
theorem zr_zero (nm : Nat → Nat) : ∀ (f i j : Nat), j < zr nm f i → nm (i + j) = 0
  | 0, i, j, h => by simp [zr] at h
  | f + 1, i, j, h => by
    unfold zr at h
    split at h
    · rename_i h0
      cases j with
      | zero => exact h0
      | succ j => have := zr_zero nm f (i + 1) j (by omega); rwa [show i + (j + 1) = i + 1 + j from by omega]
    · omega
theorem zrun_le (nm : Nat → Nat) {i : Nat} (h : i ≤ 8) : i + zrun nm i ≤ 8 := by have := zr_le nm (8 - i) i; unfold zrun; omega
theorem zrun_zero (nm : Nat → Nat) {i j : Nat} (h : j < zrun nm i) : nm (i + j) = 0 := zr_zero nm _ i j h
/-- the longest row of noughts that begins ahead of k: where, how long -/
def rowUp (nm : Nat → Nat) : Nat → Nat × Nat
  | 0 => (0, 0)
  | k + 1 => if (rowUp nm k).2 < zrun nm k then (k, zrun nm k) else rowUp nm k
theorem rowUp_le (nm : Nat → Nat) : ∀ k, k ≤ 8 → (rowUp nm k).1 + (rowUp nm k).2 ≤ 8 ∧ ((rowUp nm k).2 = 0 ∨ (rowUp nm k).1 < k)
  | 0, _ => by simp [rowUp]
  | k + 1, h => by
    have ih := rowUp_le nm k (by omega)
    have := zrun_le nm (i := k) (by omega)
    unfold rowUp
    split
    · exact ⟨this, .inr (by simp)⟩
    · exact ⟨ih.1, by omega⟩
theorem rowUp_zero (nm : Nat → Nat) : ∀ k j, j < (rowUp nm k).2 → nm ((rowUp nm k).1 + j) = 0
  | 0, j, h => by simp [rowUp] at h
  | k + 1, j, h => by
    unfold rowUp at h ⊢
    split at h
    · rename_i hh
      rw [if_pos hh]
      exact zrun_zero nm h
    · rename_i hh
      rw [if_neg hh]
      exact rowUp_zero nm k j h
/-- a number's digits to the base 16, a byte's to the base 10 -/
def hx (n : Nat) : List Nat := dg 16 4 n
def dec (n : Nat) : List Nat := dg 10 3 n
/-- what stands at the i-th number -/
def sep (at_ long i : Nat) : List Nat := if 1 < long ∧ i = at_ then [58, 58] else []
def col (at_ long i : Nat) : List Nat := if 0 < i ∧ ¬ (1 < long ∧ i = at_ + long) then [58] else []
def piece (nm : Nat → Nat) (at_ long i : Nat) : List Nat := if 1 < long ∧ at_ ≤ i ∧ i < at_ + long then [] else col at_ long i ++ hx (nm i)
def t6up (nm : Nat → Nat) (at_ long : Nat) : Nat → List Nat
  | 0 => []
  | k + 1 => t6up nm at_ long k ++ sep at_ long k ++ piece nm at_ long k
def t6 (nm : Nat → Nat) : List Nat := t6up nm (rowUp nm 8).1 (rowUp nm 8).2 8
def t4 (a : Ad) : List Nat := dec (byt a 0) ++ [46] ++ dec (byt a 1) ++ [46] ++ dec (byt a 2) ++ [46] ++ dec (byt a 3)
/-- the text of an address -/
def atext (a : Ad) : List Nat := if a.v6 then t6 (num a) else t4 a
theorem t6up_len (nm : Nat → Nat) (at_ long : Nat) : ∀ k, (t6up nm at_ long k).length ≤ 7 * k
  | 0 => by simp [t6up]
  | k + 1 => by
    have ih := t6up_len nm at_ long k
    have h1 : (sep at_ long k).length ≤ 2 := by unfold sep; split <;> simp
    have h2 : (piece nm at_ long k).length ≤ 5 := by
      have := dg_len 16 4 (nm k)
      unfold piece col hx
      split
      · simp
      · split <;> simp <;> omega
    unfold t6up
    simp only [List.length_append]; omega
theorem atext_len (a : Ad) : (atext a).length ≤ 56 := by
  unfold atext
  split
  · exact t6up_len _ _ _ 8
  · have h0 := dg_len 10 3 (byt a 0)
    have h1 := dg_len 10 3 (byt a 1)
    have h2 := dg_len 10 3 (byt a 2)
    have h3 := dg_len 10 3 (byt a 3)
    unfold t4 dec
    simp only [List.length_append, List.length_singleton]; omega
section
variable (a : Ad) (w : World)
set_option maxRecDepth 100000 in
set_option maxHeartbeats 1000000 in
theorem number_ (i : Nat) (ha : a.Wf) (hi : i < 8) : Calls Tryz.prog 53 #[av a, .int .i64 (i : Int)] w fun e w' => e = .returned (.int .i64 ((num a i : Nat) : Int)) ∧ ∀ S, Keeps S w w' := by
  have b1 := Blk.new w 24 (adc a).toArray
  have hl := byt_lt ha (2 * i)
  have hl2 := byt_lt ha (2 * i + 1)
  unfold num
  obtain ⟨p, hp⟩ : ∃ p, p = 2 * i := ⟨_, rfl⟩
  obtain ⟨q, hq⟩ : ∃ q, q = 2 * i + 1 := ⟨_, rfl⟩
  rw [← hp] at hl hl2 ⊢
  rw [show p + 1 = q from by omega] at hl2 ⊢
  have xb := ad_byt ha b1 (i := p) (by omega)
  have xc := ad_byt ha b1 (i := q) (by omega)
  generalize byt a p = x at *
  generalize byt a q = y at *
  obtain ⟨m, hm⟩ : ∃ m, m = x * 256 + y := ⟨_, rfl⟩
  have HE := Lib.hid (show wrap64 (wrap64 (wrap64 (x : Int) * 256) + wrap64 (y : Int)) = (m : Int) from by unfold wrap64; omega)
  rw [← hm]
  unfold av
  generalize (adc a).toArray = C at *
  have j0 : IntKind.i64.wrap (2 * (i : Int)) = (p : Int) := by rw [IntKind.wrap_i64]; omega
  have j1 : IntKind.i64.wrap ((p : Int) + 1) = (q : Int) := by rw [IntKind.wrap_i64]; omega
  have j2 : (0 : Int) ≤ (p : Int) := by omega
  have j3 : (p : Int) < 16 := by omega
  have j4 : (0 : Int) ≤ (q : Int) := by omega
  have j5 : (q : Int) < 16 := by omega
  have K1 : Hid (∀ S, Keeps S w (w.alloc (.cells C 24))) := Lib.hid (fun S => (Keeps.refl S w).alloc _)
  obtain ⟨w1, hw1⟩ : ∃ w1, w1 = w.alloc (.cells C 24) := ⟨_, rfl⟩
  rw [← hw1] at xb xc K1
  have HW := Lib.hid hw1
  clear ha hp hq hm b1 hw1 hl hl2
  go_enter Tryz.func53, Tryz.ntmps53
  go_wp2
  rw [← HW.out]
  go_quiet (fail)
  go_wp2
  go_ret
  exact ⟨congrArg (fun z => Ending.returned (Value.int .i64 z)) HE.out, fun S => (K1.out S).trans (Keeps.of_drew _ _)⟩
set_option maxRecDepth 100000 in
set_option maxHeartbeats 4000000 in
theorem row_ (ha : a.Wf) : Calls Tryz.prog 52 #[av a] w fun e w' => e = .returned (.tuple #[.int .i64 (((rowUp (num a) 8).1 : Nat) : Int), .int .i64 (((rowUp (num a) 8).2 : Nat) : Int)]) ∧ ∀ S, Keeps S w w' := by
  have b0 := Blk.new w 24 (adc a).toArray
  have HSX := Lib.hid (show (Tryz.prog.info? 24).map (·.size) = some (adc a).length from by rw [adc_len ha]; exact addr_info)
  have HN := fun w i hi => Lib.hid (number_ a w i ha hi)
  have K0 : Hid (∀ S, Keeps S w (w.alloc (.cells (adc a).toArray 24))) := Lib.hid (fun S => (Keeps.refl S w).alloc _)
  have hlt := num_lt ha
  have HLT := Lib.hid hlt
  obtain ⟨nm, hnm⟩ : ∃ nm, nm = num a := ⟨_, rfl⟩
  rw [← hnm]
  have HNM := Lib.hid hnm
  unfold av at HN ⊢
  generalize hC : adc a = C at *
  obtain ⟨w1, hw1⟩ : ∃ w1, w1 = w.alloc (.cells C.toArray 24) := ⟨_, rfl⟩
  have B0 : Hid (Blk w1 w.heap.size 24 C) := Lib.hid (by rw [hw1]; exact b0)
  rw [← hw1] at K0
  have HW := Lib.hid hw1
  clear b0 ha hlt hnm hC hw1
  go_enter Tryz.func52, Tryz.ntmps52
  go_wp2_with fail
  rw [← HW.out]
  go_wp2_with fail
  go_loopw [4, 5, 6] (fun at_ long i wr => ∃ k : Nat, k ≤ 8 ∧ i = .int .i64 (k : Int) ∧ at_ = .int .i64 (((rowUp nm k).1 : Nat) : Int) ∧ long = .int .i64 (((rowUp nm k).2 : Nat) : Int) ∧ ∀ S, Keeps S w1 wr) (fun _ _ i _ => 8 - (intOf i).toNat)
  case atStart => exact ⟨0, by omega, rfl, rfl, rfl, fun S => Keeps.refl S w1⟩
  case round =>
    obtain ⟨k, hk, rfl, rfl, rfl, hkk⟩ := hrel
    have HK : Hid (∀ S, Keeps S w1 wr) := Lib.hid hkk
    clear hkk
    by_cases hlt : k < 8
    · have hlt' : (k : Int) < 8 := by omega
      obtain ⟨p, hp⟩ : ∃ p, p = rowUp nm k := ⟨_, rfl⟩
      have HP := Lib.hid hp
      rw [← hp]
      obtain ⟨p1, p2⟩ := p
      simp only
      clear hp
      have KK := Lib.hid hlt
      go_wp2_with fail
      have K1 : Hid (∀ S, Keeps S w1 wr) := Lib.hid HK.out
      go_loopw [7] (fun n wr' => ∃ m : Nat, k + m ≤ 8 ∧ n = .int .i64 (m : Int) ∧ (∀ j, j < m → nm (k + j) = 0) ∧ ∀ S, Keeps S w1 wr') (fun n _ => 8 - (intOf n).toNat)
      case atStart => exact ⟨0, by omega, rfl, fun j hj => by omega, HK.out⟩
      case round =>
        obtain ⟨m, hm, rfl, hz, hkk⟩ := hrel
        have HK2 : Hid (∀ S, Keeps S w1 wr) := Lib.hid hkk
        have HZ : Hid (∀ j, j < m → nm (k + j) = 0) := Lib.hid hz
        obtain ⟨q, hq⟩ : ∃ q, q = k + m := ⟨_, rfl⟩
        have hqw : wrap64 ((k : Int) + (m : Int)) = (q : Int) := by unfold wrap64; omega
        have HQ := Lib.hid hq
        clear hz hkk
        have fin : (q = 8 ∨ ¬ nm q = 0) → zrun nm k = m := fun h => zrun_eq nm hm HZ.out (by rcases h with h | h; exact .inl (by omega); exact .inr (by rwa [hq] at h))
        have FIN : Hid ((q = 8 ∨ ¬ nm q = 0) → zrun nm k = m) := Lib.hid fin
        have HM := Lib.hid hm
        clear fin hq
        by_cases hq8 : q < 8
        · have hq8' : (q : Int) < 8 := by omega
          have HLD := Lib.hid (Blk.range (Blk.keeps B0.out (HK2.out (fun _ => False)) (fun z => z)))
          have HNQ := Lib.hid ((HN wr q hq8).out)
          clear hm
          go_wp2_with (refine wpList_load_want rfl 24 _ rfl w.heap.size 0 rfl C _ HLD.out Tryz.underlying24 rfl HSX.out ?_)
          refine HNQ.out.mono ?_
          rintro e w2 ⟨rfl, k2⟩
          have K2 : Hid (∀ S, Keeps S w1 w2) := Lib.hid (fun S => (HK2.out S).trans (k2 S))
          clear k2 HLD HNQ
          rw [← HNM.out]
          by_cases hn0 : nm q = 0
          · have hn0' : ((nm q : Nat) : Int) = 0 := by omega
            have HN0 := Lib.hid hn0
            clear hn0
            have hm9 : m ≤ 8 := by have := HM.out; omega
            go_wp2_with fail
            go_roundw
            case rel => exact ⟨m + 1, by have := HQ.out; omega, by go_num, fun j hj => by
              rcases Nat.lt_or_ge j m with h | h
              · exact HZ.out j h
              · rw [show k + j = q from by have := HQ.out; omega]; exact HN0.out, K2.out⟩
            case measure => simp [intOf]; have := HQ.out; omega
          · have hn0' : ¬ ((nm q : Nat) : Int) = 0 := by omega
            have HR := Lib.hid (FIN.out (.inr hn0))
            clear hn0
            by_cases hp2 : p2 < m
            · have hp2' : (p2 : Int) < (m : Int) := by omega
              go_wp2_with fail
              go_roundw
              case rel => exact ⟨k + 1, by have := KK.out; omega, by go_num, by rw [rowUp, ← HP.out, HR.out]; simp only [if_pos hp2], by rw [rowUp, ← HP.out, HR.out]; simp only [if_pos hp2], K2.out⟩
              case measure => simp [intOf]; have := KK.out; omega
            · have hp2' : ¬ (p2 : Int) < (m : Int) := by omega
              go_wp2_with fail
              go_roundw
              case rel => exact ⟨k + 1, by have := KK.out; omega, by go_num, by rw [rowUp, ← HP.out, HR.out]; simp only [if_neg hp2], by rw [rowUp, ← HP.out, HR.out]; simp only [if_neg hp2], K2.out⟩
              case measure => simp [intOf]; have := KK.out; omega
        · have hq8' : ¬ (q : Int) < 8 := by omega
          have HR := Lib.hid (FIN.out (.inl (by have := HQ.out; omega)))
          clear hm
          by_cases hp2 : p2 < m
          · have hp2' : (p2 : Int) < (m : Int) := by omega
            go_wp2_with fail
            go_roundw
            case rel => exact ⟨k + 1, by have := KK.out; omega, by go_num, by rw [rowUp, ← HP.out, HR.out]; simp only [if_pos hp2], by rw [rowUp, ← HP.out, HR.out]; simp only [if_pos hp2], HK2.out⟩
            case measure => simp [intOf]; have := KK.out; omega
          · have hp2' : ¬ (p2 : Int) < (m : Int) := by omega
            go_wp2_with fail
            go_roundw
            case rel => exact ⟨k + 1, by have := KK.out; omega, by go_num, by rw [rowUp, ← HP.out, HR.out]; simp only [if_neg hp2], by rw [rowUp, ← HP.out, HR.out]; simp only [if_neg hp2], HK2.out⟩
            case measure => simp [intOf]; have := KK.out; omega
    · obtain rfl : k = 8 := by omega
      go_wp2
      go_ret2
      exact ⟨rfl, fun S => (K0.out S).trans (HK.out S)⟩
end
end Go.Proofs.YtgcdhfpbmcfedaaGreatDoor.pf
end
