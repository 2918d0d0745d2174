/-
  The reference's machine, plainly: instructions, what each does to registers. Nothing of the program's functions. Addresses and prefixes, plainly: bytes, bits; what may be, what has, what covers. Nothing of the program's functions. Prefixes, plainly: of an address its first bits; halves; two prefixes are apart, or one covers the other; their order. Nothing of the program's functions. The merged list is one: none in it covers another one, no two are the halves of one; plainly. Prefixes as stretches of numbers; their order as a number; plainly. Nothing of the program's functions. Words for memory: a slice whose cells are known ('Rd'), bytes ('by_'), and what keeps them. Nothing of the program's functions. Words for memory: only some blocks have turned (Keeps); sums of 64 bits. append onto a row of the call's own, told in this proof's words: the source is any slice whose cells are known, nil and empty ones too. append onto a row of the call's own whose elements have several cells, and where the row lies behind it. Words for memory: numbers as cells; rows of a block of the call's own. Words for memory: aggregates of many cells, read and written whole (no walk). Words for memory, on: single cells under Keeps. Nothing of the program's functions. patchbayref15: Width, Bit. patchbayref15: Digits. patchbayref15: With, CheckAddr, Check. patchbayref15: With. patchbayref15: Check. patchbayref15: Has. The texts of addresses and prefixes, plainly; numbers and rows of noughts. patchbayref15: AddrText. patchbayref15: Covers, Compare. patchbayref15: Of. patchbayref15: Halves. patchbayref15: hex, four. A row of one-cell elements that is appended to at its end and cut at its front. patchbayref15: numbers. A text of IPv6 is read, plainly. patchbayref15: six. What is written is read: texts of IPv4 and IPv6, plainly. The text of an address is read as it was; two addresses have one text only if they are one. patchbayref15: ReadAddr: the address whose text it is, or the refusal. patchbayref15: Text. The text of a prefix is read as it was, plainly: the last stroke, one text only. patchbayref15: Read: the prefix whose text it is, or the refusal. Regions that draw their order, whose calls make memory of their own: one walk in the order of the text. prefix: first, width. Equality of arrays of 16 bytes, of addresses, of prefixes. prefix: CheckAddr.
-/
import Derived.WalkKit
import Derived.Laws.OwnMore
import Derived.Deep.Draws
import Derived.Deep.AppendLies
import Derived.Maps.AppendAt
import Derived.OwnWalk
import Derived.RegionTactic
import Derived.Test.YtgcdhfpbmcfedaaGreatDoorProg
import Derived.WalkLawsBesides
import Derived.Outline
import Derived.Lib.Hide
import Derived.Laws.Rows
import Derived.Deep.MidRow
import Derived.Deep.WholeRow
import Derived.Laws.ResultCell
import Derived.Deep.Quiet
import Derived.StillTailTactics
import Derived.WalkSpells
import Derived.IntWalk
import Derived.WalkMore
import Derived.RegionCalls
import Derived.BigRegion
import Derived.Deep.LoopGhost
import Derived.Deep.RegionHeld3
import Derived.Deep.QuietTactic
import Derived.BigQuiet
import Derived.BigFrame
import Derived.Deep.AppendSrc
section
namespace Go.Proofs.YtgcdhfpbmcfedaaGreatDoor.mz
/-- an instruction -/
structure Ins where
  op : Nat
  on : Nat
  a : Nat
  b : Nat
  c : Nat
  d : Nat
  n : Nat
/-- 2^64, kept out of the counting -/
@[irreducible] def W64 : Nat := 18446744073709551616
theorem W64_eq : W64 = 18446744073709551616 := by unfold W64; rfl
/-- what is told in one call, where it stands, its registers -/
structure Cs where
  at_ : Nat
  rs : List Nat
  told : List Nat
def reg (rs : List Nat) (i : Nat) : Nat := rs.getD i 0
/-- register a becomes v, one on -/
def Cs.put (s : Cs) (a v : Nat) : Cs := { s with at_ := s.at_ + 1, rs := s.rs.set a v }
def Cs.go (s : Cs) (b : Bool) (n : Nat) : Cs := { s with at_ := if b then n else s.at_ + 1 }
/-- an instruction that is the thread's own -/
def own (data : List Nat) (x : Ins) (s : Cs) : Option Cs :=
  match x.op with
  | 6 => some (s.put x.a x.n)
  | 7 => some (s.put x.a (reg s.rs x.b))
  | 8 => some (s.put x.a ((reg s.rs x.b + reg s.rs x.c + x.n) % W64))
  | 9 => some (s.put x.a ((reg s.rs x.b + (W64 - reg s.rs x.c)) % W64))
  | 10 => some (s.put x.a ((reg s.rs x.b * reg s.rs x.c) % W64))
  | 11 => some (s.put x.a (if reg s.rs x.c = 0 then 0 else reg s.rs x.b / reg s.rs x.c))
  | 12 => some (s.put x.a (reg s.rs x.b &&& reg s.rs x.c))
  | 13 => some (s.put x.a (reg s.rs x.b ||| reg s.rs x.c))
  | 14 => some (s.put x.a (reg s.rs x.b * 2 ^ x.n % W64))
  | 15 => some (s.put x.a (reg s.rs x.b / 2 ^ x.n))
  | 16 => some (s.put x.a (max (reg s.rs x.b) (reg s.rs x.c)))
  | 17 => some (s.put x.a (data.getD ((reg s.rs x.b + x.n) % W64) 0))
  | 18 => some (s.go true x.n)
  | 19 => some (s.go (decide (reg s.rs x.a = reg s.rs x.b)) x.n)
  | 20 => some (s.go (decide (reg s.rs x.a < reg s.rs x.b)) x.n)
  | 21 => some (s.go (decide (reg s.rs x.a / 9223372036854775808 = 1)) x.n)
  | 22 => some { s with at_ := s.at_ + 1, told := s.told ++ [reg s.rs x.a] }
  | _ => none
end Go.Proofs.YtgcdhfpbmcfedaaGreatDoor.mz
end
section
namespace Go.Proofs.YtgcdhfpbmcfedaaGreatDoor.pf
/-- an address: its kind, its bytes -/
structure Ad where
  v6 : Bool
  B : List Nat
structure Ad.Wf (a : Ad) : Prop where
  len : a.B.length = 16
  sm : ∀ x ∈ a.B, x < 256
structure Px where
  a : Ad
  bits : Int
def wid (a : Ad) : Nat := if a.v6 then 128 else 32
def byt (a : Ad) (i : Nat) : Nat := a.B[i]?.getD 0
def bit (a : Ad) (i : Nat) : Bool := decide (byt a (i / 8) / 2 ^ (7 - i % 8) % 2 = 1)
def okA (a : Ad) : Prop := ∀ i, wid a / 8 ≤ i → i < 16 → byt a i = 0
def okP (p : Px) : Prop := okA p.a ∧ (0 ≤ p.bits ∧ p.bits ≤ (wid p.a : Int)) ∧ ∀ i : Nat, p.bits ≤ (i : Int) → i < wid p.a → bit p.a i = false
def has (p : Px) (a : Ad) : Prop := okP p ∧ okA a ∧ a.v6 = p.a.v6 ∧ ∀ i : Nat, (i : Int) < p.bits → bit a i = bit p.a i
def covers (p q : Px) : Prop := okP q ∧ p.bits ≤ q.bits ∧ has p q.a
theorem wid_le (a : Ad) : wid a ≤ 128 ∧ 32 ≤ wid a := by unfold wid; split <;> omega
theorem wid_of {a b : Ad} (h : a.v6 = b.v6) : wid a = wid b := by unfold wid; rw [h]
theorem wid_cases (a : Ad) : (a.v6 = true ∧ wid a = 128) ∨ (a.v6 = false ∧ wid a = 32) := by unfold wid; cases a.v6 <;> simp
theorem byt_lt {a : Ad} (h : a.Wf) (i : Nat) : byt a i < 256 := by
  unfold byt
  rcases Nat.lt_or_ge i a.B.length with q | q
  · rw [List.getElem?_eq_getElem q]; exact h.sm _ (List.getElem_mem q)
  · rw [List.getElem?_eq_none q]; decide
theorem byt_some {a : Ad} (h : a.Wf) {i : Nat} (hi : i < 16) : a.B[i]? = some (byt a i) := by
  unfold byt
  rw [List.getElem?_eq_getElem (by rw [h.len]; exact hi)]; rfl
theorem byte_ext {x y : Nat} (hx : x < 256) (hy : y < 256) (h : ∀ j, j < 8 → (x / 2 ^ (7 - j) % 2 = 1 ↔ y / 2 ^ (7 - j) % 2 = 1)) : x = y := by
  refine Nat.eq_of_testBit_eq fun i => ?_
  rcases Nat.lt_or_ge i 8 with q | q
  · have := h (7 - i) (by omega)
    rw [show 7 - (7 - i) = i from by omega] at this
    rw [Nat.testBit_eq_decide_div_mod_eq, Nat.testBit_eq_decide_div_mod_eq]
    exact decide_eq_decide.2 this
  · have p : 2 ^ 8 ≤ 2 ^ i := Nat.pow_le_pow_right (by omega) q
    rw [Nat.testBit_lt_two_pow (Nat.lt_of_lt_of_le hx p), Nat.testBit_lt_two_pow (Nat.lt_of_lt_of_le hy p)]
theorem bit_iff (a : Ad) (i : Nat) : bit a i = true ↔ byt a (i / 8) / 2 ^ (7 - i % 8) % 2 = 1 := by unfold bit; simp
theorem Ad.eq_of {a b : Ad} (hv : a.v6 = b.v6) (hB : a.B = b.B) : a = b := by cases a; cases b; simp at hv hB; simp [hv, hB]
theorem Ad.ext_byt {a b : Ad} (ha : a.Wf) (hb : b.Wf) (hv : a.v6 = b.v6) (h : ∀ i, i < 16 → byt a i = byt b i) : a = b := by
  refine Ad.eq_of hv (List.ext_getElem? fun i => ?_)
  rcases Nat.lt_or_ge i 16 with q | q
  · rw [byt_some ha q, byt_some hb q, h i q]
  · rw [List.getElem?_eq_none (by rw [ha.len]; exact q), List.getElem?_eq_none (by rw [hb.len]; exact q)]
/-- an address is its kind and its 128 bits -/
theorem Ad.ext_bit {a b : Ad} (ha : a.Wf) (hb : b.Wf) (hv : a.v6 = b.v6) (h : ∀ i, i < 128 → bit a i = bit b i) : a = b := by
  refine Ad.ext_byt ha hb hv fun i hi => byte_ext (byt_lt ha i) (byt_lt hb i) fun j hj => ?_
  have := h (8 * i + j) (by omega)
  have e1 : (8 * i + j) / 8 = i := by omega
  have e2 : (8 * i + j) % 8 = j := by omega
  have q1 := bit_iff a (8 * i + j)
  have q2 := bit_iff b (8 * i + j)
  rw [e1, e2] at q1 q2
  rw [← q1, ← q2, this]
theorem okA_bits {a : Ad} (h : a.Wf) : okA a ↔ ∀ i, wid a ≤ i → i < 128 → bit a i = false := by
  have hw := wid_cases a
  constructor
  · intro ho i h1 h2
    have : byt a (i / 8) = 0 := ho _ (by omega) (by omega)
    unfold bit
    rw [this]
    simp
  · intro hb i h1 h2
    refine byte_ext (byt_lt h i) (by omega) fun j hj => ?_
    have e1 : (8 * i + j) / 8 = i := by omega
    have e2 : (8 * i + j) % 8 = j := by omega
    have q := bit_iff a (8 * i + j)
    rw [e1, e2] at q
    rw [← q, hb (8 * i + j) (by omega) (by omega)]
    simp
/-- an address with its bits from k on cleared -/
def clr (a : Ad) (k : Nat) : Ad := ⟨a.v6, a.B.mapIdx fun j x => x / 2 ^ (8 * j + 8 - k) * 2 ^ (8 * j + 8 - k)⟩
theorem clr_byt {a : Ad} (h : a.Wf) (k i : Nat) (hi : i < 16) : byt (clr a k) i = byt a i / 2 ^ (8 * i + 8 - k) * 2 ^ (8 * i + 8 - k) := by
  unfold byt clr
  simp only [List.getElem?_mapIdx]
  rw [List.getElem?_eq_getElem (by rw [h.len]; exact hi)]
  rfl
theorem clr_wf {a : Ad} (h : a.Wf) (k : Nat) : (clr a k).Wf := by
  refine ⟨by simp [clr, h.len], fun x hx => ?_⟩
  obtain ⟨i, hi, rfl⟩ := List.getElem_of_mem hx
  simp only [clr, List.getElem_mapIdx]
  refine Nat.lt_of_le_of_lt (Nat.div_mul_le_self _ _) (h.sm _ (List.getElem_mem _))
theorem div_bit (x s t : Nat) : x / 2 ^ s * 2 ^ s / 2 ^ t % 2 = if s ≤ t then x / 2 ^ t % 2 else 0 := by
  split
  · rename_i hle
    obtain ⟨e, rfl⟩ := Nat.exists_eq_add_of_le hle
    rw [Nat.pow_add, ← Nat.div_div_eq_div_mul, Nat.mul_div_cancel _ (Nat.two_pow_pos s), Nat.div_div_eq_div_mul]
  · rename_i hlt
    obtain ⟨e, rfl⟩ := Nat.exists_eq_add_of_le (show t + 1 ≤ s by omega)
    have : 2 ^ (t + 1 + e) = 2 ^ t * (2 * 2 ^ e) := by rw [Nat.pow_add, Nat.pow_add, Nat.pow_one, Nat.mul_assoc]
    rw [this]
    generalize x / (2 ^ t * (2 * 2 ^ e)) = y
    rw [show y * (2 ^ t * (2 * 2 ^ e)) = 2 ^ t * (2 * (y * 2 ^ e)) from by rw [Nat.mul_left_comm, Nat.mul_left_comm y 2], Nat.mul_div_cancel_left _ (Nat.two_pow_pos t)]
    exact Nat.mul_mod_right _ _
theorem clr_bit {a : Ad} (h : a.Wf) (k i : Nat) (hi : i < 128) : bit (clr a k) i = (decide (i < k) && bit a i) := by
  rw [Bool.eq_iff_iff, bit_iff, clr_byt h k (i / 8) (by omega), div_bit]
  simp only [Bool.and_eq_true, decide_eq_true_eq, bit_iff]
  have e : 8 * (i / 8) + 8 - k ≤ 7 - i % 8 ↔ i < k := by omega
  by_cases q : i < k
  · rw [if_pos (e.2 q)]; simp [q]
  · rw [if_neg (fun z => q (e.1 z))]; simp [q]
end Go.Proofs.YtgcdhfpbmcfedaaGreatDoor.pf
end
section
set_option linter.unusedVariables false
namespace Go.Proofs.YtgcdhfpbmcfedaaGreatDoor.pf
theorem or_bit : ∀ x : Fin 256, ∀ s t : Fin 8, ((x.val ||| 2 ^ s.val) / 2 ^ t.val % 2 = 1 ↔ (t = s ∨ x.val / 2 ^ t.val % 2 = 1)) ∧ (x.val ||| 2 ^ s.val) < 256 := by decide +kernel
theorem sub_bit : ∀ x : Fin 256, ∀ s t : Fin 8, x.val / 2 ^ s.val % 2 = 1 → ((x.val - 2 ^ s.val) / 2 ^ t.val % 2 = 1 ↔ (¬ t = s ∧ x.val / 2 ^ t.val % 2 = 1)) := by decide +kernel
/-- a byte with one bit put -/
def bput (x s : Nat) (is : Bool) : Nat := if is then x ||| 2 ^ s else if x / 2 ^ s % 2 = 1 then x - 2 ^ s else x
theorem bput_bit {x s t : Nat} {is : Bool} (hx : x < 256) (hs : s < 8) (ht : t < 8) : (bput x s is / 2 ^ t % 2 = 1 ↔ (if t = s then is = true else x / 2 ^ t % 2 = 1)) ∧ bput x s is < 256 := by
  have h1 := or_bit ⟨x, hx⟩ ⟨s, hs⟩ ⟨t, ht⟩
  have h2 := sub_bit ⟨x, hx⟩ ⟨s, hs⟩ ⟨t, ht⟩
  simp only [Fin.mk.injEq] at h1 h2
  unfold bput
  cases is with
  | true =>
    simp only [if_true]
    refine ⟨?_, h1.2⟩
    rw [h1.1]
    by_cases q : t = s <;> simp [q]
  | false =>
    simp only [Bool.false_eq_true, if_false]
    split
    · rename_i hb
      refine ⟨?_, Nat.lt_of_le_of_lt (Nat.sub_le _ _) hx⟩
      rw [h2 hb]
      by_cases q : t = s <;> simp [q]
    · rename_i hb
      refine ⟨?_, hx⟩
      by_cases q : t = s
      · subst q; simp; omega
      · simp [q]
/-- an address with one bit put -/
def put (a : Ad) (i : Nat) (is : Bool) : Ad := ⟨a.v6, a.B.set (i / 8) (bput (byt a (i / 8)) (7 - i % 8) is)⟩
theorem put_byt {a : Ad} (h : a.Wf) (i : Nat) (hi : i < 128) (is : Bool) (j : Nat) : byt (put a i is) j = if j = i / 8 then bput (byt a (i / 8)) (7 - i % 8) is else byt a j := by
  have hl := h.len
  unfold byt put
  simp only [List.getElem?_set]
  by_cases q : i / 8 = j
  · rw [if_pos q, if_pos (by omega), if_pos q.symm]; rfl
  · rw [if_neg q, if_neg (fun e => q e.symm)]
theorem put_wf {a : Ad} (h : a.Wf) (i : Nat) (hi : i < 128) (is : Bool) : (put a i is).Wf := by
  refine ⟨by simp [put, h.len], fun x hx => ?_⟩
  rcases List.mem_or_eq_of_mem_set hx with q | q
  · exact h.sm x q
  · subst q
    exact (bput_bit (t := 0) (byt_lt h _) (by omega) (by omega)).2
theorem put_bit {a : Ad} (h : a.Wf) (i : Nat) (hi : i < 128) (is : Bool) (j : Nat) (hj : j < 128) : bit (put a i is) j = if j = i then is else bit a j := by
  rw [Bool.eq_iff_iff, bit_iff, put_byt h i hi]
  by_cases q : j / 8 = i / 8
  · rw [if_pos q, (bput_bit (byt_lt h _) (by omega) (by omega)).1]
    by_cases e : j = i
    · subst e; simp
    · rw [if_neg (show ¬ 7 - j % 8 = 7 - i % 8 by omega), if_neg e, bit_iff, q]
  · rw [if_neg q, if_neg (show ¬ j = i by intro e; subst e; exact q rfl), bit_iff]
/-- the prefix of an address's first k bits -/
def ofP (a : Ad) (k : Nat) : Px := ⟨clr a k, (k : Int)⟩
theorem clr_okA {a : Ad} (h : a.Wf) (ho : okA a) (k : Nat) : okA (clr a k) := by
  rw [okA_bits (clr_wf h k)]
  intro i h1 h2
  rw [clr_bit h k i h2, (okA_bits h).1 ho i h1 h2]
  simp
theorem ofP_ok {a : Ad} (h : a.Wf) (ho : okA a) (k : Nat) (hk : k ≤ wid a) : okP (ofP a k) := by
  have hw := (wid_le a).1
  refine ⟨clr_okA h ho k, ⟨by simp [ofP], by show (k : Int) ≤ (wid (clr a k) : Int); rw [wid_of (a := clr a k) (b := a) rfl]; omega⟩, fun i h1 h2 => ?_⟩
  have h2 : i < wid a := h2
  have h1 : (k : Int) ≤ (i : Int) := h1
  show bit (clr a k) i = false
  rw [clr_bit h k i (by omega), decide_eq_false (by omega)]; rfl
/-- bits behind the prefix's are 0, all 128 -/
theorem okP_zero {p : Px} (h : p.a.Wf) (hp : okP p) (i : Nat) (h1 : p.bits ≤ (i : Int)) (h2 : i < 128) : bit p.a i = false := by
  rcases Nat.lt_or_ge i (wid p.a) with q | q
  · exact hp.2.2 i h1 q
  · exact (okA_bits h).1 hp.1 i q h2
theorem px_ext {p q : Px} (hp : p.a.Wf) (hq : q.a.Wf) (kp : okP p) (kq : okP q) (hv : p.a.v6 = q.a.v6) (hb : p.bits = q.bits) (h : ∀ i : Nat, (i : Int) < p.bits → bit p.a i = bit q.a i) : p = q := by
  have e : p.a = q.a := by
    refine Ad.ext_bit hp hq hv fun i hi => ?_
    by_cases c : (i : Int) < p.bits
    · exact h i c
    · rw [okP_zero hp kp i (by omega) hi, okP_zero hq kq i (by omega) hi]
  cases p; cases q
  simp at e hb
  simp [e, hb]
theorem of_has {a : Ad} (h : a.Wf) (ho : okA a) (k : Nat) (hk : k ≤ wid a) : has (ofP a k) a := by
  have hw := (wid_le a).1
  refine ⟨ofP_ok h ho k hk, ho, rfl, fun i hi => ?_⟩
  have hi : (i : Int) < (k : Int) := hi
  show bit a i = bit (clr a k) i
  rw [clr_bit h k i (by omega), decide_eq_true (by omega)]; simp
theorem covers_self {p : Px} (hp : okP p) : covers p p := ⟨hp, Int.le_refl _, hp, hp.1, rfl, fun _ _ => rfl⟩
theorem covers_has {p q : Px} (hc : covers p q) {b : Ad} (hb : has q b) : has p b :=
  ⟨hc.2.2.1, hb.2.1, hb.2.2.1.trans hc.2.2.2.2.1, fun i hi => (hb.2.2.2 i (by have := hc.2.1; omega)).trans (hc.2.2.2.2.2 i hi)⟩
theorem covers_both {p q : Px} (hp : p.a.Wf) (hq : q.a.Wf) (h1 : covers p q) (h2 : covers q p) : p = q :=
  px_ext hp hq h2.1 h1.1 h1.2.2.2.2.1.symm (by have := h1.2.1; have := h2.2.1; omega) fun i hi => (h1.2.2.2.2.2 i hi).symm
/-- two that share an address: one covers the other -/
theorem share {p q : Px} {b : Ad} (hp : has p b) (hq : has q b) : covers p q ∨ covers q p := by
  have hv : p.a.v6 = q.a.v6 := hp.2.2.1.symm.trans hq.2.2.1
  rcases Int.le_total p.bits q.bits with h | h
  · exact .inl ⟨hq.1, h, hp.1, hq.1.1, hv.symm, fun i hi => (hq.2.2.2 i (by omega)).symm.trans (hp.2.2.2 i hi)⟩
  · exact .inr ⟨hp.1, h, hq.1, hp.1.1, hv, fun i hi => (hp.2.2.2 i (by omega)).symm.trans (hq.2.2.2 i hi)⟩
theorem first_has {p q : Px} (h : has p q.a) (hq : okP q) : covers p q ∨ covers q p := share h ⟨hq, hq.1, rfl, fun _ _ => rfl⟩
/-- the halves -/
def half0 (p : Px) : Px := ⟨p.a, p.bits + 1⟩
def half1 (p : Px) : Px := ⟨put p.a p.bits.toNat true, p.bits + 1⟩
section
variable {p : Px}
theorem half_place (hp : okP p) (hb : ¬ p.bits = (wid p.a : Int)) : ∃ k : Nat, p.bits = (k : Int) ∧ p.bits.toNat = k ∧ k < wid p.a ∧ k < 128 := by
  obtain ⟨_, ⟨h0, h1⟩, _⟩ := hp
  have := (wid_le p.a).1
  exact ⟨p.bits.toNat, by omega, rfl, by omega, by omega⟩
theorem half0_ok (h : p.a.Wf) (hp : okP p) (hb : ¬ p.bits = (wid p.a : Int)) : okP (half0 p) := by
  obtain ⟨k, e1, _, h1, _⟩ := half_place hp hb
  exact ⟨hp.1, ⟨by show (0 : Int) ≤ p.bits + 1; omega, by show p.bits + 1 ≤ (wid p.a : Int); omega⟩, fun i hi h2 => hp.2.2 i (by have hi : p.bits + 1 ≤ (i : Int) := hi; omega) h2⟩
theorem half1_bit (h : p.a.Wf) (hp : okP p) (hb : ¬ p.bits = (wid p.a : Int)) (i : Nat) (hi : i < 128) : bit (half1 p).a i = if (i : Int) = p.bits then true else bit p.a i := by
  obtain ⟨k, e1, e2, h1, h2⟩ := half_place hp hb
  show bit (put p.a p.bits.toNat true) i = _
  rw [put_bit h _ (by omega) _ _ hi]
  by_cases q : i = p.bits.toNat
  · rw [if_pos q, if_pos (by omega)]
  · rw [if_neg q, if_neg (by omega)]
theorem half1_wf (h : p.a.Wf) (hp : okP p) (hb : ¬ p.bits = (wid p.a : Int)) : (half1 p).a.Wf := by
  obtain ⟨k, e1, e2, h1, h2⟩ := half_place hp hb
  exact put_wf h _ (by omega) _
theorem half1_ok (h : p.a.Wf) (hp : okP p) (hb : ¬ p.bits = (wid p.a : Int)) : okP (half1 p) := by
  obtain ⟨k, e1, e2, h1, h2⟩ := half_place hp hb
  have hw : wid (half1 p).a = wid p.a := wid_of rfl
  have hw2 := (wid_le p.a).1
  refine ⟨?_, ⟨by show (0 : Int) ≤ p.bits + 1; omega, by show p.bits + 1 ≤ (wid (half1 p).a : Int); rw [hw]; omega⟩, fun i hi hj => ?_⟩
  · rw [okA_bits (half1_wf h hp hb)]
    intro i hi hj
    rw [hw] at hi
    rw [half1_bit h hp hb i hj, if_neg (by omega)]
    exact (okA_bits h).1 hp.1 i hi hj
  · have hi : p.bits + 1 ≤ (i : Int) := hi
    rw [hw] at hj
    rw [half1_bit h hp hb i (by omega), if_neg (by omega)]
    exact hp.2.2 i (by omega) hj
theorem half0_has (h : p.a.Wf) (hp : okP p) (hb : ¬ p.bits = (wid p.a : Int)) (b : Ad) : has (half0 p) b ↔ has p b ∧ bit b p.bits.toNat = false := by
  obtain ⟨k, e1, e2, h1, h2⟩ := half_place hp hb
  constructor
  · rintro ⟨_, g2, g3, g4⟩
    refine ⟨⟨hp, g2, g3, fun i hi => g4 i (by show (i : Int) < p.bits + 1; omega)⟩, ?_⟩
    have := g4 k (by show (k : Int) < p.bits + 1; omega)
    rw [e2, this]
    exact okP_zero h hp k (by omega) h2
  · rintro ⟨⟨_, g2, g3, g4⟩, g5⟩
    refine ⟨half0_ok h hp hb, g2, g3, fun i hi => ?_⟩
    have hi : (i : Int) < p.bits + 1 := hi
    by_cases q : (i : Int) < p.bits
    · exact g4 i q
    · obtain rfl : i = k := by omega
      rw [e2] at g5
      rw [g5]
      exact (okP_zero h hp i (by omega) h2).symm
theorem half1_has (h : p.a.Wf) (hp : okP p) (hb : ¬ p.bits = (wid p.a : Int)) (b : Ad) : has (half1 p) b ↔ has p b ∧ bit b p.bits.toNat = true := by
  obtain ⟨k, e1, e2, h1, h2⟩ := half_place hp hb
  have hw2 := (wid_le p.a).1
  constructor
  · rintro ⟨_, g2, g3, g4⟩
    have g4 : ∀ i : Nat, (i : Int) < p.bits + 1 → bit b i = bit (half1 p).a i := g4
    refine ⟨⟨hp, g2, g3, fun i hi => ?_⟩, ?_⟩
    · rw [g4 i (by omega), half1_bit h hp hb i (by omega), if_neg (by omega)]
    · rw [e2, g4 k (by omega), half1_bit h hp hb k h2, if_pos (by omega)]
  · rintro ⟨⟨_, g2, g3, g4⟩, g5⟩
    refine ⟨half1_ok h hp hb, g2, g3, fun i hi => ?_⟩
    have hi : (i : Int) < p.bits + 1 := hi
    rw [half1_bit h hp hb i (by omega)]
    by_cases q : (i : Int) < p.bits
    · rw [if_neg (by omega)]; exact g4 i q
    · obtain rfl : i = k := by omega
      rw [if_pos (by omega), ← e2]; exact g5
theorem half_apart (h : p.a.Wf) (hp : okP p) (hb : ¬ p.bits = (wid p.a : Int)) : covers p (half0 p) ∧ covers p (half1 p) ∧ ¬ covers (half0 p) (half1 p) ∧ ¬ covers (half1 p) (half0 p) := by
  have o0 := half0_ok h hp hb
  have o1 := half1_ok h hp hb
  obtain ⟨k, e1, e2, h1, h2⟩ := half_place hp hb
  have b1 := half1_bit h hp hb k h2
  rw [if_pos (by omega)] at b1
  have b0 := okP_zero h hp k (by omega) h2
  have hw2 := (wid_le p.a).1
  refine ⟨⟨o0, by show p.bits ≤ p.bits + 1; omega, hp, hp.1, rfl, fun _ _ => rfl⟩, ⟨o1, by show p.bits ≤ p.bits + 1; omega, hp, o1.1, rfl, fun i hi => ?_⟩, fun c => ?_, fun c => ?_⟩
  · rw [half1_bit h hp hb i (by omega), if_neg (by omega)]
  · have := c.2.2.2.2.2 k (by show (k : Int) < p.bits + 1; omega)
    rw [b1, show bit (half0 p).a k = false from b0] at this
    cases this
  · have := c.2.2.2.2.2 k (by show (k : Int) < p.bits + 1; omega)
    rw [b1, show bit (half0 p).a k = false from b0] at this
    cases this
end
/-- bytes, in their order -/
def cmpB : List Nat → List Nat → Int
  | x :: xs, y :: ys => if x < y then -1 else if y < x then 1 else cmpB xs ys
  | _, _ => 0
def cmp (p q : Px) : Int :=
  if p.a.v6 = q.a.v6 then (if ¬ cmpB p.a.B q.a.B = 0 then cmpB p.a.B q.a.B else if p.bits < q.bits then -1 else if q.bits < p.bits then 1 else 0)
  else if q.a.v6 then -1 else 1
theorem cmpB_self : ∀ l : List Nat, cmpB l l = 0
  | [] => rfl
  | x :: r => by simp [cmpB, cmpB_self r]
theorem cmpB_set : ∀ (l : List Nat) (i v x : Nat), l[i]? = some x → x < v → cmpB l (l.set i v) = -1
  | [], i, v, x, h, _ => by simp at h
  | y :: r, 0, v, x, h, hv => by simp at h; subst h; simp [cmpB, hv]
  | y :: r, i + 1, v, x, h, hv => by
    simp only [List.getElem?_cons_succ] at h
    simp only [List.set_cons_succ, cmpB, Nat.lt_irrefl, if_false]
    exact cmpB_set r i v x h hv
theorem or_more : ∀ x : Fin 256, ∀ s : Fin 8, ¬ x.val / 2 ^ s.val % 2 = 1 → x.val < (x.val ||| 2 ^ s.val) := by decide +kernel
theorem half_cmp {p : Px} (h : p.a.Wf) (hp : okP p) (hb : ¬ p.bits = (wid p.a : Int)) : cmp (half0 p) (half1 p) = -1 ∧ cmp p (half0 p) = -1 := by
  obtain ⟨k, e1, e2, h1, h2⟩ := half_place hp hb
  constructor
  · have hlt : byt p.a (k / 8) < bput (byt p.a (k / 8)) (7 - k % 8) true := by
      have b0 := okP_zero h hp k (by omega) h2
      have n0 : ¬ byt p.a (k / 8) / 2 ^ (7 - k % 8) % 2 = 1 := by rw [← bit_iff, b0]; simp
      exact or_more ⟨_, byt_lt h _⟩ ⟨7 - k % 8, by omega⟩ n0
    have hc := cmpB_set p.a.B (k / 8) _ _ (byt_some h (by omega)) hlt
    have e : (half1 p).a.B = p.a.B.set (k / 8) (bput (byt p.a (k / 8)) (7 - k % 8) true) := by show (put p.a p.bits.toNat true).B = _; rw [e2]; rfl
    unfold cmp
    rw [if_pos (show (half0 p).a.v6 = (half1 p).a.v6 from rfl), e, show (half0 p).a.B = p.a.B from rfl, hc]
    rfl
  · unfold cmp
    rw [if_pos (show p.a.v6 = (half0 p).a.v6 from rfl), show (half0 p).a.B = p.a.B from rfl, cmpB_self]
    simp only [not_true, if_false]
    exact if_pos (show p.bits < p.bits + 1 by omega)
end Go.Proofs.YtgcdhfpbmcfedaaGreatDoor.pf
end
section
set_option linter.unusedVariables false
set_option linter.unusedSimpArgs false
namespace Go.Proofs.YtgcdhfpbmcfedaaGreatDoor.pf
/-- some prefix of the list has the address -/
def had (l : List Px) (b : Ad) : Prop := ∃ p ∈ l, has p b
/-- prefixes that may be, of which none covers another one and no two are the halves of one -/
structure Nrm (l : List Px) : Prop where
  ok : ∀ p ∈ l, p.a.Wf ∧ okP p
  cov : ∀ p ∈ l, ∀ q ∈ l, covers p q → p = q
  hal : ∀ p : Px, p.a.Wf → okP p → ¬ p.bits = (wid p.a : Int) → ¬ (half0 p ∈ l ∧ half1 p ∈ l)
theorem covers_trans {p q r : Px} (h : covers p q) (k : covers q r) : covers p r := ⟨k.1, by have := h.2.1; have := k.2.1; omega, by
  have hb := covers_has h k.2.2
  exact hb⟩
/-- a prefix all of whose addresses are had is covered by one of the list -/
theorem inside {l : List Px} (hl : Nrm l) : ∀ (n : Nat) (p : Px), p.a.Wf → okP p → (n : Int) = (wid p.a : Int) - p.bits → (∀ b : Ad, b.Wf → has p b → had l b) → ∃ q ∈ l, covers q p
  | 0, p, hw, ho, hn, hb => by
    obtain ⟨q, hq, hh⟩ := hb p.a hw ⟨ho, ho.1, rfl, fun _ _ => rfl⟩
    refine ⟨q, hq, ho, ?_, hh⟩
    have h1 := hh.1.2.1.2
    rw [wid_of hh.2.2.1.symm] at h1
    omega
  | n + 1, p, hw, ho, hn, hb => by
    have hne : ¬ p.bits = (wid p.a : Int) := by omega
    have o0 := half0_ok hw ho hne
    have o1 := half1_ok hw ho hne
    have w1 := half1_wf hw ho hne
    have hw1 : wid (half1 p).a = wid p.a := wid_of rfl
    obtain ⟨q0, m0, c0⟩ := inside hl n (half0 p) hw o0 (by show (n : Int) = (wid p.a : Int) - (p.bits + 1); omega) (fun b hbw hh => hb b hbw ((half0_has hw ho hne b).1 hh).1)
    obtain ⟨q1, m1, c1⟩ := inside hl n (half1 p) w1 o1 (by show (n : Int) = (wid (half1 p).a : Int) - (p.bits + 1); rw [hw1]; omega) (fun b hbw hh => hb b hbw ((half1_has hw ho hne b).1 hh).1)
    have b0 : q0.bits ≤ p.bits + 1 := c0.2.1
    have b1 : q1.bits ≤ p.bits + 1 := c1.2.1
    have ob := ho.2.1
    have hwl := wid_le p.a
    by_cases e0 : q0.bits ≤ p.bits
    · exact ⟨q0, m0, ho, e0, c0.2.2⟩
    · by_cases e1 : q1.bits ≤ p.bits
      · refine ⟨q1, m1, ho, e1, c1.2.2.1, ho.1, c1.2.2.2.2.1, fun i hi => ?_⟩
        have := c1.2.2.2.2.2 i hi
        rw [half1_bit hw ho hne i (by omega), if_neg (by omega)] at this
        exact this
      · exfalso
        have q0e : q0 = half0 p := px_ext (hl.ok q0 m0).1 hw (hl.ok q0 m0).2 o0 c0.2.2.2.2.1.symm (by show q0.bits = p.bits + 1; omega) (fun i hi => (c0.2.2.2.2.2 i hi).symm)
        have q1e : q1 = half1 p := px_ext (hl.ok q1 m1).1 w1 (hl.ok q1 m1).2 o1 c1.2.2.2.2.1.symm (by show q1.bits = p.bits + 1; omega) (fun i hi => (c1.2.2.2.2.2 i hi).symm)
        exact hl.hal p hw ho hne ⟨q0e ▸ m0, q1e ▸ m1⟩
theorem inside' {l : List Px} (hl : Nrm l) (p : Px) (hw : p.a.Wf) (ho : okP p) (h : ∀ b : Ad, b.Wf → has p b → had l b) : ∃ q ∈ l, covers q p :=
  inside hl ((wid p.a : Int) - p.bits).toNat p hw ho (by have := ho.2.1; omega) h
/-- of the same addresses there is one such list, but for its order -/
theorem nrm_sub {l m : List Px} (hl : Nrm l) (hm : Nrm m) (h : ∀ b : Ad, b.Wf → (had l b ↔ had m b)) : ∀ p ∈ l, p ∈ m := fun p hp => by
  obtain ⟨hw, ho⟩ := hl.ok p hp
  obtain ⟨q, hq, hc⟩ := inside' hm p hw ho (fun b hb hh => (h b hb).1 ⟨p, hp, hh⟩)
  obtain ⟨qw, qo⟩ := hm.ok q hq
  obtain ⟨r, hr, hd⟩ := inside' hl q qw qo (fun b hb hh => (h b hb).2 ⟨q, hq, hh⟩)
  have e := hl.cov r hr p hp (covers_trans hd hc)
  subst e
  rw [covers_both hw qw hd hc]; exact hq
theorem nrm_same {l m : List Px} (hl : Nrm l) (hm : Nrm m) (h : ∀ b : Ad, b.Wf → (had l b ↔ had m b)) (p : Px) : p ∈ l ↔ p ∈ m :=
  ⟨nrm_sub hl hm h p, nrm_sub hm hl (fun b hb => (h b hb).symm) p⟩
theorem cmpB_asymm : ∀ (l m : List Nat), cmpB l m = -1 → cmpB m l = 1
  | [], _, h => by simp [cmpB] at h
  | _ :: _, [], h => by simp [cmpB] at h
  | x :: r, y :: t, h => by
    unfold cmpB at h ⊢
    by_cases h1 : x < y
    · rw [if_neg (by omega), if_pos h1]
    · rw [if_neg h1] at h
      by_cases h2 : y < x
      · rw [if_pos h2] at h; omega
      · rw [if_neg h2] at h
        rw [if_neg h2, if_neg h1]; exact cmpB_asymm r t h
theorem cmpB_flip : ∀ (l m : List Nat), cmpB l m = 0 → cmpB m l = 0
  | [], [], _ => rfl
  | [], _ :: _, _ => by simp [cmpB]
  | _ :: _, [], _ => by simp [cmpB]
  | x :: r, y :: t, h => by
    unfold cmpB at h ⊢
    by_cases h1 : x < y
    · rw [if_pos h1] at h; omega
    · rw [if_neg h1] at h
      by_cases h2 : y < x
      · rw [if_pos h2] at h; omega
      · rw [if_neg h2] at h
        rw [if_neg h2, if_neg h1]; exact cmpB_flip r t h
theorem cmpB_zero : ∀ (l m : List Nat), cmpB l m = 0 → l.length = m.length → l = m
  | [], [], _, _ => rfl
  | [], _ :: _, _, h => by simp at h
  | _ :: _, [], _, h => by simp at h
  | x :: r, y :: t, h, hl => by
    unfold cmpB at h
    by_cases h1 : x < y
    · rw [if_pos h1] at h; omega
    · rw [if_neg h1] at h
      by_cases h2 : y < x
      · rw [if_pos h2] at h; omega
      · rw [if_neg h2] at h
        rw [show x = y from by omega, cmpB_zero r t h (by simpa using hl)]
theorem cmp_self (p : Px) : cmp p p = 0 := by unfold cmp; simp [cmpB_self]
theorem cmp_asymm {p q : Px} (h : cmp p q = -1) : ¬ cmp q p = -1 := by
  unfold cmp at h ⊢
  by_cases hv : p.a.v6 = q.a.v6
  · rw [if_pos hv] at h
    rw [if_pos hv.symm]
    by_cases h0 : cmpB p.a.B q.a.B = 0
    · rw [if_neg (fun z => z h0)] at h
      have h0' : cmpB q.a.B p.a.B = 0 := cmpB_flip _ _ h0
      rw [if_neg (fun z => z h0')]
      split at h
      · rw [if_neg (by omega)]; split <;> omega
      · split at h <;> omega
    · rw [if_pos h0] at h
      have := cmpB_asymm _ _ h
      rw [if_pos (by omega)]; omega
  · rw [if_neg hv] at h
    rw [if_neg (fun z => hv z.symm)]
    cases hp : p.a.v6 <;> cases hq : q.a.v6 <;> simp_all
/-- two lists in order with the same prefixes are one -/
theorem sorted_same : ∀ (l m : List Px), l.Pairwise (fun p q => cmp p q = -1) → m.Pairwise (fun p q => cmp p q = -1) → (∀ p, p ∈ l ↔ p ∈ m) → l = m
  | [], [], _, _, _ => rfl
  | [], q :: m, _, _, h => by have := (h q).2 (by simp); simp at this
  | p :: l, [], _, _, h => by have := (h p).1 (by simp); simp at this
  | p :: l, q :: m, hl, hm, h => by
    rw [List.pairwise_cons] at hl hm
    have e : p = q := by
      rcases List.mem_cons.1 ((h p).1 (by simp)) with c | c
      · exact c
      · rcases List.mem_cons.1 ((h q).2 (by simp)) with d | d
        · exact d.symm
        · exact absurd (hm.1 p c) (cmp_asymm (hl.1 q d))
    subst e
    have np : ∀ (t : List Px), (∀ x ∈ t, cmp p x = -1) → p ∉ t := fun t ht hx => by have := ht p hx; rw [cmp_self] at this; omega
    rw [sorted_same l m hl.2 hm.2 (fun x => ⟨fun hx => by
      rcases List.mem_cons.1 ((h x).1 (List.mem_cons_of_mem _ hx)) with c | c
      · subst c; exact absurd hx (np l hl.1)
      · exact c, fun hx => by
      rcases List.mem_cons.1 ((h x).2 (List.mem_cons_of_mem _ hx)) with c | c
      · subst c; exact absurd hx (np m hm.1)
      · exact c⟩)]
/-- THE MERGED LIST IS ONE -/
theorem nrm_one {l m : List Px} (hl : Nrm l) (hm : Nrm m) (sl : l.Pairwise (fun p q => cmp p q = -1)) (sm : m.Pairwise (fun p q => cmp p q = -1)) (h : ∀ b : Ad, b.Wf → (had l b ↔ had m b)) : l = m :=
  sorted_same l m sl sm (nrm_same hl hm h)
end Go.Proofs.YtgcdhfpbmcfedaaGreatDoor.pf
end
section
set_option linter.unusedVariables false
set_option linter.unusedSimpArgs false
namespace Go.Proofs.YtgcdhfpbmcfedaaGreatDoor.pf
/-- the number of bytes, the highest first -/
def vb : List Nat → Nat
  | [] => 0
  | x :: r => x * 256 ^ r.length + vb r
theorem vb_lt : ∀ (l : List Nat), (∀ x ∈ l, x < 256) → vb l < 256 ^ l.length
  | [], _ => by simp [vb]
  | x :: r, h => by
    have ih := vb_lt r (fun y hy => h y (List.mem_cons_of_mem _ hy))
    have hx := h x (by simp)
    rw [vb, List.length_cons, Nat.pow_succ]
    have : x * 256 ^ r.length + 256 ^ r.length ≤ 256 * 256 ^ r.length := by
      rw [← Nat.succ_mul]; exact Nat.mul_le_mul_right _ hx
    rw [Nat.mul_comm (256 ^ r.length) 256]
    omega
theorem vb_at : ∀ (l : List Nat) (j : Nat), (∀ x ∈ l, x < 256) → j < l.length → vb l / 256 ^ (l.length - 1 - j) % 256 = l[j]?.getD 0
  | [], j, _, h => by simp at h
  | x :: r, 0, h, _ => by
    have hx := h x (by simp)
    have hr := vb_lt r (fun y hy => h y (List.mem_cons_of_mem _ hy))
    rw [show (x :: r).length - 1 - 0 = r.length from by simp, vb, Nat.mul_comm x, Nat.mul_add_div (Nat.pow_pos (by decide)), Nat.div_eq_of_lt hr, Nat.add_zero, Nat.mod_eq_of_lt hx]
    rfl
  | x :: r, j + 1, h, hj => by
    have hl : j < r.length := by simpa using hj
    have ih := vb_at r j (fun y hy => h y (List.mem_cons_of_mem _ hy)) hl
    rw [show (x :: r).length - 1 - (j + 1) = r.length - 1 - j from by simp; omega, vb]
    obtain ⟨d, hd⟩ : ∃ d, r.length = (r.length - 1 - j) + (d + 1) := ⟨j, by omega⟩
    have e : x * 256 ^ r.length = 256 ^ (r.length - 1 - j) * (x * 256 ^ d * 256) := by
      conv => lhs; rw [hd, Nat.pow_add, Nat.pow_succ]
      rw [Nat.mul_left_comm, Nat.mul_assoc x]
    rw [e, Nat.mul_add_div (Nat.pow_pos (by decide)), Nat.mul_add_mod_self_right, ih]
    rfl
theorem vb_inj : ∀ (l m : List Nat), (∀ x ∈ l, x < 256) → (∀ x ∈ m, x < 256) → l.length = m.length → (cmpB l m = -1 ∧ vb l < vb m) ∨ (cmpB l m = 1 ∧ vb m < vb l) ∨ (cmpB l m = 0 ∧ vb l = vb m ∧ l = m)
  | [], [], _, _, _ => .inr (.inr ⟨rfl, rfl, rfl⟩)
  | [], _ :: _, _, _, h => by simp at h
  | _ :: _, [], _, _, h => by simp at h
  | x :: r, y :: t, hl, hm, h => by
    have hlen : r.length = t.length := by simpa using h
    have hr := vb_lt r (fun z hz => hl z (List.mem_cons_of_mem _ hz))
    have ht := vb_lt t (fun z hz => hm z (List.mem_cons_of_mem _ hz))
    have ih := vb_inj r t (fun z hz => hl z (List.mem_cons_of_mem _ hz)) (fun z hz => hm z (List.mem_cons_of_mem _ hz)) hlen
    unfold cmpB vb
    rw [hlen] at hr ⊢
    generalize 256 ^ t.length = P at *
    have mono : ∀ a b : Nat, a < b → a * P + P ≤ b * P := fun a b hab => by rw [← Nat.succ_mul]; exact Nat.mul_le_mul_right _ hab
    by_cases c1 : x < y
    · have := mono x y c1
      exact .inl ⟨if_pos c1, by omega⟩
    · by_cases c2 : y < x
      · have := mono y x c2
        exact .inr (.inl ⟨by rw [if_neg c1, if_pos c2], by omega⟩)
      · obtain rfl : x = y := by omega
        rw [if_neg c1, if_neg c2]
        rcases ih with ⟨q, v⟩ | ⟨q, v⟩ | ⟨q, v, e⟩
        · exact .inl ⟨q, by omega⟩
        · exact .inr (.inl ⟨q, by omega⟩)
        · exact .inr (.inr ⟨q, by rw [v], by rw [e]⟩)
/-- an address's number -/
def nA (a : Ad) : Nat := vb a.B
@[irreducible] def MM : Nat := 2 ^ 128
theorem MM_pos : 0 < MM := by unfold MM; decide
theorem nA_lt {a : Ad} (h : a.Wf) : nA a < 2 ^ 128 := by
  have := vb_lt a.B h.sm
  rw [h.len] at this
  exact this
theorem nA_MM {a : Ad} (h : a.Wf) : nA a < MM := by unfold MM; exact nA_lt h
theorem bit_n {a : Ad} (h : a.Wf) (i : Nat) (hi : i < 128) : bit a i = (nA a).testBit (127 - i) := by
  have hb := vb_at a.B (i / 8) h.sm (by rw [h.len]; omega)
  rw [h.len] at hb
  have hq : byt a (i / 8) = nA a / 256 ^ (16 - 1 - i / 8) % 256 := hb.symm
  unfold bit
  rw [hq, Nat.testBit_eq_decide_div_mod_eq]
  have e : 127 - i = 8 * (16 - 1 - i / 8) + (7 - i % 8) := by omega
  rw [e, Nat.pow_add, ← Nat.div_div_eq_div_mul, show (2 : Nat) ^ (8 * (16 - 1 - i / 8)) = 256 ^ (16 - 1 - i / 8) from by rw [Nat.pow_mul]]
  generalize nA a / 256 ^ (16 - 1 - i / 8) = X
  obtain ⟨t, ht⟩ : ∃ t, 7 - i % 8 = t ∧ t < 8 := ⟨_, rfl, by omega⟩
  rw [ht.1]
  have hm := Nat.testBit_mod_two_pow X 8 t
  rw [Nat.testBit_eq_decide_div_mod_eq, Nat.testBit_eq_decide_div_mod_eq] at hm
  rw [show (256 : Nat) = 2 ^ 8 from rfl, hm]
  simp [ht.2]
theorem pre_iff {a b : Ad} (ha : a.Wf) (hb : b.Wf) (k : Nat) (hk : k ≤ 128) : (∀ i, i < k → bit a i = bit b i) ↔ nA a / 2 ^ (128 - k) = nA b / 2 ^ (128 - k) := by
  constructor
  · intro h
    refine Nat.eq_of_testBit_eq fun j => ?_
    rw [Nat.testBit_div_two_pow, Nat.testBit_div_two_pow]
    rcases Nat.lt_or_ge (j + (128 - k)) 128 with q | q
    · have := h (127 - (j + (128 - k))) (by omega)
      rw [bit_n ha _ (by omega), bit_n hb _ (by omega), show 127 - (127 - (j + (128 - k))) = j + (128 - k) from by omega] at this
      exact this
    · have p : 2 ^ 128 ≤ 2 ^ (j + (128 - k)) := Nat.pow_le_pow_right (by omega) q
      rw [Nat.testBit_lt_two_pow (Nat.lt_of_lt_of_le (nA_lt ha) p), Nat.testBit_lt_two_pow (Nat.lt_of_lt_of_le (nA_lt hb) p)]
  · intro h i hi
    rw [bit_n ha _ (by omega), bit_n hb _ (by omega)]
    have := congrArg (fun x => x.testBit (127 - i - (128 - k))) h
    simp only [Nat.testBit_div_two_pow] at this
    rw [show 127 - i - (128 - k) + (128 - k) = 127 - i from by omega] at this
    exact this
/-- the order as a number -/
def KP (p : Px) : Int := ((if p.a.v6 then (MM : Int) else 0) + (nA p.a : Int)) * 1000 + p.bits
theorem bits_le {p : Px} (hp : okP p) : 0 ≤ p.bits ∧ p.bits ≤ 128 := by have := (wid_le p.a).1; have := hp.2.1; omega
theorem cmp_key {p q : Px} (hp : p.a.Wf) (hq : q.a.Wf) (op : okP p) (oq : okP q) : (cmp p q = -1 ∧ KP p < KP q) ∨ (cmp p q = 1 ∧ KP q < KP p) ∨ (cmp p q = 0 ∧ KP p = KP q ∧ p = q) := by
  have bp := bits_le op
  have bq := bits_le oq
  have np := nA_MM hp
  have nq := nA_MM hq
  have hm := vb_inj p.a.B q.a.B hp.sm hq.sm (hp.len.trans hq.len.symm)
  unfold KP cmp
  change (_ ∧ nA p.a < nA q.a) ∨ (_ ∧ nA q.a < nA p.a) ∨ (_ ∧ nA p.a = nA q.a ∧ _) at hm
  generalize MM = M at *
  by_cases hv : p.a.v6 = q.a.v6
  · rw [if_pos hv, hv]
    rcases hm with ⟨e, v⟩ | ⟨e, v⟩ | ⟨e, v, eb⟩
    · left; rw [e]; refine ⟨rfl, ?_⟩; split <;> omega
    · right; left; rw [e]; refine ⟨rfl, ?_⟩; split <;> omega
    · rw [e, if_neg (by simp)]
      by_cases c1 : p.bits < q.bits
      · left; rw [if_pos c1]; refine ⟨rfl, ?_⟩; split <;> omega
      · by_cases c2 : q.bits < p.bits
        · right; left; rw [if_neg c1, if_pos c2]; refine ⟨rfl, ?_⟩; split <;> omega
        · right; right
          rw [if_neg c1, if_neg c2]
          have eb2 : p.bits = q.bits := by omega
          refine ⟨rfl, by rw [v, eb2], ?_⟩
          have : p.a = q.a := Ad.eq_of hv eb
          cases p; cases q; simp at this eb2; simp [this, eb2]
  · rw [if_neg hv]
    cases h1 : p.a.v6 <;> cases h2 : q.a.v6
    · exact absurd (h1.trans h2.symm) hv
    · left; refine ⟨rfl, ?_⟩; simp; omega
    · right; left; refine ⟨rfl, ?_⟩; simp; omega
    · exact absurd (h1.trans h2.symm) hv
theorem key_inj {p q : Px} (hp : p.a.Wf) (hq : q.a.Wf) (op : okP p) (oq : okP q) (h : KP p = KP q) : p = q := by
  rcases cmp_key hp hq op oq with ⟨_, v⟩ | ⟨_, v⟩ | ⟨_, _, e⟩
  · omega
  · omega
  · exact e
theorem key_lt {p q : Px} (hp : p.a.Wf) (hq : q.a.Wf) (op : okP p) (oq : okP q) : cmp p q = -1 ↔ KP p < KP q := by
  rcases cmp_key hp hq op oq with ⟨c, v⟩ | ⟨c, v⟩ | ⟨c, v, _⟩
  · exact ⟨fun _ => v, fun _ => c⟩
  · exact ⟨fun z => by omega, fun z => by omega⟩
  · exact ⟨fun z => by omega, fun z => by omega⟩
/-- the size of a prefix's stretch -/
def siz (p : Px) : Nat := 2 ^ (128 - p.bits.toNat)
theorem has_n {p : Px} {a : Ad} (hp : p.a.Wf) (ha : a.Wf) (op : okP p) (oa : okA a) : has p a ↔ a.v6 = p.a.v6 ∧ nA a / siz p = nA p.a / siz p := by
  have bp := bits_le op
  have h := pre_iff ha hp p.bits.toNat (by omega)
  unfold siz
  rw [← h]
  constructor
  · rintro ⟨_, _, q3, q4⟩
    exact ⟨q3, fun i hi => q4 i (by omega)⟩
  · rintro ⟨q3, q4⟩
    exact ⟨op, oa, q3, fun i hi => q4 i (by omega)⟩
theorem first_n {p : Px} (hp : p.a.Wf) (op : okP p) : nA p.a % siz p = 0 := by
  have bp := bits_le op
  refine Nat.eq_of_testBit_eq fun j => ?_
  unfold siz
  rw [Nat.testBit_mod_two_pow, Nat.zero_testBit]
  by_cases c : j < 128 - p.bits.toNat
  · have := okP_zero hp op (127 - j) (by omega) (by omega)
    rw [bit_n hp _ (by omega), show 127 - (127 - j) = j from by omega] at this
    simp [this]
  · simp [c]
theorem first_le {p : Px} {a : Ad} (hp : p.a.Wf) (ha : a.Wf) (h : has p a) : nA p.a ≤ nA a := by
  have h1 := ((has_n hp ha h.1 h.2.1).1 h).2
  have h2 := first_n hp h.1
  have e1 := Nat.div_add_mod (nA p.a) (siz p)
  have e2 := Nat.div_add_mod (nA a) (siz p)
  rw [h1] at e2
  omega
/-- one that is not ahead of another one, and covers it, is it -/
theorem cover_eq {p x : Px} (hp : p.a.Wf) (hx : x.a.Wf) (h : covers p x) (hk : KP x ≤ KP p) : p = x := by
  have h1 := first_le hp hx h.2.2
  have hv : x.a.v6 = p.a.v6 := h.2.2.2.2.1
  have hb := h.2.1
  refine key_inj hp hx h.2.2.1 h.1 ?_
  unfold KP at hk ⊢
  rw [hv] at hk ⊢
  have b1 := bits_le h.1
  have b2 := bits_le h.2.2.1
  split at hk <;> split <;> omega
/-- what lies between two of a prefix's is had by it -/
theorem between {q x l p : Px} (hq : q.a.Wf) (hx : x.a.Wf) (hl : l.a.Wf) (hp : p.a.Wf) (ox : okP x) (ol : okP l) (op : okP p) (h1 : has q x.a) (h2 : has q p.a) (k1 : KP x ≤ KP l) (k2 : KP l ≤ KP p) : has q l.a := by
  have g1 := (has_n hq hx h1.1 ox.1).1 h1
  have g2 := (has_n hq hp h1.1 op.1).1 h2
  have b1 := bits_le ox
  have b2 := bits_le ol
  have b3 := bits_le op
  have n1 := nA_MM hx
  have n2 := nA_MM hl
  have n3 := nA_MM hp
  unfold KP at k1 k2
  rw [g1.1] at k1
  rw [g2.1] at k2
  generalize MM = M at *
  have hlv : l.a.v6 = q.a.v6 := by
    cases h5 : l.a.v6 <;> cases h6 : q.a.v6 <;> simp [h5, h6] at k1 k2 ⊢ <;> omega
  rw [hlv] at k1 k2
  have m1 : nA x.a ≤ nA l.a := by split at k1 <;> omega
  have m2 : nA l.a ≤ nA p.a := by split at k2 <;> omega
  refine (has_n hq hl h1.1 ol.1).2 ⟨hlv, ?_⟩
  have d1 := Nat.div_le_div_right (c := siz q) m1
  have d2 := Nat.div_le_div_right (c := siz q) m2
  rw [g1.2] at d1
  rw [g2.2] at d2
  omega
end Go.Proofs.YtgcdhfpbmcfedaaGreatDoor.pf
end
section
namespace Go.Proofs.YtgcdhfpbmcfedaaGreatDoor.oc
open Go.RowKit

/-- the slice's address A shows the cells xs, in blocks below B -/
def Rd (w : World) (B : Nat) (A : Option Addr) (xs : List Value) : Prop :=
  ∀ k v, xs[k]? = some v → ∃ b o, A = some ⟨b, o, none⟩ ∧ b < B ∧ w.cell? ⟨b, o + k, none⟩ = some v

/-- bytes as cells -/
def by_ (bs : List Nat) : List Value := bs.map (fun x : Nat => Value.int .u8 (x : Int))
/-- all below 256 -/
def Small (bs : List Nat) : Prop := ∀ x, x ∈ bs → x < 256

theorem by_length (bs : List Nat) : (by_ bs).length = bs.length := by simp [by_]
theorem by_at {bs : List Nat} {k x : Nat} (h : bs[k]? = some x) : (by_ bs)[k]? = some (.int .u8 (x : Int)) := by simp [by_, h]
theorem by_append (a b : List Nat) : by_ (a ++ b) = by_ a ++ by_ b := by simp [by_]
theorem by_one (bs : List Nat) : ∀ u ∈ by_ bs, u.oneCell' = true := by
  intro u hu
  simp only [by_, List.mem_map] at hu
  obtain ⟨x, _, rfl⟩ := hu
  rfl
theorem Small.at_ {bs : List Nat} (h : Small bs) {k x : Nat} (hx : bs[k]? = some x) : x < 256 := h x (List.mem_of_getElem? hx)
theorem Small.append {a b : List Nat} (ha : Small a) (hb : Small b) : Small (a ++ b) := by
  intro x hx
  rcases List.mem_append.1 hx with h | h
  · exact ha x h
  · exact hb x h
theorem Small.take {a : List Nat} (ha : Small a) (n : Nat) : Small (a.take n) := fun x hx => ha x (List.mem_of_mem_take hx)
theorem Small.drop {a : List Nat} (ha : Small a) (n : Nat) : Small (a.drop n) := fun x hx => ha x (List.mem_of_mem_drop hx)
theorem Small.nil : Small [] := fun x hx => by cases hx
theorem Small.one {x : Nat} (h : x < 256) : Small [x] := fun y hy => by simp at hy; omega

theorem getq {bs : List Nat} {k : Nat} (h : k < bs.length) : bs[k]? = some (bs.getD k 0) := by
  rw [List.getElem?_eq_getElem h]; simp [List.getD, List.getElem?_eq_getElem h]
theorem take_snoc {bs : List Nat} {k x : Nat} (h : bs[k]? = some x) : bs.take (k + 1) = bs.take k ++ [x] := by
  rw [List.take_add_one, h]; rfl

section
variable {w w' : World} {B B' : Nat} {A : Option Addr} {xs : List Value}
theorem Rd.nil_ : Rd w B A [] := fun k v h => by simp at h
theorem Rd.byte {bs : List Nat} (h : Rd w B A (by_ bs)) {k x : Nat} (hx : bs[k]? = some x) : ∃ b o, A = some ⟨b, o, none⟩ ∧ b < B ∧ w.cell? ⟨b, o + k, none⟩ = some (.int .u8 (x : Int)) :=
  h k _ (by_at hx)
theorem Rd.keep (h : Rd w B A xs) (hk : ∀ p : Addr, p.block < B → w'.cell? p = w.cell? p) : Rd w' B A xs := fun k v hv => by
  obtain ⟨b, o, e, hb, hc⟩ := h k v hv
  exact ⟨b, o, e, hb, (hk ⟨b, o + k, none⟩ hb).trans hc⟩
theorem Rd.more (h : Rd w B A xs) (hB : B ≤ B') : Rd w B' A xs := fun k v hv => by
  obtain ⟨b, o, e, hb, hc⟩ := h k v hv
  exact ⟨b, o, e, by omega, hc⟩
theorem Rd.below (h : Rd w B A xs) (hb : Below B w w') : Rd w' B A xs := h.keep fun _ hp => hb.cell hp
theorem Rd.drew (h : Rd w B A xs) : Rd w.drew B A xs := h
theorem Rd.drewN (h : Rd w B A xs) (k : Nat) : Rd (w.drewN k) B A xs := h
theorem Rd.alloc (h : Rd w B A xs) (hB : B ≤ w.heap.size) (o : Obj) : Rd (w.alloc o) B A xs := h.keep fun p hp => World.cell?_alloc_lt w o p (by omega)
theorem Rd.setCell (h : Rd w B A xs) {p : Addr} (hB : B ≤ p.block) (u : Value) : Rd (w.setCell p u) B A xs :=
  h.keep fun q hq => World.cell?_setCell_other w p q u (fun e => by subst e; omega)
theorem Rd.grown (h : Rd w B A xs) {row : Option Nat} (hg : w.grownBy w' row) (hB : B ≤ w.heap.size) (hr : ∀ g, row = some g → B ≤ g) : Rd w' B A xs :=
  h.keep fun p hp => World.cell?_of_block (hg.block p.block (by omega) (fun e => by have := hr _ e.symm; omega))
theorem Rd.take (h : Rd w B A xs) (n : Nat) : Rd w B A (xs.take n) := fun k v hv => h k v (by
  rw [List.getElem?_take] at hv
  split at hv
  · exact hv
  · cases hv)
/-- a cut from k on, as the model writes its address -/
theorem Rd.cut (h : Rd w B A xs) {k cap : Nat} (hc : xs.length ≤ cap) : Rd w B (if cap = k then A else A.map (·.add k)) (xs.drop k) := fun j v hv => by
  rw [List.getElem?_drop] at hv
  have hl : k + j < xs.length := (List.getElem?_eq_some_iff.1 hv).1
  obtain ⟨b, o, rfl, hb, hcell⟩ := h _ _ hv
  rw [if_neg (by omega)]
  refine ⟨b, o + k, by simp [Addr.add_lit], hb, ?_⟩
  rw [Nat.add_assoc]
  exact hcell
theorem Rd.own {base n : Nat} {e : TypeId} {c : Nat} (h : w.ownsRow base e 1 (.slice A n c) n xs) : Rd w w.heap.size A xs := fun k v hv => by
  have hn : 0 < n := by
    have h1 := h.1
    have hl := (List.getElem?_eq_some_iff.1 hv).1
    omega
  obtain ⟨g, cap, hv', _, hlt⟩ := h.form hn
  have hA : A = some ⟨g, 0, none⟩ := by injection hv'
  subst hA
  exact ⟨g, 0, rfl, hlt, by have := h.cells (g := g) rfl k v hv; rwa [Addr.add_lit] at this⟩
/-- a slice of slices of bytes: its address P shows the slices of bytes ps -/
def Pt (w : World) (B : Nat) (P : Option Addr) (ps : List (List Nat)) : Prop :=
  ∀ k bs, ps[k]? = some bs → ∃ b o A c, P = some ⟨b, o, none⟩ ∧ b < B ∧ w.cell? ⟨b, o + k, none⟩ = some (.slice A bs.length c) ∧ Rd w B A (by_ bs)
theorem Pt.keep {P : Option Addr} {ps : List (List Nat)} (h : Pt w B P ps) (hk : ∀ p : Addr, p.block < B → w'.cell? p = w.cell? p) : Pt w' B P ps := fun k bs hv => by
  obtain ⟨b, o, A, c, e, hb, hc, hr⟩ := h k bs hv
  exact ⟨b, o, A, c, e, hb, (hk ⟨b, o + k, none⟩ hb).trans hc, hr.keep hk⟩
theorem Pt.more {P : Option Addr} {ps : List (List Nat)} (h : Pt w B P ps) (hB : B ≤ B') : Pt w B' P ps := fun k bs hv => by
  obtain ⟨b, o, A, c, e, hb, hc, hr⟩ := h k bs hv
  exact ⟨b, o, A, c, e, by omega, hc, hr.more hB⟩
theorem Pt.below {P : Option Addr} {ps : List (List Nat)} (h : Pt w B P ps) (hb : Below B w w') : Pt w' B P ps := h.keep fun _ hp => hb.cell hp
/-- the source of a copy or of an append -/
theorem Rd.src (h : Rd w B A xs) (hx : 0 < xs.length) : ∃ ad, A = some ad ∧ ∀ j v, xs[j]? = some v → w.cell? (ad.add j) = some v := by
  obtain ⟨b, o, rfl, hb, hc⟩ := h 0 _ (List.getElem?_eq_getElem hx)
  refine ⟨_, rfl, fun j v hj => ?_⟩
  obtain ⟨b', o', e, _, hc'⟩ := h j v hj
  injection e with e
  injection e with e1 e2
  subst e1
  subst e2
  rw [Addr.add_lit]
  exact hc'
/-- a block known whole -/
def Blk (w : World) (g : Nat) (t : TypeId) (cs : List Value) : Prop := w.heap[g]? = some (.cells cs.toArray t (0, 0))
section
variable {g : Nat} {t : TypeId} {cs : List Value}
theorem Blk.lt (h : Blk w g t cs) : g < w.heap.size := (Array.getElem?_eq_some_iff.1 h).1
theorem Blk.cell (h : Blk w g t cs) (i : Nat) : w.cell? ⟨g, i, none⟩ = cs[i]? := by
  rw [cell_of_row w g i cs.toArray t (0, 0) h]; simp
theorem Blk.frozen (h : Blk w g t cs) (i : Nat) : w.frozen? ⟨g, i, none⟩ = false := by
  unfold Blk at h
  simp [World.frozen?, h]
theorem Blk.new (w : World) (t : TypeId) (cs : Array Value) : Blk (w.alloc (.cells cs t)) w.heap.size t cs.toList := by
  have h := heap_alloc_new w (.cells cs t)
  unfold Blk
  simpa using h
theorem Blk.drew (h : Blk w g t cs) : Blk w.drew g t cs := h
theorem Blk.drewN (h : Blk w g t cs) (n : Nat) : Blk (w.drewN n) g t cs := h
theorem Blk.alloc (h : Blk w g t cs) (o : Obj) : Blk (w.alloc o) g t cs := (Below.heap_alloc w o g h.lt).trans h
theorem Blk.put (h : Blk w g t cs) (i : Nat) (u : Value) : Blk (w.setCell ⟨g, i, none⟩ u) g t (cs.set i u) := by
  unfold Blk at h ⊢
  simp [World.setCell, Array.getElem?_modify, h]
theorem Blk.far (h : Blk w g t cs) {p : Addr} (hp : g ≠ p.block) (u : Value) : Blk (w.setCell p u) g t cs := (Below.heap_setCell w p u g hp).trans h
theorem Blk.below {B : Nat} (h : Blk w g t cs) (hb : Below B w w') (hg : g < B) : Blk w' g t cs := (hb.block g hg).trans h
theorem Blk.grown {row : Option Nat} (h : Blk w g t cs) (hb : w.grownBy w' row) (hg : some g ≠ row) : Blk w' g t cs := (hb.block g h.lt hg).trans h
end
end
end Go.Proofs.YtgcdhfpbmcfedaaGreatDoor.oc
end
section
namespace Go.Proofs.YtgcdhfpbmcfedaaGreatDoor.mz
open Go.RowKit Go.Proofs.YtgcdhfpbmcfedaaGreatDoor.oc
/-- the streams and the tape are one -/
structure Same (w w' : World) : Prop where
  os : w'.os = w.os
  tape : w'.tape = w.tape
  output : w'.output = w.output
theorem Same.trans {a b c : World} (h : Same a b) (k : Same b c) : Same a c := ⟨k.os.trans h.os, k.tape.trans h.tape, k.output.trans h.output⟩
/-- only blocks of S, and new ones, are another than they were -/
structure Keeps (S : Nat → Prop) (w w' : World) : Prop where
  size : w.heap.size ≤ w'.heap.size
  block : ∀ b, b < w.heap.size → ¬ S b → w'.heap[b]? = w.heap[b]?
  same : Same w w'
theorem Keeps.refl (S : Nat → Prop) (w : World) : Keeps S w w := ⟨Nat.le_refl _, fun _ _ _ => rfl, rfl, rfl, rfl⟩
theorem Keeps.trans {S : Nat → Prop} {a b c : World} (h : Keeps S a b) (k : Keeps S b c) : Keeps S a c :=
  ⟨Nat.le_trans h.size k.size, fun x hx hs => (k.block x (by have := h.size; omega) hs).trans (h.block x hx hs), h.same.trans k.same⟩
theorem Keeps.mono {S S' : Nat → Prop} {a b : World} (h : Keeps S a b) (k : ∀ x, x < a.heap.size → S x → S' x) : Keeps S' a b :=
  ⟨h.size, fun x hx hs => h.block x hx fun z => hs (k x hx z), h.same⟩
theorem Keeps.drew {S : Nat → Prop} {a b : World} (h : Keeps S a b) : Keeps S a b.drew := ⟨h.size, h.block, h.same.os, h.same.tape, h.same.output⟩
theorem Keeps.alloc {S : Nat → Prop} {a b : World} (h : Keeps S a b) (o : Obj) : Keeps S a (b.alloc o) :=
  ⟨by have := h.size; show a.heap.size ≤ (b.heap.push o).size; simp; omega, fun x hx hs => (Below.heap_alloc b o x (by have := h.size; omega)).trans (h.block x hx hs), h.same.os, h.same.tape, h.same.output⟩
theorem Keeps.setCell {S : Nat → Prop} {a b : World} (h : Keeps S a b) {p : Addr} (hp : S p.block ∨ a.heap.size ≤ p.block) (u : Value) : Keeps S a (b.setCell p u) :=
  ⟨by have := h.size; show a.heap.size ≤ (b.heap.modify _ _).size; simpa using this, fun x hx hs => (Below.heap_setCell b p u x (fun e => by subst e; rcases hp with k | k; exact hs k; omega)).trans (h.block x hx hs), h.same.os, h.same.tape, h.same.output⟩
theorem Same.of_grown {w w' : World} {r : Option Nat} (h : w.grownBy w' r) : Same w w' := ⟨h.os, h.tape, h.output⟩
theorem Keeps.below {w w' : World} (h : Keeps (fun _ => False) w w') : Below w.heap.size w w' := ⟨h.same.os, h.same.tape, h.same.output, h.size, fun k hk => h.block k hk (fun z => z)⟩
theorem Keeps.of_drew {S : Nat → Prop} (w : World) (n : Nat) : Keeps S w (w.drewN n) := ⟨Nat.le_refl _, fun _ _ _ => rfl, rfl, rfl, rfl⟩
theorem grown_set (w : World) (p : Addr) (u : Value) : w.grownBy (w.setCell p u) (some p.block) :=
  ⟨rfl, rfl, rfl, by show w.heap.size ≤ (w.heap.modify _ _).size; simp, fun k _ hk => Below.heap_setCell w p u k (fun e => hk (by rw [e]))⟩
theorem Blk.keeps {S : Nat → Prop} {w w' : World} {g : Nat} {t : TypeId} {cs : List Value} (h : Blk w g t cs) (k : Keeps S w w') (hg : ¬ S g) : Blk w' g t cs := (k.block g h.lt hg).trans h
/-- likewise, told whole -/
theorem enter_blk (w : World) (cs : Array Value) (t : TypeId) : ∃ w1, w1 = w.alloc (.cells cs t) ∧ (∀ S, Keeps S w w1) ∧ Blk w1 w.heap.size t cs.toList :=
  ⟨_, rfl, fun _ => (Keeps.refl _ w).alloc _, Blk.new w t cs⟩
theorem wrap_u64 (x : Int) : IntKind.u64.wrap x = x % 18446744073709551616 := by simp [IntKind.wrap, IntKind.signed, IntKind.bits]
end Go.Proofs.YtgcdhfpbmcfedaaGreatDoor.mz
end
section
namespace Go.Proofs.YtgcdhfpbmcfedaaGreatDoor.oc
open Go.RowKit
section
variable {P : Program} {w : World}

end
end Go.Proofs.YtgcdhfpbmcfedaaGreatDoor.oc
end
section
namespace Go.Proofs.YtgcdhfpbmcfedaaGreatDoor.mz
open Go.RowKit Go.Proofs.YtgcdhfpbmcfedaaGreatDoor.oc
section
variable {P : Program} {w : World}
theorem wp_apps {o : Oper} {a : Act} {K : Act → World → Prop} {Q : Exit → Act → World → Prop} (s x : Operand) (t : TypeId)
    (ho : o.op = .call { callee := .builtin .append, args := #[s, x], argTypes := #[t, t] })
    (base : Nat) (e : TypeId) (i : TypeInfo) (z : Value) (size bytes : Nat) (ht : P.underlying t = some (.slice e)) (hi : P.info? e = some i) (hz : i.zero = some z)
    (hsize : i.size = size) (hby : i.bytes = bytes) (hzs : z.cells.size = size) (hsz : 0 < size)
    (v : Value) (n : Nat) (xs : List Value) (hs : a.eval s = v) (hown : w.ownsRow base e size v n xs)
    (ad : Addr) (m c : Nat) (news : List Value) (hx : a.eval x = .slice (some ad) m c) (hl : news.length = m * size) (hnews : ∀ j u, news[j]? = some u → w.cell? (ad.add j) = some u) (h1 : ∀ u ∈ news, u.oneCell' = true)
    (h63 : n + m ≤ maxLen) (hbytes : (n + m) * bytes ≤ 140737488355328) (hbase : base ≤ w.heap.size)
    (h : ∀ v' w', w'.ownsRow base e size v' (n + m) (xs ++ news) → w.grownBy w' v.ownBlock → (v'.ownBlock = v.ownBlock ∨ v'.ownBlock = some w.heap.size) → K (a.put o.dst v') w') : o.wp P a w K Q := by
  obtain ⟨v', w', hr, h2, h3, _, h5⟩ := run_append_own_at (P := P) w base t o.type e i z size bytes ht hi hz hsize hby hzs hsz v n xs hown ad m c news hl hnews h1 h63 hbytes hbase
  unfold Oper.wp execOp
  simp only [ho, resolve, invoke, builtin, Sem.run_bind, Sem.run_pure, Result.andThen_ok, List.map_toArray, List.map_cons, List.map_nil, hs, hx, hr]
  exact h v' w' h2 h3 h5
theorem wpList_apps {ops : Array Oper} {rest : List Oper} {o : Oper} {a : Act} {Q : Exit → Act → World → Prop} (hgd : o.guard = none) (s x : Operand) (t : TypeId)
    (ho : o.op = .call { callee := .builtin .append, args := #[s, x], argTypes := #[t, t] })
    (base : Nat) (e : TypeId) (i : TypeInfo) (z : Value) (size bytes : Nat) (ht : P.underlying t = some (.slice e)) (hi : P.info? e = some i) (hz : i.zero = some z)
    (hsize : i.size = size) (hby : i.bytes = bytes) (hzs : z.cells.size = size) (hsz : 0 < size)
    (v : Value) (n : Nat) (xs : List Value) (hs : a.eval s = v) (hown : w.ownsRow base e size v n xs)
    (ad : Addr) (m c : Nat) (news : List Value) (hx : a.eval x = .slice (some ad) m c) (hl : news.length = m * size) (hnews : ∀ j u, news[j]? = some u → w.cell? (ad.add j) = some u) (h1 : ∀ u ∈ news, u.oneCell' = true)
    (h63 : n + m ≤ maxLen) (hbytes : (n + m) * bytes ≤ 140737488355328) (hbase : base ≤ w.heap.size)
    (h : ∀ v' w', w'.ownsRow base e size v' (n + m) (xs ++ news) → w.grownBy w' v.ownBlock → (v'.ownBlock = v.ownBlock ∨ v'.ownBlock = some w.heap.size) → wpList P ops Q rest (a.put o.dst v') w') : wpList P ops Q (o :: rest) a w :=
  wpList_plain hgd fun _ hK => wp_apps s x t ho base e i z size bytes ht hi hz hsize hby hzs hsz v n xs hs hown ad m c news hx hl hnews h1 h63 hbytes hbase fun v' w' h2 h3 h4 => hK _ _ (h v' w' h2 h3 h4)
end
end Go.Proofs.YtgcdhfpbmcfedaaGreatDoor.mz
end
section
namespace Go.Proofs.YtgcdhfpbmcfedaaGreatDoor.mz
open Go.RowKit Go.Proofs.YtgcdhfpbmcfedaaGreatDoor.oc
def u64s (l : List Nat) : List Value := l.map (fun x : Nat => Value.int .u64 (x : Int))
theorem owns_keeps {S : Nat → Prop} {w w' : World} {base : Nat} {e : TypeId} {size : Nat} {v : Value} {n : Nat} {xs : List Value} (h : w.ownsRow base e size v n xs) (k : Keeps S w w') (hs : ∀ b, v.ownBlock = some b → ¬ S b) : w'.ownsRow base e size v n xs := by
  refine ⟨h.1, ?_⟩
  rcases h.2 with hn | ⟨g, cap, cur, rfl, hb, hgg, rest⟩
  · exact .inl hn
  · refine .inr ⟨g, cap, cur, rfl, hb, ?_, rest⟩
    rw [k.block g (Array.getElem?_eq_some_iff.1 hgg).1 (hs g rfl)]
    exact hgg
/-- what F becomes: what is new is in it too -/
def Grown (w w' : World) (F : Nat → Prop) : Nat → Prop := fun b => F b ∨ (w.heap.size ≤ b ∧ b < w'.heap.size)
theorem size_alloc (w : World) (o : Obj) : w.heap.size < (w.alloc o).heap.size := by show _ < (w.heap.push _).size; simp
end Go.Proofs.YtgcdhfpbmcfedaaGreatDoor.mz
end
section
set_option linter.unusedVariables false
namespace Go.Proofs.YtgcdhfpbmcfedaaGreatDoor.wh
open Go.RowKit Go.Proofs.YtgcdhfpbmcfedaaGreatDoor.oc Go.Proofs.YtgcdhfpbmcfedaaGreatDoor.mz
theorem Blk.range {w : World} {g : Nat} {t : TypeId} {cs : List Value} (h : Blk w g t cs) : w.rangeAt g 0 cs := fun j v hv => by rw [Nat.zero_add, h.cell]; exact hv
theorem Blk.thereAll {w : World} {g : Nat} {t : TypeId} {cs : List Value} (h : Blk w g t cs) : w.there g 0 cs.length := fun j hj => by
  rw [Nat.zero_add]
  refine ⟨?_, h.frozen j⟩
  rw [h.cell, List.getElem?_eq_getElem hj]; rfl
theorem Blk.setMid {g : Nat} {t : TypeId} : ∀ (vs : List Value) (w : World) (cs : List Value) (o : Nat), Blk w g t cs → o + vs.length ≤ cs.length → Blk (w.setCells g o vs) g t (cs.take o ++ vs ++ cs.drop (o + vs.length))
  | [], w, cs, o, h, hl => by simpa [World.setCells] using h
  | v :: r, w, cs, o, h, hl => by
    have h1 := Blk.setMid r (w.setCell ⟨g, o, none⟩ v) (cs.set o v) (o + 1) (h.put o v) (by simp at hl ⊢; omega)
    have e : (cs.set o v).take (o + 1) ++ r ++ (cs.set o v).drop (o + 1 + r.length) = cs.take o ++ (v :: r) ++ cs.drop (o + (v :: r).length) := by
      have hlt : o < cs.length := by simp at hl; omega
      rw [List.take_add_one, List.take_set_of_le (by omega), List.drop_set_of_lt (by omega), List.getElem?_set_self hlt, show o + 1 + r.length = o + (v :: r).length from by simp; omega]
      simp
    rw [e] at h1
    exact h1
theorem Blk.setAll {w : World} {g : Nat} {t : TypeId} {cs : List Value} (h : Blk w g t cs) (vs : List Value) (hl : vs.length = cs.length) : Blk (w.setCells g 0 vs) g t vs := by
  have := Blk.setMid vs w cs 0 h (by omega)
  rw [Nat.zero_add, hl, List.take_zero, List.drop_length, List.append_nil, List.nil_append] at this
  exact this
theorem keeps_setCells (g : Nat) : ∀ (vs : List Value) (w : World) (o : Nat), Keeps (· = g) w (w.setCells g o vs)
  | [], w, o => Keeps.refl _ _
  | v :: r, w, o => by
    have h := keeps_setCells g r (w.setCell ⟨g, o, none⟩ v) (o + 1)
    exact Keeps.trans ((Keeps.refl (· = g) w).setCell (p := ⟨g, o, none⟩) (.inl rfl) v) h
/-- a load of many cells, in a region that only reads -/
theorem quiet_load {P : Program} {ops : Array Oper} {C : World → Prop} {Q : Act → Prop} {rest : List Oper} {o : Oper} {a : Act} (hw : Region.wanted o (yielded ops a.tmps) = true) (ty : TypeId) (x : Operand) (ho : o.op = .load ty x)
    (b off : Nat) (hx : a.eval x = .pointer (some ⟨b, off, none⟩)) (cs : List Value) (d : TypeDesc) (hc : ∀ w, C w → w.rangeAt b off cs)
    (hu : P.underlying ty = some d) (hd : d.isRow = true) (hi : (P.info? ty).map (·.size) = some cs.length)
    (h : wpQuiet P ops C Q rest (a.put o.dst (.agg cs.toArray))) : wpQuiet P ops C Q (o :: rest) a := by
  unfold wpQuiet
  rw [if_pos hw]
  refine ⟨_, fun w hw' => ?_, h⟩
  unfold Oper.quietAt execOp
  simp only [ho, hx, Instr.loadAt, Instr.sureAddr, Sem.run_bind, Sem.run_pure, Result.andThen_ok, run_loadVar_mid w b off ty cs d (hc w hw') hu hd hi]
  exact ⟨rfl, rfl⟩
/-- the results: an aggregate that lies in a block of its own, and a number -/
theorem ret_cell {fn : Func} {p u : Tmp} {ty : TypeId} (h : fn.results = #[.cell p ty, .tmp u]) (tmps : Array Value) (P : Program) (w : World) (g : Nat) (t : TypeId) (cs : List Value) (d : TypeDesc)
    (hp : tmps.getD p undef = .pointer (some ⟨g, 0, none⟩)) (hb : Blk w g t cs) (hu : P.underlying ty = some d) (hd : d.isRow = true) (hi : (P.info? ty).map (·.size) = some cs.length) :
    (results fn tmps).run P w = .ok (.tuple #[.agg cs.toArray, tmps.getD u undef]) w := by
  rw [results_cell_tmp h, hp]
  have e : (asAddr (.pointer (some ⟨g, 0, none⟩))).run P w = .ok ⟨g, 0, none⟩ w := rfl
  rw [e]
  simp only [Result.andThen_ok, run_loadVar_mid w g 0 ty cs d (Blk.range hb) hu hd hi]
end Go.Proofs.YtgcdhfpbmcfedaaGreatDoor.wh
end
section
namespace Go.Proofs.YtgcdhfpbmcfedaaGreatDoor.mz
open Go.RowKit Go.Proofs.YtgcdhfpbmcfedaaGreatDoor.oc
theorem Keeps.here {w : World} {b i : Nat} (u : Value) : Keeps (· = b) w (w.setCell ⟨b, i, none⟩ u) := (Keeps.refl (· = b) w).setCell (p := ⟨b, i, none⟩) (.inl rfl) u
theorem Keeps.cell {S : Nat → Prop} {w w' : World} (k : Keeps S w w') {b i : Nat} {v : Value} (h : w.cell? ⟨b, i, none⟩ = some v) (hb : ¬ S b) : w'.cell? ⟨b, i, none⟩ = some v := by
  have hl : b < w.heap.size := by
    rcases Nat.lt_or_ge b w.heap.size with q | q
    · exact q
    · exfalso
      simp [World.cell?, Array.getElem?_eq_none q] at h
  have := k.block b hl hb
  simp only [World.cell?] at h ⊢
  rw [this]; exact h
/-- an append's step, in the frame's word -/
theorem Keeps.of_grown {w w' : World} {r : Option Nat} (h : w.grownBy w' r) : Keeps (fun b => r = some b) w w' :=
  ⟨h.size, fun b hb hs => h.block b hb (fun e => hs e.symm), h.os, h.tape, h.output⟩
theorem Keeps.only {S : Nat → Prop} {w w' : World} (k : Keeps S w w') (hs : ∀ b, S b → w.heap.size ≤ b) : Keeps (fun _ => False) w w' := k.mono (fun b hb z => by have := hs b z; omega)
end Go.Proofs.YtgcdhfpbmcfedaaGreatDoor.mz
end
section
set_option linter.unusedVariables false
namespace Go.Proofs.YtgcdhfpbmcfedaaGreatDoor.pf
open Go.RowKit Go.Proofs.YtgcdhfpbmcfedaaGreatDoor.oc Go.Proofs.YtgcdhfpbmcfedaaGreatDoor.mz
def b8s (l : List Nat) : List Value := l.map (fun (x : Nat) => Value.int .u8 (x : Int))
/-- an address's cells, a prefix's -/
def adc (a : Ad) : List Value := .bool a.v6 :: b8s a.B
def pxc (p : Px) : List Value := adc p.a ++ [.int .i64 p.bits]
def av (a : Ad) : Value := .agg (adc a).toArray
def pv (p : Px) : Value := .agg (pxc p).toArray
section
variable {a : Ad} {p : Px} {w : World} {P : Nat} {T : TypeId}
theorem adc_len (h : a.Wf) : (adc a).length = 17 := by simp [adc, b8s, h.len]
theorem pxc_len (h : p.a.Wf) : (pxc p).length = 18 := by simp [pxc, adc_len h]
theorem ad_v6 (h : Blk w P T (adc a)) : w.cell? ⟨P, 0, none⟩ = some (.bool a.v6) := by rw [h.cell]; rfl
theorem ad_byt (hw : a.Wf) (h : Blk w P T (adc a)) {i : Nat} (hi : i < 16) : w.cell? ⟨P, 1 + i, none⟩ = some (.int .u8 ((byt a i : Nat) : Int)) := by
  rw [h.cell, Nat.add_comm 1 i, adc, List.getElem?_cons_succ, b8s, List.getElem?_map, byt_some hw hi]; rfl
theorem px_v6 (h : Blk w P T (pxc p)) : w.cell? ⟨P, 0, none⟩ = some (.bool p.a.v6) := by rw [h.cell]; rfl
theorem px_bits (hw : p.a.Wf) (h : Blk w P T (pxc p)) : w.cell? ⟨P, 17, none⟩ = some (.int .i64 p.bits) := by
  rw [h.cell, pxc, List.getElem?_append_right (by rw [adc_len hw]; omega), adc_len hw]; rfl
theorem px_addr (hw : p.a.Wf) (h : Blk w P T (pxc p)) : w.rangeAt P 0 (adc p.a) := fun j v hv => by
  rw [Nat.zero_add, h.cell, pxc, List.getElem?_append_left (by rcases Nat.lt_or_ge j (adc p.a).length with q | q; exact q; rw [List.getElem?_eq_none q] at hv; cases hv)]
  exact hv
end
theorem addr_info : (Tryz.prog.info? 24).map (·.size) = some 17 := by kernel_rfl
theorem prefix_info : (Tryz.prog.info? 28).map (·.size) = some 18 := by kernel_rfl
section
variable (a : Ad) (w : World)
end
end Go.Proofs.YtgcdhfpbmcfedaaGreatDoor.pf
end
section
set_option linter.unusedVariables false
set_option linter.unusedSimpArgs false
namespace Go.Proofs.YtgcdhfpbmcfedaaGreatDoor.pf
open Go.RowKit Go.Proofs.YtgcdhfpbmcfedaaGreatDoor.oc Go.Proofs.YtgcdhfpbmcfedaaGreatDoor.mz
def sign (x : Nat) : Nat := if x < 10 then 48 + x else 87 + x
/-- a number's digits to the base b, f of them at most -/
def dg (b : Nat) : Nat → Nat → List Nat
  | 0, _ => []
  | f + 1, n => if n < b then [sign n] else dg b f (n / b) ++ [sign (n % b)]
def str (l : List Nat) : ByteArray := ⟨(l.map (fun x => UInt8.ofNat x)).toArray⟩
section
variable (w : World)
theorem str_size (l : List Nat) : (str l).size = l.length := by simp [str, ByteArray.size]
theorem dg_len (b : Nat) : ∀ f n, (dg b f n).length ≤ f
  | 0, _ => by simp [dg]
  | f + 1, n => by
    have ih := dg_len b f (n / b)
    unfold dg
    split <;> simp <;> omega
theorem str_append (l m : List Nat) : str l ++ str m = str (l ++ m) := by
  apply ByteArray.ext
  simp [str, ByteArray.data_append]

end
end Go.Proofs.YtgcdhfpbmcfedaaGreatDoor.pf
end
section
set_option linter.unusedVariables false
namespace Go.Proofs.YtgcdhfpbmcfedaaGreatDoor.pf
open Go.RowKit Go.Proofs.YtgcdhfpbmcfedaaGreatDoor.oc Go.Proofs.YtgcdhfpbmcfedaaGreatDoor.mz Go.Proofs.YtgcdhfpbmcfedaaGreatDoor.wh
open Classical in
noncomputable def errA (a : Ad) : Int := if okA a then 0 else 150
open Classical in
noncomputable def errP (p : Px) : Int := if okP p then 0 else 151
theorem errA_ok {a : Ad} (h : okA a) : errA a = 0 := by unfold errA; rw [if_pos h]
theorem errA_no {a : Ad} (h : ¬ okA a) : errA a = 150 := by unfold errA; rw [if_neg h]
theorem errP_ok {p : Px} (h : okP p) : errP p = 0 := by unfold errP; rw [if_pos h]
theorem errP_no {p : Px} (h : ¬ okP p) : errP p = 151 := by unfold errP; rw [if_neg h]
section
variable (a : Ad) (w : World)
end
end Go.Proofs.YtgcdhfpbmcfedaaGreatDoor.pf
end
section
set_option linter.unusedVariables false
namespace Go.Proofs.YtgcdhfpbmcfedaaGreatDoor.pf
open Go.RowKit Go.Proofs.YtgcdhfpbmcfedaaGreatDoor.oc Go.Proofs.YtgcdhfpbmcfedaaGreatDoor.mz Go.Proofs.YtgcdhfpbmcfedaaGreatDoor.wh
theorem adc_put {a : Ad} (h : a.Wf) (i : Nat) (is : Bool) : adc (put a i is) = (adc a).set (1 + i / 8) (.int .u8 ((bput (byt a (i / 8)) (7 - i % 8) is : Nat) : Int)) := by
  unfold adc put b8s
  rw [Nat.add_comm 1, List.set_cons_succ, List.map_set]
theorem b8_one (l : List Nat) : ∀ v ∈ b8s l, v.oneCell' = true := fun v hv => by
  simp only [b8s, List.mem_map] at hv
  obtain ⟨x, _, rfl⟩ := hv
  rfl
theorem ad_one (a : Ad) : ∀ v ∈ adc a, v.oneCell' = true := fun v hv => by
  rcases List.mem_cons.1 hv with rfl | q
  · rfl
  · exact b8_one _ v q
section
variable (a : Ad) (w : World)
end
end Go.Proofs.YtgcdhfpbmcfedaaGreatDoor.pf
end
section
set_option linter.unusedVariables false
set_option linter.unusedSimpArgs false
namespace Go.Proofs.YtgcdhfpbmcfedaaGreatDoor.pf
open Go.RowKit Go.Proofs.YtgcdhfpbmcfedaaGreatDoor.oc Go.Proofs.YtgcdhfpbmcfedaaGreatDoor.mz Go.Proofs.YtgcdhfpbmcfedaaGreatDoor.wh
section
variable (w : World)
end
end Go.Proofs.YtgcdhfpbmcfedaaGreatDoor.pf
end
section
set_option linter.unusedVariables false
set_option linter.unusedSimpArgs false
namespace Go.Proofs.YtgcdhfpbmcfedaaGreatDoor.pf
open Go.RowKit Go.Proofs.YtgcdhfpbmcfedaaGreatDoor.oc Go.Proofs.YtgcdhfpbmcfedaaGreatDoor.mz Go.Proofs.YtgcdhfpbmcfedaaGreatDoor.wh
/-- a load of a whole aggregate that is asked for under a guard -/
theorem wpList_load_want {P : Program} {ops : Array Oper} {Q : Exit → Act → World → Prop} {a : Act} {w : World} {rest : List Oper} {o : Oper} (hw : Region.wanted o (yielded ops a.tmps) = true) (ty : TypeId) (x : Operand) (ho : o.op = .load ty x)
    (b off : Nat) (hx : a.eval x = .pointer (some ⟨b, off, none⟩)) (cs : List Value) (d : TypeDesc) (hc : w.rangeAt b off cs)
    (hu : P.underlying ty = some d) (hd : d.isRow = true) (hi : (P.info? ty).map (·.size) = some cs.length)
    (h : wpList P ops Q rest (a.put o.dst (.agg cs.toArray)) w) : wpList P ops Q (o :: rest) a w :=
  BigFrame.wpList_want hw fun K hK => wp_load_mid ty x ho b off hx cs d hc hu hd hi (hK _ _ h)
open Classical in
noncomputable def hasB (p : Px) (a : Ad) : Bool := decide (has p a)
theorem hasB_yes {p : Px} {a : Ad} (h : has p a) : hasB p a = true := by unfold hasB; simp [h]
theorem hasB_no {p : Px} {a : Ad} (h : ¬ has p a) : hasB p a = false := by unfold hasB; simp [h]
/-- a prefix, boxed, and an address, boxed -/
theorem box_two (w : World) (C D : List Value) (S T : TypeId) : ∃ w1, w1 = (w.alloc (.cells C.toArray S)).alloc (.cells D.toArray T) ∧ (∀ K, Keeps K w w1) ∧ Blk w1 w.heap.size S C ∧ Blk w1 (w.heap.size + 1) T D := by
  have b2 := Blk.new (w.alloc (.cells C.toArray S)) T D.toArray
  rw [World.size_alloc] at b2
  exact ⟨_, rfl, fun K => ((Keeps.refl K w).alloc _).alloc _, (Blk.new w S C.toArray).alloc _, b2⟩
section
variable (w : World)

end
end Go.Proofs.YtgcdhfpbmcfedaaGreatDoor.pf
end
section
set_option linter.unusedVariables false
set_option linter.unusedSimpArgs false
namespace Go.Proofs.YtgcdhfpbmcfedaaGreatDoor.pf
open Go.RowKit Go.Proofs.YtgcdhfpbmcfedaaGreatDoor.oc Go.Proofs.YtgcdhfpbmcfedaaGreatDoor.mz Go.Proofs.YtgcdhfpbmcfedaaGreatDoor.wh
/-- the i-th of an address's eight numbers -/
def num (a : Ad) (i : Nat) : Nat := byt a (2 * i) * 256 + byt a (2 * i + 1)
theorem num_lt {a : Ad} (h : a.Wf) (i : Nat) : num a i < 65536 := by
  have := byt_lt h (2 * i)
  have := byt_lt h (2 * i + 1)
  unfold num; omega
/-- how many numbers are 0 from the i-th on -/
def zr (nm : Nat → Nat) : Nat → Nat → Nat
  | 0, _ => 0
  | f + 1, i => if nm i = 0 then 1 + zr nm f (i + 1) else 0
def zrun (nm : Nat → Nat) (i : Nat) : Nat := zr nm (8 - i) i
theorem zr_le (nm : Nat → Nat) : ∀ f i, zr nm f i ≤ f
  | 0, _ => by simp [zr]
  | f + 1, i => by
    have := zr_le nm f (i + 1)
    unfold zr; split <;> omega
theorem zr_zero (nm : Nat → Nat) : ∀ (f i j : Nat), j < zr nm f i → nm (i + j) = 0
  | 0, i, j, h => by simp [zr] at h
  | f + 1, i, j, h => by
    unfold zr at h
    split at h
    · rename_i h0
      cases j with
      | zero => exact h0
      | succ j => have := zr_zero nm f (i + 1) j (by omega); rwa [show i + (j + 1) = i + 1 + j from by omega]
    · omega
theorem zrun_le (nm : Nat → Nat) {i : Nat} (h : i ≤ 8) : i + zrun nm i ≤ 8 := by have := zr_le nm (8 - i) i; unfold zrun; omega
theorem zrun_zero (nm : Nat → Nat) {i j : Nat} (h : j < zrun nm i) : nm (i + j) = 0 := zr_zero nm _ i j h
/-- the longest row of noughts that begins ahead of k: where, how long -/
def rowUp (nm : Nat → Nat) : Nat → Nat × Nat
  | 0 => (0, 0)
  | k + 1 => if (rowUp nm k).2 < zrun nm k then (k, zrun nm k) else rowUp nm k
theorem rowUp_le (nm : Nat → Nat) : ∀ k, k ≤ 8 → (rowUp nm k).1 + (rowUp nm k).2 ≤ 8 ∧ ((rowUp nm k).2 = 0 ∨ (rowUp nm k).1 < k)
  | 0, _ => by simp [rowUp]
  | k + 1, h => by
    have ih := rowUp_le nm k (by omega)
    have := zrun_le nm (i := k) (by omega)
    unfold rowUp
    split
    · exact ⟨this, .inr (by simp)⟩
    · exact ⟨ih.1, by omega⟩
theorem rowUp_zero (nm : Nat → Nat) : ∀ k j, j < (rowUp nm k).2 → nm ((rowUp nm k).1 + j) = 0
  | 0, j, h => by simp [rowUp] at h
  | k + 1, j, h => by
    unfold rowUp at h ⊢
    split at h
    · rename_i hh
      rw [if_pos hh]
      exact zrun_zero nm h
    · rename_i hh
      rw [if_neg hh]
      exact rowUp_zero nm k j h
/-- a number's digits to the base 16, a byte's to the base 10 -/
def hx (n : Nat) : List Nat := dg 16 4 n
def dec (n : Nat) : List Nat := dg 10 3 n
/-- what stands at the i-th number -/
def sep (at_ long i : Nat) : List Nat := if 1 < long ∧ i = at_ then [58, 58] else []
def col (at_ long i : Nat) : List Nat := if 0 < i ∧ ¬ (1 < long ∧ i = at_ + long) then [58] else []
def piece (nm : Nat → Nat) (at_ long i : Nat) : List Nat := if 1 < long ∧ at_ ≤ i ∧ i < at_ + long then [] else col at_ long i ++ hx (nm i)
def t6up (nm : Nat → Nat) (at_ long : Nat) : Nat → List Nat
  | 0 => []
  | k + 1 => t6up nm at_ long k ++ sep at_ long k ++ piece nm at_ long k
def t6 (nm : Nat → Nat) : List Nat := t6up nm (rowUp nm 8).1 (rowUp nm 8).2 8
def t4 (a : Ad) : List Nat := dec (byt a 0) ++ [46] ++ dec (byt a 1) ++ [46] ++ dec (byt a 2) ++ [46] ++ dec (byt a 3)
/-- the text of an address -/
def atext (a : Ad) : List Nat := if a.v6 then t6 (num a) else t4 a
theorem t6up_len (nm : Nat → Nat) (at_ long : Nat) : ∀ k, (t6up nm at_ long k).length ≤ 7 * k
  | 0 => by simp [t6up]
  | k + 1 => by
    have ih := t6up_len nm at_ long k
    have h1 : (sep at_ long k).length ≤ 2 := by unfold sep; split <;> simp
    have h2 : (piece nm at_ long k).length ≤ 5 := by
      have := dg_len 16 4 (nm k)
      unfold piece col hx
      split
      · simp
      · split <;> simp <;> omega
    unfold t6up
    simp only [List.length_append]; omega
theorem atext_len (a : Ad) : (atext a).length ≤ 56 := by
  unfold atext
  split
  · exact t6up_len _ _ _ 8
  · have h0 := dg_len 10 3 (byt a 0)
    have h1 := dg_len 10 3 (byt a 1)
    have h2 := dg_len 10 3 (byt a 2)
    have h3 := dg_len 10 3 (byt a 3)
    unfold t4 dec
    simp only [List.length_append, List.length_singleton]; omega
section
variable (a : Ad) (w : World)
end
end Go.Proofs.YtgcdhfpbmcfedaaGreatDoor.pf
end
section
set_option linter.unusedVariables false
set_option linter.unusedSimpArgs false
namespace Go.Proofs.YtgcdhfpbmcfedaaGreatDoor.pf
open Go.RowKit Go.Proofs.YtgcdhfpbmcfedaaGreatDoor.oc Go.Proofs.YtgcdhfpbmcfedaaGreatDoor.mz Go.Proofs.YtgcdhfpbmcfedaaGreatDoor.wh
section
variable (a : Ad) (w : World)
end
end Go.Proofs.YtgcdhfpbmcfedaaGreatDoor.pf
end
section
set_option linter.unusedVariables false
set_option linter.unusedSimpArgs false
namespace Go.Proofs.YtgcdhfpbmcfedaaGreatDoor.pf
open Go.RowKit Go.Proofs.YtgcdhfpbmcfedaaGreatDoor.oc Go.Proofs.YtgcdhfpbmcfedaaGreatDoor.mz Go.Proofs.YtgcdhfpbmcfedaaGreatDoor.wh
open Classical in
noncomputable def coversB (p q : Px) : Bool := decide (covers p q)
theorem coversB_no {p q : Px} (h : ¬ covers p q) : coversB p q = false := by unfold coversB; simp [h]
theorem coversB_has {p q : Px} (h1 : okP q) (h2 : p.bits ≤ q.bits) : coversB p q = hasB p q.a := by
  unfold coversB hasB covers
  simp [h1, h2]
section
variable (w : World)

end
end Go.Proofs.YtgcdhfpbmcfedaaGreatDoor.pf
end
section
set_option linter.unusedVariables false
set_option linter.unusedSimpArgs false
namespace Go.Proofs.YtgcdhfpbmcfedaaGreatDoor.pf
open Go.RowKit Go.Proofs.YtgcdhfpbmcfedaaGreatDoor.oc Go.Proofs.YtgcdhfpbmcfedaaGreatDoor.mz Go.Proofs.YtgcdhfpbmcfedaaGreatDoor.wh
def zeroP : Px := ⟨⟨false, List.replicate 16 0⟩, 0⟩
theorem zeroP_cells : pxc zeroP = [.bool false, .int .u8 0, .int .u8 0, .int .u8 0, .int .u8 0, .int .u8 0, .int .u8 0, .int .u8 0, .int .u8 0, .int .u8 0, .int .u8 0, .int .u8 0, .int .u8 0, .int .u8 0, .int .u8 0, .int .u8 0, .int .u8 0, .int .i64 0] := rfl
theorem zero_one : ∀ v ∈ ([.bool false, .int .u8 0, .int .u8 0, .int .u8 0, .int .u8 0, .int .u8 0, .int .u8 0, .int .u8 0, .int .u8 0, .int .u8 0, .int .u8 0, .int .u8 0, .int .u8 0, .int .u8 0, .int .u8 0, .int .u8 0, .int .u8 0, .int .i64 0] : List Value), v.oneCell' = true := by
  intro v hv
  simp only [List.mem_cons, List.not_mem_nil, or_false] at hv
  rcases hv with rfl | rfl | rfl | rfl | rfl | rfl | rfl | rfl | rfl | rfl | rfl | rfl | rfl | rfl | rfl | rfl | rfl | rfl <;> rfl
/-- what is stored over a block whole, and what else lies there -/
theorem over_all {w : World} {Q : Nat} {T : TypeId} {cs vs : List Value} (h : Blk w Q T cs) (hl : vs.length = cs.length) : w.there Q 0 vs.toArray.size ∧ Blk (w.setCells Q 0 vs) Q T vs ∧ Keeps (· = Q) w (w.setCells Q 0 vs) := by
  have ht := wh.Blk.thereAll h
  rw [← hl] at ht
  exact ⟨by rw [List.size_toArray]; exact ht, wh.Blk.setAll h vs hl, wh.keeps_setCells Q vs w 0⟩
theorem sixteen {l : List Nat} (h : l.length = 16) : ∃ q0 q1 q2 q3 q4 q5 q6 q7 q8 q9 q10 q11 q12 q13 q14 q15 : Nat, l = [q0, q1, q2, q3, q4, q5, q6, q7, q8, q9, q10, q11, q12, q13, q14, q15] := by
  match l, h with
  | [q0, q1, q2, q3, q4, q5, q6, q7, q8, q9, q10, q11, q12, q13, q14, q15], _ => exact ⟨q0, q1, q2, q3, q4, q5, q6, q7, q8, q9, q10, q11, q12, q13, q14, q15, rfl⟩
theorem px_one (p : Px) : ∀ v ∈ pxc p, v.oneCell' = true := fun v hv => by
  rcases List.mem_append.1 hv with q | q
  · exact ad_one _ v q
  · simp at q; subst q; rfl
section
variable (w : World)

end
end Go.Proofs.YtgcdhfpbmcfedaaGreatDoor.pf
end
section
set_option linter.unusedVariables false
set_option linter.unusedSimpArgs false
namespace Go.Proofs.YtgcdhfpbmcfedaaGreatDoor.pf
open Go.RowKit Go.Proofs.YtgcdhfpbmcfedaaGreatDoor.oc Go.Proofs.YtgcdhfpbmcfedaaGreatDoor.mz Go.Proofs.YtgcdhfpbmcfedaaGreatDoor.wh
/-- the results: two aggregates, each in a block of its own, and a number -/
theorem ret_two {fn : Func} {p q u : Tmp} {ty : TypeId} (h : fn.results = #[.cell p ty, .cell q ty, .tmp u]) (tmps : Array Value) (P : Program) (w : World) (g1 g2 : Nat) (t : TypeId) (c1 c2 : List Value) (d : TypeDesc)
    (hp : tmps.getD p undef = .pointer (some ⟨g1, 0, none⟩)) (hq : tmps.getD q undef = .pointer (some ⟨g2, 0, none⟩)) (b1 : Blk w g1 t c1) (b2 : Blk w g2 t c2) (hu : P.underlying ty = some d) (hd : d.isRow = true) (h1 : (P.info? ty).map (·.size) = some c1.length) (h2 : (P.info? ty).map (·.size) = some c2.length) :
    (results fn tmps).run P w = .ok (.tuple #[.agg c1.toArray, .agg c2.toArray, tmps.getD u undef]) w := by
  have e1 := run_loadVar_mid w g1 0 ty c1 d (wh.Blk.range b1) hu hd h1
  have e2 := run_loadVar_mid w g2 0 ty c2 d (wh.Blk.range b2) hu hd h2
  have hp' : tmps[p]?.getD undef = .pointer (some ⟨g1, 0, none⟩) := by simpa using hp
  have hq' : tmps[q]?.getD undef = .pointer (some ⟨g2, 0, none⟩) := by simpa using hq
  simp [results, h, hp', hq', asAddr, e1, e2]
/-- a boxed prefix, and two blocks of noughts -/
theorem box_three (w : World) (C D : List Value) (T : TypeId) : ∃ w1, w1 = ((w.alloc (.cells C.toArray T)).alloc (.cells D.toArray T)).alloc (.cells D.toArray T) ∧ (∀ K, Keeps K w w1) ∧ Blk w1 w.heap.size T C ∧ Blk w1 (w.heap.size + 1) T D ∧ Blk w1 (w.heap.size + 1 + 1) T D := by
  have b2 := (Blk.new (w.alloc (.cells C.toArray T)) T D.toArray).alloc (.cells D.toArray T)
  rw [World.size_alloc] at b2
  have b3 := Blk.new ((w.alloc (.cells C.toArray T)).alloc (.cells D.toArray T)) T D.toArray
  rw [World.size_alloc, World.size_alloc] at b3
  exact ⟨_, rfl, fun K => (((Keeps.refl K w).alloc _).alloc _).alloc _, ((Blk.new w T C.toArray).alloc _).alloc _, b2, b3⟩
/-- stored over two blocks, one behind the other; a third one stays -/
theorem two_over {w : World} {P Q R : Nat} {T : TypeId} {C0 C1 C2 D1 D2 : List Value} (bp : Blk w P T C0) (bq : Blk w Q T D1) (br : Blk w R T D2) (h1 : C1.length = D1.length) (h2 : C2.length = D2.length) (n1 : P ≠ Q) (n2 : P ≠ R) (n3 : Q ≠ R) :
    w.there Q 0 C1.toArray.size ∧ (w.setCells Q 0 C1).there R 0 C2.toArray.size ∧ Blk ((w.setCells Q 0 C1).setCells R 0 C2) Q T C1 ∧ Blk ((w.setCells Q 0 C1).setCells R 0 C2) R T C2 ∧ Keeps (fun x => x = Q ∨ x = R) w ((w.setCells Q 0 C1).setCells R 0 C2) ∧ Blk (w.setCells Q 0 C1) P T C0 ∧ Blk ((w.setCells Q 0 C1).setCells R 0 C2) P T C0 := by
  obtain ⟨t0, b9, k9⟩ := over_all (vs := C1) bq h1
  have bR9 := Blk.keeps br k9 (fun e => n3 e.symm)
  obtain ⟨t1, b8, k8⟩ := over_all (vs := C2) bR9 h2
  have bP9 := Blk.keeps bp k9 n1
  exact ⟨t0, t1, Blk.keeps b9 k8 n3, b8, (k9.mono (fun x _ e => .inl e)).trans (k8.mono (fun x _ e => .inr e)), bP9, Blk.keeps bP9 k8 n2⟩
section
variable (w : World)

end
end Go.Proofs.YtgcdhfpbmcfedaaGreatDoor.pf
end
section
set_option linter.unusedVariables false
set_option linter.unusedSimpArgs false
namespace Go.Proofs.YtgcdhfpbmcfedaaGreatDoor.pf
open Go.RowKit Go.Proofs.YtgcdhfpbmcfedaaGreatDoor.oc Go.Proofs.YtgcdhfpbmcfedaaGreatDoor.mz Go.Proofs.YtgcdhfpbmcfedaaGreatDoor.wh
/-- a digit's value -/
def hexv (c : Nat) : Int := if 48 ≤ c ∧ c ≤ 57 then (c : Int) - 48 else if 97 ≤ c ∧ c ≤ 102 then (c : Int) - 87 else -1
/-- a text of IPv4 is read: places filled, the number, is there one, the bytes -/
def four4 : List Nat → Nat → Nat → Bool → List Nat → List Nat × Bool
  | [], k, n, sm, B => if ¬ sm = true ∨ 255 < n ∨ 3 < k then (B, false) else (B.set k n, decide (k + 1 = 4))
  | c :: r, k, n, sm, B =>
    if c = 46 then (if ¬ sm = true ∨ 255 < n ∨ 3 < k then (B, false) else four4 r (k + 1) 0 false (B.set k n))
    else if c < 48 ∨ 57 < c ∨ 255 < n then (B, false)
    else four4 r k (10 * n + (c - 48)) true B
def zeroA : Ad := ⟨false, List.replicate 16 0⟩
theorem w64s {x : Int} (h0 : 0 ≤ x) (h1 : x < 4611686018427387904) : wrap64 x = x := by unfold wrap64; omega
theorem zeroA_cells : adc zeroA = [.bool false, .int .u8 0, .int .u8 0, .int .u8 0, .int .u8 0, .int .u8 0, .int .u8 0, .int .u8 0, .int .u8 0, .int .u8 0, .int .u8 0, .int .u8 0, .int .u8 0, .int .u8 0, .int .u8 0, .int .u8 0, .int .u8 0] := rfl
theorem adc_set (v : Bool) (B : List Nat) (k x : Nat) : adc ⟨v, B.set k x⟩ = (adc ⟨v, B⟩).set (1 + k) (.int .u8 (x : Int)) := by
  simp [adc, b8s, List.map_set, Nat.add_comm 1 k]
structure FI (w wr : World) (l : List Nat) (m : Nat) (R : List Nat × Bool) (i k n : Nat) (sm : Bool) (B : List Nat) : Prop where
  im : i ≤ m + 1
  k4 : k ≤ 4
  n9 : n ≤ 2600
  len : B.length = 16
  lt : ∀ x ∈ B, x < 256
  bq : Blk wr (w.heap.size + 1) 24 (adc ⟨false, B⟩)
  bp : Blk wr w.heap.size 24 (adc zeroA)
  keep : ∀ S, Keeps S w wr
  val : i ≤ m → four4 (l.drop i) k n sm B = R
  fin : i = m + 1 → (B, decide (k = 4)) = R
theorem FI.wf {w wr : World} {l : List Nat} {m : Nat} {R : List Nat × Bool} {i k n : Nat} {sm : Bool} {B : List Nat} (h : FI w wr l m R i k n sm B) : (⟨false, B⟩ : Ad).Wf := ⟨h.len, h.lt⟩
theorem FI.ret {w wr : World} {l : List Nat} {m : Nat} {R : List Nat × Bool} {i k n : Nat} {sm : Bool} {B : List Nat} (h : FI w wr l m R i k n sm B) :
    ((wr.rangeAt (w.heap.size + 1) 0 (adc ⟨false, B⟩)) ∧ wr.there w.heap.size 0 (adc ⟨false, B⟩).toArray.size) ∧ ((Tryz.prog.info? 24).map (·.size) = some (adc ⟨false, B⟩).length ∧ (Tryz.prog.info? 24).map (·.size) = some (adc ⟨false, B⟩).toArray.size) ∧ (adc ⟨false, B⟩).toArray.all (·.oneCell') = true ∧
    Blk (wr.setCells w.heap.size 0 (adc ⟨false, B⟩)) w.heap.size 24 (adc ⟨false, B⟩) ∧ ∀ S, Keeps S w (wr.setCells w.heap.size 0 (adc ⟨false, B⟩)) := by
  have hl : (adc ⟨false, B⟩).length = 17 := adc_len h.wf
  obtain ⟨t0, b9, k9⟩ := over_all (vs := adc ⟨false, B⟩) h.bp (by rw [hl]; rfl)
  refine ⟨⟨Blk.range h.bq, t0⟩, ⟨by rw [hl]; exact addr_info, by rw [List.size_toArray, hl]; exact addr_info⟩, all_oneCell_toArray (ad_one _), b9, fun S => ?_⟩
  have kk := h.keep S
  exact ⟨Nat.le_trans kk.size k9.size, fun x hx hs => by rw [k9.block x (Nat.lt_of_lt_of_le hx kk.size) (by omega), kk.block x hx hs], kk.same.trans k9.same⟩
/-- a number is put at its place -/
theorem FI.put {w wr : World} {l : List Nat} {m : Nat} {R : List Nat × Bool} {i k n : Nat} {sm : Bool} {B : List Nat} (h : FI w wr l m R i k n sm B) (hn : n ≤ 255) (hk : k ≤ 3) (hi : i ≤ m) (hv : i + 1 ≤ m → four4 (l.drop (i + 1)) (k + 1) 0 false (B.set k n) = R) (hf : i + 1 = m + 1 → (B.set k n, decide (k + 1 = 4)) = R) :
    FI w (wr.setCell ⟨w.heap.size + 1, 1 + k, none⟩ (.int .u8 (n : Int))) l m R (i + 1) (k + 1) 0 false (B.set k n) := by
  have kD : Keeps (· = w.heap.size + 1) wr (wr.setCell ⟨w.heap.size + 1, 1 + k, none⟩ (.int .u8 (n : Int))) := Keeps.here _
  refine ⟨by omega, by omega, by omega, by simp [h.len], fun x hx => ?_, ?_, Blk.keeps h.bp kD (by omega), fun S => ?_, hv, hf⟩
  · rcases List.mem_or_eq_of_mem_set hx with q | q
    · exact h.lt x q
    · omega
  · rw [adc_set]; exact h.bq.put (1 + k) (.int .u8 (n : Int))
  · have kk := h.keep S
    exact ⟨Nat.le_trans kk.size kD.size, fun x hx hs => by rw [kD.block x (Nat.lt_of_lt_of_le hx kk.size) (by omega), kk.block x hx hs], kk.same.trans kD.same⟩
theorem FI.cell {w wr : World} {l : List Nat} {m : Nat} {R : List Nat × Bool} {i k n : Nat} {sm : Bool} {B : List Nat} (h : FI w wr l m R i k n sm B) (hk : k ≤ 3) : wr.cell? ⟨w.heap.size + 1, 1 + k, none⟩ = some (.int .u8 ((byt ⟨false, B⟩ k : Nat) : Int)) ∧ wr.frozen? ⟨w.heap.size + 1, 1 + k, none⟩ = false :=
  ⟨ad_byt h.wf h.bq (by omega), h.bq.frozen _⟩
section
variable (w : World)
end
end Go.Proofs.YtgcdhfpbmcfedaaGreatDoor.pf
end
section
namespace Go.Proofs.YtgcdhfpbmcfedaaGreatDoor.oc
open Go.RowKit Go.Proofs.YtgcdhfpbmcfedaaGreatDoor.mz
/-- v shows the elements xs, in a block of the call's own, from wherever in it -/
def Que (w : World) (base : Nat) (e : TypeId) (v : Value) (xs : List Value) : Prop :=
  (v = .slice none 0 0 ∧ xs = []) ∨
  ∃ g off cap cs, v = .slice (some ⟨g, off, none⟩) xs.length cap ∧ base ≤ g ∧ Blk w g e cs ∧ xs.length ≤ cap ∧ off + cap ≤ cs.length ∧ ∀ k u, xs[k]? = some u → cs[off + k]? = some u
section
variable {P : Program} {w w' : World} {base : Nat} {e : TypeId} {v : Value} {xs : List Value}
theorem Que.nil_ (w : World) (base : Nat) (e : TypeId) : Que w base e (.slice none 0 0) [] := .inl ⟨rfl, rfl⟩
theorem Que.form (h : Que w base e v xs) : ∃ A c, v = .slice A xs.length c := by
  rcases h with ⟨rfl, rfl⟩ | ⟨g, off, cap, cs, rfl, _⟩
  · exact ⟨none, 0, rfl⟩
  · exact ⟨_, _, rfl⟩
theorem Que.lt (h : Que w base e v xs) {b : Nat} (hb : v.ownBlock = some b) : base ≤ b ∧ b < w.heap.size := by
  rcases h with ⟨rfl, _⟩ | ⟨g, off, cap, cs, rfl, h1, h2, _⟩
  · simp [Value.ownBlock] at hb
  · simp [Value.ownBlock] at hb
    subst hb
    exact ⟨h1, h2.lt⟩
theorem Que.keeps {S : Nat → Prop} (h : Que w base e v xs) (k : Keeps S w w') (hs : ∀ b, v.ownBlock = some b → ¬ S b) : Que w' base e v xs := by
  rcases h with h | ⟨g, off, cap, cs, rfl, h1, h2, h3⟩
  · exact .inl h
  · exact .inr ⟨g, off, cap, cs, rfl, h1, Blk.keeps h2 k (hs g rfl), h3⟩
theorem Que.alloc (h : Que w base e v xs) (o : Obj) : Que (w.alloc o) base e v xs := h.keeps ((Keeps.refl (fun _ => False) w).alloc o) (fun _ _ z => z)
/-- the front, and what is behind it -/
theorem Que.front {A : Option Addr} {n c : Nat} {x : Value} {r : List Value} (h : Que w base e (.slice A n c) (x :: r)) :
    ∃ b o, A = some ⟨b, o, none⟩ ∧ n = r.length + 1 ∧ n ≤ c ∧ w.cell? ⟨b, o, none⟩ = some x ∧ Que w base e (.slice (if c = 1 then A else A.map (·.add 1)) r.length (c - 1)) r := by
  rcases h with ⟨_, h⟩ | ⟨g, off, cap, cs, he, h1, h2, h3, h4, h5⟩
  · cases h
  · injection he with ha hn hc
    subst ha; subst hn; subst hc
    simp only [List.length_cons] at h3
    refine ⟨g, off, rfl, by simp, by simpa using h3, by rw [h2.cell]; exact h5 0 x rfl, .inr ?_⟩
    by_cases h6 : c = 1
    · subst h6
      have hr : r = [] := List.eq_nil_of_length_eq_zero (by omega)
      subst hr
      exact ⟨g, off, 0, cs, by simp, h1, h2, by simp, by omega, fun k u hk => by simp at hk⟩
    · refine ⟨g, off + 1, c - 1, cs, by simp [h6, Addr.add_lit], h1, h2, by omega, by omega, fun k u hk => ?_⟩
      have := h5 (k + 1) u (by simpa using hk)
      rwa [show off + (k + 1) = off + 1 + k from by omega] at this
theorem Que.run_append (t ty : TypeId) (i : TypeInfo) (z : Value) (bytes : Nat) (ht : P.underlying t = some (.slice e)) (hi : P.info? e = some i) (hz : i.zero = some z)
    (hsize : i.size = 1) (hby : i.bytes = bytes) (hzs : z.cells.size = 1) (h : Que w base e v xs) (ad : Addr) (c : Nat) (u : Value) (hu : w.cell? ad = some u) (h1 : u.oneCell' = true)
    (hn : xs.length + 1 ≤ maxLen) (hb : (xs.length + 1) * bytes ≤ 140737488355328) (hbase : base ≤ w.heap.size) :
    ∃ v' w', (Builtin.append_ #[t, t] ty #[v, .slice (some ad) 1 c]).run P w = .ok v' w' ∧ Que w' base e v' (xs ++ [u]) ∧ w.grownBy w' v.ownBlock ∧ (v'.ownBlock = v.ownBlock ∨ v'.ownBlock = some w.heap.size) := by
  subst hby
  have hnews : ∀ j y, [u][j]? = some y → w.cell? (ad.add j) = some y := fun j y hj => by
    rcases j with _ | j
    · simp at hj; subst hj; simp [Addr.add, hu]
    · simp at hj
  have h1' : ∀ y ∈ [u], y.oneCell' = true := fun y hy => by simp at hy; subst hy; exact h1
  have hl : [u].length = 1 * i.size := by rw [hsize]; rfl
  have hmx : maxLen ≤ 9223372036854775807 := by unfold maxLen; omega
  rcases h with ⟨rfl, rfl⟩ | ⟨g, off, cap, cs, rfl, hg, hblk, hc1, hc2, hc3⟩
  · have hr := run_append_nil (P := P) w t ty e i z ht hi hz ad 1 c [u] hl hnews (by omega) (by omega) (by simp only [List.length_nil] at hb; omega)
    refine ⟨_, _, hr, .inr ⟨w.heap.size, 0, grownCap w 1 0 e, ([u].toArray ++ Builtin.zeroCells z.cells (grownCap w 1 0 e - 1)).toList, rfl, hbase, ?_, ?_, ?_, ?_⟩, ?_, .inr rfl⟩
    · exact Blk.new w.drew e _
    · exact grownCap_ge w 1 0 e
    · have := grownCap_ge w 1 0 e
      simp [size_zeroCells, hzs]
      omega
    · intro k y hk
      rcases k with _ | k
      · simpa using hk
      · simp at hk
    · exact ⟨rfl, rfl, rfl, by simp, fun k hk _ => heap_alloc_old w.drew _ hk⟩
  · by_cases hroom : xs.length + 1 ≤ cap
    · have hr := run_append_room_src (P := P) w t t ty e i ht hi g off xs.length cap (.slice (some ad) 1 c) 1 [u] (Src.ofSlice w ht ad 1 c [u] hl hnews h1') hroom
        (fun j hj => by simp at hj; subst hj; rw [hblk.cell, hsize, List.getElem?_eq_getElem (by omega)]; rfl) (fun j hj => hblk.frozen _)
      rw [hsize] at hr
      refine ⟨_, _, hr, .inr ⟨g, off, cap, cs.set (off + xs.length) u, by simp, hg, ?_, by simpa using hroom, by simpa using hc2, ?_⟩, ?_, .inl rfl⟩
      · have := hblk.put (off + xs.length) u
        simpa [World.setCells] using this
      · intro k y hk
        rcases Nat.lt_trichotomy k xs.length with q | q | q
        · rw [List.getElem?_append_left q] at hk
          rw [List.getElem?_set_ne (by omega)]
          exact hc3 k y hk
        · subst q
          simp at hk
          subst hk
          rw [List.getElem?_set_self (by omega)]
        · rw [List.getElem?_append_right (by omega)] at hk
          rw [List.getElem?_eq_none (by simp; omega)] at hk
          cases hk
      · refine ⟨rfl, rfl, rfl, by simp [World.setCells], fun k _ hk => ?_⟩
        have hne : k ≠ g := fun e => hk (by simp [Value.ownBlock, e])
        exact Below.heap_setCell w ⟨g, off + xs.length * 1, none⟩ u k hne
    · have holds : ∀ j y, xs[j]? = some y → w.cell? ((⟨g, off, none⟩ : Addr).add j) = some y := fun j y hj => by
        rw [Addr.add_lit, hblk.cell]; exact hc3 j y hj
      have hr := run_append_grow (P := P) w t ty e i z ht hi hz ⟨g, off, none⟩ xs.length cap xs (by rw [hsize]; omega) holds ad 1 c [u] hl hnews (by omega) (by omega) (growslice_fits (by omega) hb)
      refine ⟨_, _, hr, .inr ⟨w.heap.size, 0, grownCap w (xs.length + 1) cap e, (xs.toArray ++ [u].toArray ++ Builtin.zeroCells z.cells (grownCap w (xs.length + 1) cap e - (xs.length + 1))).toList, by simp, hbase, ?_, ?_, ?_, ?_⟩, ?_, .inr rfl⟩
      · exact Blk.new w.drew e _
      · have := grownCap_ge w (xs.length + 1) cap e
        simpa using this
      · have := grownCap_ge w (xs.length + 1) cap e
        simp [size_zeroCells, hzs]
        omega
      · intro k y hk
        have hl2 := (List.getElem?_eq_some_iff.1 hk).1
        simp only [Nat.zero_add, Array.toList_append]
        rw [List.getElem?_append_left (by simpa using hl2)]
        simpa using hk
      · exact ⟨rfl, rfl, rfl, by simp, fun k hk _ => heap_alloc_old w.drew _ hk⟩
theorem Que.wp_append {o : Oper} {a : Act} {K : Act → World → Prop} {Q : Exit → Act → World → Prop} (s x : Operand) (t : TypeId)
    (ho : o.op = .call { callee := .builtin .append, args := #[s, x], argTypes := #[t, t] }) (i : TypeInfo) (z : Value) (bytes : Nat) (ht : P.underlying t = some (.slice e)) (hi : P.info? e = some i) (hz : i.zero = some z)
    (hsize : i.size = 1) (hby : i.bytes = bytes) (hzs : z.cells.size = 1) (hs : a.eval s = v) (h : Que w base e v xs) (ad : Addr) (c : Nat) (u : Value) (hx : a.eval x = .slice (some ad) 1 c) (hu : w.cell? ad = some u) (h1 : u.oneCell' = true)
    (hn : xs.length + 1 ≤ maxLen) (hb : (xs.length + 1) * bytes ≤ 140737488355328) (hbase : base ≤ w.heap.size)
    (hk : ∀ v' w', Que w' base e v' (xs ++ [u]) → w.grownBy w' v.ownBlock → (v'.ownBlock = v.ownBlock ∨ v'.ownBlock = some w.heap.size) → K (a.put o.dst v') w') : o.wp P a w K Q := by
  obtain ⟨v', w', hr, h2, h3, h4⟩ := Que.run_append (P := P) t o.type i z bytes ht hi hz hsize hby hzs h ad c u hu h1 hn hb hbase
  unfold Oper.wp execOp
  simp only [ho, resolve, invoke, builtin, Sem.run_bind, Sem.run_pure, Result.andThen_ok, List.map_toArray, List.map_cons, List.map_nil, hs, hx, hr]
  exact hk v' w' h2 h3 h4
theorem Que.wpList_append {ops : Array Oper} {rest : List Oper} {o : Oper} {a : Act} {Q : Exit → Act → World → Prop} (hgd : o.guard = none) (s x : Operand) (t : TypeId)
    (ho : o.op = .call { callee := .builtin .append, args := #[s, x], argTypes := #[t, t] }) (i : TypeInfo) (z : Value) (bytes : Nat) (ht : P.underlying t = some (.slice e)) (hi : P.info? e = some i) (hz : i.zero = some z)
    (hsize : i.size = 1) (hby : i.bytes = bytes) (hzs : z.cells.size = 1) (hs : a.eval s = v) (h : Que w base e v xs) (ad : Addr) (c : Nat) (u : Value) (hx : a.eval x = .slice (some ad) 1 c) (hu : w.cell? ad = some u) (h1 : u.oneCell' = true)
    (hn : xs.length + 1 ≤ maxLen) (hb : (xs.length + 1) * bytes ≤ 140737488355328) (hbase : base ≤ w.heap.size)
    (hk : ∀ v' w', Que w' base e v' (xs ++ [u]) → w.grownBy w' v.ownBlock → (v'.ownBlock = v.ownBlock ∨ v'.ownBlock = some w.heap.size) → wpList P ops Q rest (a.put o.dst v') w') : wpList P ops Q (o :: rest) a w :=
  wpList_plain hgd fun _ hK => Que.wp_append s x t ho i z bytes ht hi hz hsize hby hzs hs h ad c u hx hu h1 hn hb hbase fun v' w' h2 h3 h4 => hK _ _ (hk v' w' h2 h3 h4)
end
end Go.Proofs.YtgcdhfpbmcfedaaGreatDoor.oc
end
section
set_option linter.unusedVariables false
set_option linter.unusedSimpArgs false
namespace Go.Proofs.YtgcdhfpbmcfedaaGreatDoor.pf
open Go.RowKit Go.Proofs.YtgcdhfpbmcfedaaGreatDoor.oc Go.Proofs.YtgcdhfpbmcfedaaGreatDoor.mz Go.Proofs.YtgcdhfpbmcfedaaGreatDoor.wh
def i64s (l : List Nat) : List Value := l.map (fun (x : Nat) => Value.int .i64 (x : Int))
/-- a text of numbers between colons is read: the number, its digits, what stands behind -/
def numsF : List Nat → Nat → Nat → List Nat → List Nat × Bool
  | [], n, c, o => if c = 0 ∨ 4 < c ∨ o.length = 8 then ([], false) else (o ++ [n], true)
  | x :: r, n, c, o =>
    if x = 58 then (if c = 0 ∨ 4 < c ∨ o.length = 8 then ([], false) else numsF r 0 0 (o ++ [n]))
    else if hexv x < 0 ∨ 4 < c then ([], false)
    else numsF r (16 * n + (hexv x).toNat) (c + 1) o
def nums (l : List Nat) : List Nat × Bool := if l = [] then ([], true) else numsF l 0 0 []
structure NI (w wr : World) (l : List Nat) (m : Nat) (R : List Nat × Bool) (i n c : Nat) (o : List Nat) (v : Value) : Prop where
  im : i ≤ m + 1
  c5 : c ≤ 5
  np : n < 16 ^ c
  o8 : o.length ≤ 8
  os : ∀ x ∈ o, x < 65536
  q : Que wr w.heap.size 3 v (i64s o)
  keep : ∀ S, Keeps S w wr
  val : i ≤ m → numsF (l.drop i) n c o = R
  fin : i = m + 1 → (o, true) = R
theorem pow16 {c : Nat} (h : c ≤ 4) : 16 ^ c ≤ 65536 := Nat.le_trans (Nat.pow_le_pow_right (by omega) h) (by decide)
theorem NI.push {w wr w9 : World} {l : List Nat} {m : Nat} {R : List Nat × Bool} {i n c : Nat} {o : List Nat} {v v2 : Value} {ob : Obj} (h : NI w wr l m R i n c o v) (hc : c ≤ 4) (h8 : ¬ o.length = 8) (hi : i ≤ m)
    (hq2 : Que w9 w.heap.size 3 v2 (i64s o ++ [.int .i64 (n : Int)])) (hg : (wr.alloc ob).grownBy w9 v.ownBlock)
    (hv : i + 1 ≤ m → numsF (l.drop (i + 1)) 0 0 (o ++ [n]) = R) (hf : i + 1 = m + 1 → (o ++ [n], true) = R) : NI w w9 l m R (i + 1) 0 0 (o ++ [n]) v2 := by
  have k2 : Keeps (fun b => v.ownBlock = some b) wr w9 := ((Keeps.refl _ wr).alloc ob).trans (Keeps.of_grown hg)
  have hlt : ∀ b, v.ownBlock = some b → w.heap.size ≤ b := fun b hb => (h.q.lt hb).1
  have hp := pow16 hc
  have := h.np
  refine ⟨by omega, by omega, by simp, by have := h.o8; simp; omega, fun x hx => ?_, by simpa [i64s] using hq2, fun S => ?_, hv, hf⟩
  · rcases List.mem_append.1 hx with z | z
    · exact h.os x z
    · simp at z; omega
  · have kk := h.keep S
    exact ⟨Nat.le_trans kk.size k2.size, fun x hx hs => by rw [k2.block x (Nat.lt_of_lt_of_le hx kk.size) (fun e => by have := hlt x e; omega), kk.block x hx hs], kk.same.trans k2.same⟩
/-- what numbers answers -/
def NumAns (w : World) (R : List Nat × Bool) (e : Ending) (w' : World) : Prop := ∃ A c, e = .returned (.tuple #[.slice A R.1.length c, .bool R.2]) ∧ Que w' w.heap.size 3 (.slice A R.1.length c) (i64s R.1) ∧ (∀ x ∈ R.1, x < 65536) ∧ R.1.length ≤ 8 ∧ ∀ S, Keeps S w w'
theorem NumAns.none_ {w w' : World} (k : ∀ S, Keeps S w w') (ok : Bool) : NumAns w ([], ok) (.returned (.tuple #[.slice none 0 0, .bool ok])) w' := ⟨none, 0, rfl, Que.nil_ _ _ _, fun x hx => by simp at hx, by simp, k⟩
section
variable (w : World)
end
end Go.Proofs.YtgcdhfpbmcfedaaGreatDoor.pf
end
section
set_option linter.unusedVariables false
namespace Go.Proofs.YtgcdhfpbmcfedaaGreatDoor.pf
open Go.RowKit Go.Proofs.YtgcdhfpbmcfedaaGreatDoor.oc Go.Proofs.YtgcdhfpbmcfedaaGreatDoor.mz
/-- where two colons stand side by side first -/
def gapL : List Nat → Option Nat
  | [] => none
  | [_] => none
  | x :: y :: r => if x = 58 ∧ y = 58 then some 0 else (gapL (y :: r)).map (· + 1)
/-- numbers are put at their places, from the k-th on -/
def putN : List Nat → Nat → List Nat → List Nat
  | B, _, [] => B
  | B, k, n :: r => putN ((B.set (2 * k) (n / 256)).set (2 * k + 1) (n % 256)) (k + 1) r
def zero16 : List Nat := List.replicate 16 0
def headL (l : List Nat) : List Nat := match gapL l with | some j => l.take j | none => l
def tailL (l : List Nat) : List Nat := match gapL l with | some j => l.drop (j + 2) | none => []
def badL (l : List Nat) : Prop := (nums (headL l)).2 = false ∨ (nums (tailL l)).2 = false ∨ (gapL l = none ∧ ¬ (nums (headL l)).1.length = 8) ∨ 8 < (nums (headL l)).1.length + (nums (tailL l)).1.length
open Classical in
noncomputable def sixF (l : List Nat) : List Nat × Bool := if badL l then (zero16, false) else (putN (putN zero16 0 (nums (headL l)).1) (8 - (nums (tailL l)).1.length) (nums (tailL l)).1, true)
theorem head_none {l : List Nat} (h : gapL l = none) : headL l = l := by unfold headL; rw [h]
theorem tail_none {l : List Nat} (h : gapL l = none) : tailL l = [] := by unfold tailL; rw [h]
theorem head_some {l : List Nat} {j : Nat} (h : gapL l = some j) : headL l = l.take j := by unfold headL; rw [h]
theorem tail_some {l : List Nat} {j : Nat} (h : gapL l = some j) : tailL l = l.drop (j + 2) := by unfold tailL; rw [h]
end Go.Proofs.YtgcdhfpbmcfedaaGreatDoor.pf
end
section
set_option linter.unusedVariables false
set_option linter.unusedSimpArgs false
namespace Go.Proofs.YtgcdhfpbmcfedaaGreatDoor.pf
open Go.RowKit Go.Proofs.YtgcdhfpbmcfedaaGreatDoor.oc Go.Proofs.YtgcdhfpbmcfedaaGreatDoor.mz Go.Proofs.YtgcdhfpbmcfedaaGreatDoor.wh
def zero6 : Ad := ⟨true, zero16⟩
theorem str_extract (l : List Nat) (i j : Nat) : (str l).extract i j = str ((l.drop i).take (j - i)) := by
  apply ByteArray.ext
  simp [str, ByteArray.data_extract, List.drop_take]
theorem Que.at_ {w : World} {base : Nat} {e : TypeId} {A : Option Addr} {n c : Nat} {xs : List Value} (h : Que w base e (.slice A n c) xs) {k : Nat} {x : Value} (hk : xs[k]? = some x) :
    ∃ b o, A = some ⟨b, o, none⟩ ∧ base ≤ b ∧ b < w.heap.size ∧ w.cell? ⟨b, o + k, none⟩ = some x := by
  have hq := h
  rcases h with ⟨_, rfl⟩ | ⟨g, off, cap, cs, he, h1, h2, h3, h4, h5⟩
  · simp at hk
  · injection he with ha hn hc
    subst ha
    exact ⟨g, off, rfl, (hq.lt rfl).1, h2.lt, by rw [h2.cell]; exact h5 k x hk⟩
/-- the address that is filled, and the result's place -/
structure SI (w wr : World) (B : List Nat) : Prop where
  len : B.length = 16
  lt : ∀ x ∈ B, x < 256
  bq : Blk wr (w.heap.size + 1) 24 (adc ⟨true, B⟩)
  bp : Blk wr w.heap.size 24 (adc zeroA)
  keep : ∀ S, Keeps S w wr
theorem SI.wf {w wr : World} {B : List Nat} (h : SI w wr B) : (⟨true, B⟩ : Ad).Wf := ⟨h.len, h.lt⟩
theorem SI.keeps {w wr w' : World} {B : List Nat} (h : SI w wr B) (k : ∀ S, Keeps S wr w') : SI w w' B := ⟨h.len, h.lt, Blk.keeps h.bq (k (fun _ => False)) (fun z => z), Blk.keeps h.bp (k (fun _ => False)) (fun z => z), fun S => (h.keep S).trans (k S)⟩
theorem SI.ret {w wr : World} {B : List Nat} (h : SI w wr B) :
    ((wr.rangeAt (w.heap.size + 1) 0 (adc ⟨true, B⟩)) ∧ wr.there w.heap.size 0 (adc ⟨true, B⟩).toArray.size) ∧ ((Tryz.prog.info? 24).map (·.size) = some (adc ⟨true, B⟩).length ∧ (Tryz.prog.info? 24).map (·.size) = some (adc ⟨true, B⟩).toArray.size) ∧ (adc ⟨true, B⟩).toArray.all (·.oneCell') = true ∧
    Blk (wr.setCells w.heap.size 0 (adc ⟨true, B⟩)) w.heap.size 24 (adc ⟨true, B⟩) ∧ ∀ S, Keeps S w (wr.setCells w.heap.size 0 (adc ⟨true, B⟩)) := by
  have hl : (adc ⟨true, B⟩).length = 17 := adc_len h.wf
  obtain ⟨t0, b9, k9⟩ := over_all (vs := adc ⟨true, B⟩) h.bp (by rw [hl]; rfl)
  refine ⟨⟨Blk.range h.bq, t0⟩, ⟨by rw [hl]; exact addr_info, by rw [List.size_toArray, hl]; exact addr_info⟩, all_oneCell_toArray (ad_one _), b9, fun S => ?_⟩
  have kk := h.keep S
  exact ⟨Nat.le_trans kk.size k9.size, fun x hx hs => by rw [k9.block x (Nat.lt_of_lt_of_le hx kk.size) (by omega), kk.block x hx hs], kk.same.trans k9.same⟩
theorem SI.cell {w wr : World} {B : List Nat} (h : SI w wr B) {p : Nat} (hp : p < 16) : (∃ u, wr.cell? ⟨w.heap.size + 1, 1 + p, none⟩ = some u) ∧ wr.frozen? ⟨w.heap.size + 1, 1 + p, none⟩ = false :=
  ⟨⟨_, ad_byt h.wf h.bq hp⟩, h.bq.frozen _⟩
/-- two bytes are put -/
theorem SI.put {w wr : World} {B : List Nat} (h : SI w wr B) {p q x y : Nat} (hp : p < 16) (hq : q < 16) (hx : x < 256) (hy : y < 256) :
    SI w ((wr.setCell ⟨w.heap.size + 1, 1 + p, none⟩ (.int .u8 (x : Int))).setCell ⟨w.heap.size + 1, 1 + q, none⟩ (.int .u8 (y : Int))) ((B.set p x).set q y) ∧ Keeps (· = w.heap.size + 1) wr ((wr.setCell ⟨w.heap.size + 1, 1 + p, none⟩ (.int .u8 (x : Int))).setCell ⟨w.heap.size + 1, 1 + q, none⟩ (.int .u8 (y : Int))) := by
  have kD : Keeps (· = w.heap.size + 1) wr ((wr.setCell ⟨w.heap.size + 1, 1 + p, none⟩ (.int .u8 (x : Int))).setCell ⟨w.heap.size + 1, 1 + q, none⟩ (.int .u8 (y : Int))) := (Keeps.here _).trans (Keeps.here _)
  refine ⟨⟨by simp [h.len], fun z hz => ?_, ?_, Blk.keeps h.bp kD (by omega), fun S => ?_⟩, kD⟩
  · rcases List.mem_or_eq_of_mem_set hz with c | c
    · rcases List.mem_or_eq_of_mem_set c with d | d
      · exact h.lt z d
      · omega
    · omega
  · rw [adc_set, adc_set]; exact (h.bq.put (1 + p) _).put (1 + q) _
  · have kk := h.keep S
    exact ⟨Nat.le_trans kk.size kD.size, fun x hx hs => by rw [kD.block x (Nat.lt_of_lt_of_le hx kk.size) (by omega), kk.block x hx hs], kk.same.trans kD.same⟩
/-- a list of numbers that lies elsewhere -/
def Nums (w wr : World) (A : Option Addr) (n c : Nat) (X : List Nat) : Prop := ∀ (i x : Nat), X[i]? = some x → ∃ b o, A = some ⟨b, o, none⟩ ∧ b ≠ w.heap.size + 1 ∧ b < wr.heap.size ∧ wr.cell? ⟨b, o + i, none⟩ = some (.int .i64 (x : Int))
theorem Nums.keeps {w wr w' : World} {A : Option Addr} {n c : Nat} {X : List Nat} (h : Nums w wr A n c X) (k : Keeps (· = w.heap.size + 1) wr w') : Nums w w' A n c X := fun i x hx => by
  obtain ⟨b, o, h1, h2, h3, h4⟩ := h i x hx
  exact ⟨b, o, h1, h2, Nat.lt_of_lt_of_le h3 k.size, Keeps.cell k h4 h2⟩
theorem Nums.of {w w2 wr : World} {A : Option Addr} {c : Nat} {X : List Nat} (h : Que wr w2.heap.size 3 (.slice A X.length c) (i64s X)) (hz : w.heap.size + 1 < w2.heap.size) : Nums w wr A X.length c X := fun i x hx => by
  obtain ⟨b, o, h1, h2, h3, h4⟩ := Que.at_ h (k := i) (x := .int .i64 (x : Int)) (by simp [i64s, hx])
  exact ⟨b, o, h1, by omega, h3, h4⟩
section
variable (w : World)
end
end Go.Proofs.YtgcdhfpbmcfedaaGreatDoor.pf
end
section
set_option linter.unusedVariables false
set_option linter.unusedSimpArgs false
namespace Go.Proofs.YtgcdhfpbmcfedaaGreatDoor.pf
open Go.RowKit Go.Proofs.YtgcdhfpbmcfedaaGreatDoor.oc Go.Proofs.YtgcdhfpbmcfedaaGreatDoor.mz
theorem dec_form (n : Nat) (h : n < 256) : (n < 10 ∧ dec n = [48 + n]) ∨ (10 ≤ n ∧ n < 100 ∧ dec n = [48 + n / 10, 48 + n % 10]) ∨ (100 ≤ n ∧ dec n = [48 + n / 100, 48 + n / 10 % 10, 48 + n % 10]) := by
  have sg : ∀ d, d < 10 → sign d = 48 + d := fun d hd => by unfold sign; rw [if_pos hd]
  rcases Nat.lt_or_ge n 10 with h1 | h1
  · left
    refine ⟨h1, ?_⟩
    unfold dec; rw [dg, if_pos h1, sg n h1]
  · right
    rcases Nat.lt_or_ge n 100 with h2 | h2
    · left
      refine ⟨h1, h2, ?_⟩
      unfold dec
      rw [dg, if_neg (by omega), dg, if_pos (by omega), sg _ (by omega), sg _ (by omega)]
      rfl
    · right
      refine ⟨h2, ?_⟩
      unfold dec
      rw [dg, if_neg (by omega), dg, if_neg (by omega), dg, if_pos (by omega), sg _ (by omega), sg _ (by omega), sg _ (by omega), show n / 10 / 10 = n / 100 from by omega]
      rfl
/-- a digit is read -/
theorem four4_digit (d k n : Nat) (sm : Bool) (B r : List Nat) (hd : d < 10) (hn : n ≤ 255) : four4 ((48 + d) :: r) k n sm B = four4 r k (10 * n + d) true B := by
  rw [four4, if_neg (by omega), if_neg (by omega), show 48 + d - 48 = d from by omega]
theorem four4_dec (n k : Nat) (B r : List Nat) (h : n < 256) : four4 (dec n ++ r) k 0 false B = four4 r k n true B := by
  rcases dec_form n h with ⟨h1, e⟩ | ⟨h1, h2, e⟩ | ⟨h1, e⟩
  · rw [e]; simp only [List.cons_append, List.nil_append]
    rw [four4_digit n k 0 _ _ _ h1 (by omega), Nat.mul_zero, Nat.zero_add]
  · rw [e]; simp only [List.cons_append, List.nil_append]
    rw [four4_digit _ k 0 _ _ _ (by omega) (by omega), four4_digit _ k _ _ _ _ (by omega) (by omega)]
    congr 1; omega
  · rw [e]; simp only [List.cons_append, List.nil_append]
    rw [four4_digit _ k 0 _ _ _ (by omega) (by omega), four4_digit _ k _ _ _ _ (by omega) (by omega), four4_digit _ k _ _ _ _ (by omega) (by omega)]
    congr 1; omega
theorem four4_dot (k n : Nat) (B r : List Nat) (hn : n ≤ 255) (hk : k ≤ 3) : four4 (46 :: r) k n true B = four4 r (k + 1) 0 false (B.set k n) := by
  rw [four4, if_pos rfl, if_neg (by simp; omega)]
theorem four4_t4 {a : Ad} (h : a.Wf) : four4 (t4 a) 0 0 false (List.replicate 16 0) = ((((List.replicate 16 0).set 0 (byt a 0)).set 1 (byt a 1)).set 2 (byt a 2) |>.set 3 (byt a 3), true) := by
  have b := byt_lt h
  unfold t4
  simp only [List.append_assoc]
  rw [four4_dec _ _ _ _ (b 0), List.singleton_append, four4_dot _ _ _ _ (by have := b 0; omega) (by omega)]
  rw [four4_dec _ _ _ _ (b 1), List.singleton_append, four4_dot _ _ _ _ (by have := b 1; omega) (by omega)]
  rw [four4_dec _ _ _ _ (b 2), List.singleton_append, four4_dot _ _ _ _ (by have := b 2; omega) (by omega)]
  rw [show dec (byt a 3) = dec (byt a 3) ++ [] from by simp, four4_dec _ _ _ _ (b 3), four4, if_neg (by have := b 3; simp; omega)]
  rfl
/-- what has a colon is no text of IPv4 -/
theorem four4_colon : ∀ (l : List Nat) (k n : Nat) (sm : Bool) (B : List Nat), 58 ∈ l → (four4 l k n sm B).2 = false
  | [], k, n, sm, B, h => by simp at h
  | c :: r, k, n, sm, B, h => by
    rw [four4]
    by_cases hc : c = 46
    · rw [if_pos hc]
      have hr : 58 ∈ r := by rcases List.mem_cons.1 h with e | e; omega; exact e
      split
      · rfl
      · exact four4_colon r _ _ _ _ hr
    · rw [if_neg hc]
      split
      · rfl
      · rename_i hd
        have hr : 58 ∈ r := by rcases List.mem_cons.1 h with e | e; omega; exact e
        exact four4_colon r _ _ _ _ hr
theorem hexv_sign {d : Nat} (h : d < 16) : hexv (sign d) = (d : Int) ∧ sign d ≠ 58 := by
  unfold sign
  split
  · unfold hexv; rw [if_pos (by omega)]; exact ⟨by omega, by omega⟩
  · unfold hexv; rw [if_neg (by omega), if_pos (by omega)]; exact ⟨by omega, by omega⟩
theorem hx_form (n : Nat) (h : n < 65536) : (n < 16 ∧ hx n = [sign n]) ∨ (16 ≤ n ∧ n < 256 ∧ hx n = [sign (n / 16), sign (n % 16)]) ∨ (256 ≤ n ∧ n < 4096 ∧ hx n = [sign (n / 256), sign (n / 16 % 16), sign (n % 16)]) ∨ (4096 ≤ n ∧ hx n = [sign (n / 4096), sign (n / 256 % 16), sign (n / 16 % 16), sign (n % 16)]) := by
  rcases Nat.lt_or_ge n 16 with h1 | h1
  · left; refine ⟨h1, ?_⟩; unfold hx; rw [dg, if_pos h1]
  · right
    rcases Nat.lt_or_ge n 256 with h2 | h2
    · left; refine ⟨h1, h2, ?_⟩
      unfold hx
      rw [dg, if_neg (by omega), dg, if_pos (by omega)]; rfl
    · right
      rcases Nat.lt_or_ge n 4096 with h3 | h3
      · left; refine ⟨h2, h3, ?_⟩
        unfold hx
        rw [dg, if_neg (by omega), dg, if_neg (by omega), dg, if_pos (by omega), show n / 16 / 16 = n / 256 from by omega]; rfl
      · right; refine ⟨h3, ?_⟩
        unfold hx
        rw [dg, if_neg (by omega), dg, if_neg (by omega), dg, if_neg (by omega), dg, if_pos (by omega), show n / 16 / 16 / 16 = n / 4096 from by omega, show n / 16 / 16 % 16 = n / 256 % 16 from by omega]; rfl
theorem numsF_digit (d n c : Nat) (o r : List Nat) (hd : d < 16) (hc : c ≤ 4) : numsF (sign d :: r) n c o = numsF r (16 * n + d) (c + 1) o := by
  obtain ⟨e1, e2⟩ := hexv_sign hd
  rw [numsF, if_neg e2, if_neg (by rw [e1]; omega), e1]
  rfl
theorem hx_ok (n : Nat) (h : n < 65536) : (1 ≤ (hx n).length ∧ (hx n).length ≤ 4) ∧ (∀ c ∈ hx n, c ≠ 58) ∧ ∀ o r, numsF (hx n ++ r) 0 0 o = numsF r n (hx n).length o := by
  have sg := fun d hd => (hexv_sign (d := d) hd).2
  rcases hx_form n h with ⟨h1, e⟩ | ⟨h1, h2, e⟩ | ⟨h1, h2, e⟩ | ⟨h1, e⟩
  · rw [e]
    refine ⟨by simp, fun c hc => ?_, fun o r => ?_⟩
    · simp at hc; subst hc; exact sg _ h1
    · simp only [List.cons_append, List.nil_append]
      rw [numsF_digit n 0 0 o r h1 (by omega)]; simp
  · rw [e]
    refine ⟨by simp, fun c hc => ?_, fun o r => ?_⟩
    · simp at hc; rcases hc with hc | hc <;> subst hc <;> exact sg _ (by omega)
    · simp only [List.cons_append, List.nil_append]
      rw [numsF_digit _ 0 0 o _ (by omega) (by omega), numsF_digit _ _ _ o r (by omega) (by omega)]
      congr 1; omega
  · rw [e]
    refine ⟨by simp, fun c hc => ?_, fun o r => ?_⟩
    · simp at hc; rcases hc with hc | hc | hc <;> subst hc <;> exact sg _ (by omega)
    · simp only [List.cons_append, List.nil_append]
      rw [numsF_digit _ 0 0 o _ (by omega) (by omega), numsF_digit _ _ _ o _ (by omega) (by omega), numsF_digit _ _ _ o r (by omega) (by omega)]
      congr 1; omega
  · rw [e]
    refine ⟨by simp, fun c hc => ?_, fun o r => ?_⟩
    · simp at hc; rcases hc with hc | hc | hc | hc <;> subst hc <;> exact sg _ (by omega)
    · simp only [List.cons_append, List.nil_append]
      rw [numsF_digit _ 0 0 o _ (by omega) (by omega), numsF_digit _ _ _ o _ (by omega) (by omega), numsF_digit _ _ _ o _ (by omega) (by omega), numsF_digit _ _ _ o r (by omega) (by omega)]
      congr 1; omega
/-- numbers, colons between -/
def jn : List Nat → List Nat
  | [] => []
  | [n] => hx n
  | n :: m :: r => hx n ++ 58 :: jn (m :: r)
theorem jn_cons (n : Nat) (r : List Nat) : jn (n :: r) = hx n ++ (if r = [] then [] else 58 :: jn r) := by
  cases r with
  | nil => simp [jn]
  | cons m r => rw [jn]; simp
theorem jn_snoc : ∀ (l : List Nat) (n : Nat), jn (l ++ [n]) = jn l ++ (if l = [] then [] else [58]) ++ hx n
  | [], n => by simp [jn]
  | m :: r, n => by
    rw [List.cons_append, jn_cons, jn_snoc r n, jn_cons]
    cases r with
    | nil => simp [jn]
    | cons x y => simp
theorem numsF_jn : ∀ (ns : List Nat) (n : Nat) (o : List Nat), (∀ x ∈ n :: ns, x < 65536) → o.length + (n :: ns).length ≤ 8 → numsF (jn (n :: ns)) 0 0 o = (o ++ n :: ns, true)
  | [], n, o, h, hl => by
    obtain ⟨h1, h2, h3⟩ := hx_ok n (h n (by simp))
    have ho : o.length ≤ 7 := by simp at hl; omega
    rw [jn, show hx n = hx n ++ [] from by simp, h3, numsF, if_neg (by omega)]
  | m :: r, n, o, h, hl => by
    obtain ⟨h1, h2, h3⟩ := hx_ok n (h n (by simp))
    have ho : o.length ≤ 6 := by simp at hl; omega
    rw [jn, h3, numsF, if_pos rfl, if_neg (by omega), numsF_jn r m (o ++ [n]) (fun x hx => h x (List.mem_cons_of_mem _ hx)) (by simp at hl ⊢; omega)]
    simp
theorem jn_head (n : Nat) (r : List Nat) (h : n < 65536) : ∃ c t, jn (n :: r) = c :: t ∧ c ≠ 58 := by
  obtain ⟨h1, h2, _⟩ := hx_ok n h
  rw [jn_cons]
  cases hq : hx n with
  | nil => rw [hq] at h1; simp at h1
  | cons c t => exact ⟨c, _, rfl, h2 c (by rw [hq]; simp)⟩
theorem nums_jn (ns : List Nat) (h : ∀ x ∈ ns, x < 65536) (hl : ns.length ≤ 8) : nums (jn ns) = (ns, true) := by
  cases ns with
  | nil => rfl
  | cons n r =>
    obtain ⟨c, t, e, _⟩ := jn_head n r (h n (by simp))
    unfold nums
    rw [if_neg (by rw [e]; simp), numsF_jn r n [] h (by simpa using hl)]
    simp
theorem gap_cons {c : Nat} (h : c ≠ 58) (r : List Nat) : gapL (c :: r) = (gapL r).map (· + 1) := by
  cases r with
  | nil => rfl
  | cons y r => rw [gapL, if_neg (fun z => h z.1)]
theorem gap_skip : ∀ (l r : List Nat), (∀ c ∈ l, c ≠ 58) → gapL (l ++ r) = (gapL r).map (· + l.length)
  | [], r, _ => by simp
  | c :: l, r, h => by
    rw [List.cons_append, gap_cons (h c (by simp)), gap_skip l r (fun x hx => h x (List.mem_cons_of_mem _ hx)), Option.map_map]
    congr 1
    all_goals (funext z; simp <;> omega)
theorem gap_colon {y : Nat} (h : y ≠ 58) (r : List Nat) : gapL (58 :: y :: r) = (gapL (y :: r)).map (· + 1) := by rw [gapL, if_neg (fun z => h z.2)]
/-- behind numbers stands what has its gap at g -/
theorem gap_jn : ∀ (ns : List Nat) (r : List Nat), (∀ x ∈ ns, x < 65536) → (r = [] ∨ ∃ t, r = 58 :: 58 :: t) → gapL (jn ns ++ r) = (gapL r).map (· + (jn ns).length)
  | [], r, _, _ => by simp [jn]
  | [n], r, h, _ => by
    obtain ⟨_, h2, _⟩ := hx_ok n (h n (by simp))
    rw [jn, gap_skip _ _ h2]
  | n :: m :: ns, r, h, hr => by
    obtain ⟨_, h2, _⟩ := hx_ok n (h n (by simp))
    obtain ⟨c, t, e, hc⟩ := jn_head m ns (h m (by simp))
    have ih := gap_jn (m :: ns) r (fun x hx => h x (List.mem_cons_of_mem _ hx)) hr
    rw [jn, List.append_assoc, gap_skip _ _ h2, List.cons_append]
    have : gapL (58 :: (jn (m :: ns) ++ r)) = (gapL (jn (m :: ns) ++ r)).map (· + 1) := by
      rw [e, List.cons_append, gap_colon hc]
    rw [this, ih, Option.map_map, Option.map_map]
    congr 1
    all_goals (funext z; simp <;> omega)
/-- the first k numbers -/
def fst (nm : Nat → Nat) (k : Nat) : List Nat := (List.range k).map nm
theorem fst_succ (nm : Nat → Nat) (k : Nat) : fst nm (k + 1) = fst nm k ++ [nm k] := by simp [fst, List.range_succ]
/-- the numbers from the i-th on, n of them -/
def seg (nm : Nat → Nat) (i n : Nat) : List Nat := (List.range n).map (fun j => nm (i + j))
theorem seg_succ (nm : Nat → Nat) (i n : Nat) : seg nm i (n + 1) = seg nm i n ++ [nm (i + n)] := by simp [seg, List.range_succ]
theorem fst_nil (nm : Nat → Nat) (k : Nat) : fst nm k = [] ↔ k = 0 := by simp [fst]
theorem seg_nil (nm : Nat → Nat) (i k : Nat) : seg nm i k = [] ↔ k = 0 := by simp [seg]
theorem t6_plain (nm : Nat → Nat) (at_ long : Nat) (h : ¬ 1 < long) : ∀ k, t6up nm at_ long k = jn (fst nm k)
  | 0 => by simp [t6up, fst, jn]
  | k + 1 => by
    rw [t6up, t6_plain nm at_ long h k, fst_succ, jn_snoc]
    unfold sep piece col
    rw [if_neg (fun z => h z.1), if_neg (fun z => h z.1), List.append_nil, List.append_assoc]
    congr 1
    congr 1
    by_cases hk : k = 0
    · rw [if_neg (by omega), if_pos ((fst_nil nm k).2 hk)]
    · rw [if_pos ⟨by omega, fun z => h z.1⟩, if_neg (fun z => hk ((fst_nil nm k).1 z))]
theorem t6_ahead (nm : Nat → Nat) (at_ long : Nat) (h : 1 < long) : ∀ k, k ≤ at_ → t6up nm at_ long k = jn (fst nm k)
  | 0, _ => by simp [t6up, fst, jn]
  | k + 1, hk => by
    rw [t6up, t6_ahead nm at_ long h k (by omega), fst_succ, jn_snoc]
    unfold sep piece col
    rw [if_neg (by omega), if_neg (by omega), List.append_nil, List.append_assoc]
    congr 1
    congr 1
    by_cases hk0 : k = 0
    · rw [if_neg (by omega), if_pos ((fst_nil nm k).2 hk0)]
    · rw [if_pos ⟨by omega, by omega⟩, if_neg (fun z => hk0 ((fst_nil nm k).1 z))]
theorem t6_within (nm : Nat → Nat) (at_ long : Nat) (h : 1 < long) : ∀ n, n < long → t6up nm at_ long (at_ + (n + 1)) = jn (fst nm at_) ++ [58, 58]
  | 0, _ => by
    rw [Nat.zero_add, t6up, t6_ahead nm at_ long h at_ (Nat.le_refl _)]
    unfold sep piece
    rw [if_pos ⟨h, rfl⟩, if_pos ⟨h, by omega, by omega⟩, List.append_nil]
  | n + 1, hn => by
    rw [← Nat.add_assoc, t6up, t6_within nm at_ long h n (by omega)]
    unfold sep piece
    rw [if_neg (by omega), if_pos ⟨h, by omega, by omega⟩, List.append_nil, List.append_nil]
theorem t6_behind (nm : Nat → Nat) (at_ long : Nat) (h : 1 < long) : ∀ n, t6up nm at_ long (at_ + long + n) = jn (fst nm at_) ++ [58, 58] ++ jn (seg nm (at_ + long) n)
  | 0 => by
    have := t6_within nm at_ long h (long - 1) (by omega)
    rw [show at_ + (long - 1 + 1) = at_ + long from by omega] at this
    rw [Nat.add_zero, this]; simp [seg, jn]
  | n + 1 => by
    rw [← Nat.add_assoc, t6up, t6_behind nm at_ long h n, seg_succ, jn_snoc]
    unfold sep piece col
    rw [if_neg (by omega), if_neg (by omega), List.append_nil]
    by_cases hn : n = 0
    · rw [if_neg (by omega), if_pos ((seg_nil nm _ n).2 hn)]; simp
    · rw [if_pos ⟨by omega, by omega⟩, if_neg (fun z => hn ((seg_nil nm _ n).1 z))]; simp
/-- the text of an address of IPv6: with a gap, or without one -/
theorem t6_form (nm : Nat → Nat) : (∃ at_ long, 1 < long ∧ at_ + long ≤ 8 ∧ (∀ j, j < long → nm (at_ + j) = 0) ∧ t6 nm = jn (fst nm at_) ++ 58 :: 58 :: jn (seg nm (at_ + long) (8 - (at_ + long)))) ∨ t6 nm = jn (fst nm 8) := by
  unfold t6
  have h1 := (rowUp_le nm 8 (by omega)).1
  have h2 := fun j => rowUp_zero nm 8 j
  generalize (rowUp nm 8).1 = at_ at *
  generalize (rowUp nm 8).2 = long at *
  by_cases h : 1 < long
  · left
    refine ⟨at_, long, h, h1, h2, ?_⟩
    have := t6_behind nm at_ long h (8 - (at_ + long))
    rw [show at_ + long + (8 - (at_ + long)) = 8 from by omega] at this
    rw [this]; simp
  · right; exact t6_plain nm at_ long h 8
end Go.Proofs.YtgcdhfpbmcfedaaGreatDoor.pf
end
section
set_option linter.unusedVariables false
set_option linter.unusedSimpArgs false
namespace Go.Proofs.YtgcdhfpbmcfedaaGreatDoor.pf
open Go.RowKit Go.Proofs.YtgcdhfpbmcfedaaGreatDoor.oc Go.Proofs.YtgcdhfpbmcfedaaGreatDoor.mz
theorem colon_jn (n m : Nat) (r : List Nat) : 58 ∈ jn (n :: m :: r) := by rw [jn]; simp
theorem fst_eight (nm : Nat → Nat) : fst nm 8 = [nm 0, nm 1, nm 2, nm 3, nm 4, nm 5, nm 6, nm 7] := rfl
theorem t6_colon (nm : Nat → Nat) : 58 ∈ t6 nm := by
  rcases t6_form nm with ⟨at_, long, _, _, _, e⟩ | e
  · rw [e]; simp
  · rw [e, fst_eight]; exact colon_jn _ _ _
theorem putN_len : ∀ (ns : List Nat) (B : List Nat) (k : Nat), (putN B k ns).length = B.length
  | [], B, k => rfl
  | n :: r, B, k => by rw [putN, putN_len r]; simp
theorem putN_lt : ∀ (ns : List Nat) (B : List Nat) (k : Nat), (∀ x ∈ B, x < 256) → (∀ n ∈ ns, n < 65536) → ∀ x ∈ putN B k ns, x < 256
  | [], B, k, h, _ => h
  | n :: r, B, k, h, hn => by
    rw [putN]
    refine putN_lt r _ _ (fun x hx => ?_) (fun m hm => hn m (List.mem_cons_of_mem _ hm))
    have := hn n (by simp)
    rcases List.mem_or_eq_of_mem_set hx with c | c
    · rcases List.mem_or_eq_of_mem_set c with d | d
      · exact h x d
      · omega
    · omega
theorem putN_get : ∀ (ns : List Nat) (B : List Nat) (k j : Nat), 2 * (k + ns.length) ≤ B.length → (putN B k ns)[j]?.getD 0 = if 2 * k ≤ j ∧ j < 2 * (k + ns.length) then (if j % 2 = 0 then ns[j / 2 - k]?.getD 0 / 256 else ns[j / 2 - k]?.getD 0 % 256) else B[j]?.getD 0
  | [], B, k, j, _ => by rw [putN, if_neg (by simp <;> omega)]
  | n :: r, B, k, j, h => by
    simp only [List.length_cons] at h
    rw [putN, putN_get r _ (k + 1) j (by simp; omega)]
    simp only [List.length_cons]
    by_cases h1 : 2 * (k + 1) ≤ j ∧ j < 2 * (k + 1 + r.length)
    · rw [if_pos h1, if_pos (show 2 * k ≤ j ∧ j < 2 * (k + (r.length + 1)) from by omega)]
      obtain ⟨d, hd⟩ : ∃ d, j / 2 - k = d + 1 := ⟨j / 2 - k - 1, by omega⟩
      rw [hd, show j / 2 - (k + 1) = d from by omega]; rfl
    · rw [if_neg h1]
      by_cases h2 : j = 2 * k
      · subst h2
        rw [if_pos (show 2 * k ≤ 2 * k ∧ 2 * k < 2 * (k + (r.length + 1)) from by omega), if_pos (by omega), show 2 * k / 2 - k = 0 from by omega, List.getElem?_set_ne (by omega), List.getElem?_set_self (by omega)]; rfl
      · by_cases h3 : j = 2 * k + 1
        · subst h3
          rw [if_pos (show 2 * k ≤ 2 * k + 1 ∧ 2 * k + 1 < 2 * (k + (r.length + 1)) from by omega), if_neg (by omega), show (2 * k + 1) / 2 - k = 0 from by omega, List.getElem?_set_self (by simp; omega)]; rfl
        · rw [if_neg (show ¬ (2 * k ≤ j ∧ j < 2 * (k + (r.length + 1))) from by omega), List.getElem?_set_ne (by omega), List.getElem?_set_ne (by omega)]
theorem fst_get (nm : Nat → Nat) (k i : Nat) (h : i < k) : (fst nm k)[i]?.getD 0 = nm i := by simp [fst, h]
theorem seg_get (nm : Nat → Nat) (p k i : Nat) (h : i < k) : (seg nm p k)[i]?.getD 0 = nm (p + i) := by simp [seg, h]
theorem fst_len (nm : Nat → Nat) (k : Nat) : (fst nm k).length = k := by simp [fst]
theorem seg_len (nm : Nat → Nat) (p k : Nat) : (seg nm p k).length = k := by simp [seg]
theorem num_byt {a : Ad} (h : a.Wf) (j : Nat) : (if j % 2 = 0 then num a (j / 2) / 256 else num a (j / 2) % 256) = byt a j := by
  have b1 := byt_lt h (2 * (j / 2))
  have b2 := byt_lt h (2 * (j / 2) + 1)
  unfold num
  split
  · rename_i e
    rw [show 2 * (j / 2) = j from by omega] at b1 ⊢
    rw [show 2 * (j / 2) + 1 = j + 1 from by omega] at b2
    omega
  · rename_i e
    rw [show 2 * (j / 2) + 1 = j from by omega] at b2 ⊢
    omega
theorem fst_mem {nm : Nat → Nat} (h : ∀ i, nm i < 65536) (k : Nat) : ∀ x ∈ fst nm k, x < 65536 := fun x hx => by
  simp only [fst, List.mem_map] at hx; obtain ⟨i, _, rfl⟩ := hx; exact h i
theorem seg_mem {nm : Nat → Nat} (h : ∀ i, nm i < 65536) (p k : Nat) : ∀ x ∈ seg nm p k, x < 65536 := fun x hx => by
  simp only [seg, List.mem_map] at hx; obtain ⟨i, _, rfl⟩ := hx; exact h _
theorem six_t6 {a : Ad} (h : a.Wf) (hv : a.v6 = true) : sixF (t6 (num a)) = (a.B, true) := by
  have hlt := num_lt h
  have fin : ∀ B : List Nat, B.length = 16 → (∀ x ∈ B, x < 256) → (∀ j, j < 16 → B[j]?.getD 0 = byt a j) → B = a.B := fun B h1 h2 h3 => by
    have : (⟨true, B⟩ : Ad) = a := Ad.ext_byt ⟨h1, h2⟩ h hv.symm (fun i hi => h3 i hi)
    rw [← this]
  have hz : ∀ x ∈ zero16, x < 256 := fun x hx => by have := (List.mem_replicate.1 hx).2; omega
  have hzl : zero16.length = 16 := rfl
  have hz0 : ∀ j, zero16[j]?.getD 0 = 0 := fun j => by
    unfold zero16
    rw [List.getElem?_replicate]; split <;> rfl
  rcases t6_form (num a) with ⟨p, n, h1, h2, h3, e⟩ | e
  · have hg : gapL (t6 (num a)) = some (jn (fst (num a) p)).length := by
      rw [e, gap_jn _ _ (fst_mem hlt p) (.inr ⟨_, rfl⟩), gapL, if_pos ⟨rfl, rfl⟩]; simp
    have hh : headL (t6 (num a)) = jn (fst (num a) p) := by rw [head_some hg, e, List.take_left]
    have ht : tailL (t6 (num a)) = jn (seg (num a) (p + n) (8 - (p + n))) := by
      rw [tail_some hg, e, show jn (fst (num a) p) ++ 58 :: 58 :: jn (seg (num a) (p + n) (8 - (p + n))) = (jn (fst (num a) p) ++ [58, 58]) ++ jn (seg (num a) (p + n) (8 - (p + n))) from by simp, show (jn (fst (num a) p)).length + 2 = (jn (fst (num a) p) ++ [58, 58]).length from by simp, List.drop_left]
    have n1 := nums_jn _ (fst_mem hlt p) (by rw [fst_len]; omega)
    have n2 := nums_jn _ (seg_mem hlt (p + n) (8 - (p + n))) (by rw [seg_len]; omega)
    unfold sixF
    rw [if_neg (by unfold badL; rw [hh, ht, n1, n2, fst_len, seg_len, hg]; simp; omega), hh, ht, n1, n2]
    simp only [seg_len]
    have l1 : (putN zero16 0 (fst (num a) p)).length = 16 := by rw [putN_len]; rfl
    refine Prod.ext (fin _ (by show (putN (putN _ _ _) _ _).length = 16; rw [putN_len, l1]) (putN_lt _ _ _ (putN_lt _ _ _ hz (fst_mem hlt p)) (seg_mem hlt _ _)) (fun j hj => ?_)) rfl
    simp only
    rw [putN_get _ _ _ _ (by rw [l1, seg_len]; omega), putN_get _ _ _ _ (by rw [fst_len, hzl]; omega), seg_len, fst_len, hz0, ← num_byt h j]
    by_cases c1 : 2 * (8 - (8 - (p + n))) ≤ j
    · rw [if_pos (by omega), seg_get _ _ _ _ (by omega), show p + n + (j / 2 - (8 - (8 - (p + n)))) = j / 2 from by omega]
    · rw [if_neg (by omega)]
      by_cases c2 : j < 2 * p
      · rw [if_pos (by omega), Nat.sub_zero, fst_get _ _ _ (by omega)]
      · rw [if_neg (by omega)]
        have := h3 (j / 2 - p) (by omega)
        rw [show p + (j / 2 - p) = j / 2 from by omega] at this
        rw [this]; simp
  · have hg : gapL (t6 (num a)) = none := by
      have := gap_jn (fst (num a) 8) [] (fst_mem hlt 8) (.inl rfl)
      rw [List.append_nil] at this
      rw [e, this]; rfl
    have hh : headL (t6 (num a)) = jn (fst (num a) 8) := by rw [head_none hg, e]
    have ht : tailL (t6 (num a)) = [] := tail_none hg
    have n1 := nums_jn _ (fst_mem hlt 8) (by rw [fst_len]; omega)
    have n2 : nums [] = ([], true) := rfl
    unfold sixF
    rw [if_neg (by unfold badL; rw [hh, ht, n1, n2, fst_len]; simp), hh, ht, n1, n2]
    refine Prod.ext (fin _ (by show (putN (putN _ _ _) _ _).length = 16; rw [putN_len, putN_len]; rfl) (putN_lt _ _ _ (putN_lt _ _ _ hz (fst_mem hlt 8)) (fun n hn => by simp at hn)) (fun j hj => ?_)) rfl
    simp only
    rw [putN, putN_get _ _ _ _ (by rw [fst_len, hzl]; omega), fst_len, if_pos (by omega), Nat.sub_zero, fst_get _ _ _ (by omega), num_byt h j]
theorem four_t4 {a : Ad} (h : a.Wf) (ho : okA a) (hv : a.v6 = false) : four4 (t4 a) 0 0 false (List.replicate 16 0) = (a.B, true) := by
  rw [four4_t4 h]
  congr 1
  have hw : wid a / 8 = 4 := by unfold wid; rw [hv]; rfl
  have b := byt_lt h
  have : (⟨false, (((List.replicate 16 0).set 0 (byt a 0)).set 1 (byt a 1)).set 2 (byt a 2) |>.set 3 (byt a 3)⟩ : Ad) = a := by
    refine Ad.ext_byt ⟨by simp, fun x hx => ?_⟩ h hv.symm (fun i hi => ?_)
    · rcases List.mem_or_eq_of_mem_set hx with c | c
      · rcases List.mem_or_eq_of_mem_set c with c | c
        · rcases List.mem_or_eq_of_mem_set c with c | c
          · rcases List.mem_or_eq_of_mem_set c with c | c
            · have := (List.mem_replicate.1 c).2; omega
            · rw [c]; exact b 0
          · rw [c]; exact b 1
        · rw [c]; exact b 2
      · rw [c]; exact b 3
    · rcases Nat.lt_or_ge i 4 with c | c
      · have : i = 0 ∨ i = 1 ∨ i = 2 ∨ i = 3 := by omega
        rcases this with rfl | rfl | rfl | rfl <;> rfl
      · rw [ho i (by omega) hi]
        unfold byt
        simp only
        rw [List.getElem?_set_ne (by omega), List.getElem?_set_ne (by omega), List.getElem?_set_ne (by omega), List.getElem?_set_ne (by omega), List.getElem?_replicate]
        split <;> rfl
  exact congrArg Ad.B this
theorem atext_inj {a b : Ad} (ha : a.Wf) (hb : b.Wf) (oa : okA a) (ob : okA b) (h : atext a = atext b) : a = b := by
  unfold atext at h
  cases va : a.v6 <;> cases vb : b.v6
  · rw [va, vb] at h
    simp only [Bool.false_eq_true, if_false] at h
    have e1 := four_t4 ha oa va
    rw [h, four_t4 hb ob vb] at e1
    exact Ad.eq_of (va.trans vb.symm) (Prod.mk.inj e1).1.symm
  · rw [va, vb] at h
    simp only [Bool.false_eq_true, if_false, if_true] at h
    have e1 := four_t4 ha oa va
    rw [h] at e1
    have e2 := four4_colon (t6 (num b)) 0 0 false (List.replicate 16 0) (t6_colon _)
    rw [e1] at e2; cases e2
  · rw [va, vb] at h
    simp only [Bool.false_eq_true, if_false, if_true] at h
    have e1 := four_t4 hb ob vb
    rw [← h] at e1
    have e2 := four4_colon (t6 (num a)) 0 0 false (List.replicate 16 0) (t6_colon _)
    rw [e1] at e2; cases e2
  · rw [va, vb] at h
    simp only [if_true] at h
    have e1 := six_t6 ha va
    rw [h, six_t6 hb vb] at e1
    exact Ad.eq_of (va.trans vb.symm) (Prod.mk.inj e1).1.symm
end Go.Proofs.YtgcdhfpbmcfedaaGreatDoor.pf
end
section
set_option linter.unusedVariables false
set_option linter.unusedSimpArgs false
namespace Go.Proofs.YtgcdhfpbmcfedaaGreatDoor.pf
open Go.RowKit Go.Proofs.YtgcdhfpbmcfedaaGreatDoor.oc Go.Proofs.YtgcdhfpbmcfedaaGreatDoor.mz Go.Proofs.YtgcdhfpbmcfedaaGreatDoor.wh
/-- what a text may be the text of -/
noncomputable def cand (l : List Nat) : Ad × Bool := if (four4 l 0 0 false (List.replicate 16 0)).2 = true then (⟨false, (four4 l 0 0 false (List.replicate 16 0)).1⟩, true) else (⟨true, (sixF l).1⟩, (sixF l).2)
theorem cand_of {a : Ad} (h : a.Wf) (ho : okA a) : cand (atext a) = (a, true) := by
  unfold cand atext
  cases hv : a.v6
  · simp only [Bool.false_eq_true, if_false]
    rw [four_t4 h ho hv, if_pos rfl]
    simp only
    rw [← hv]
  · simp only [if_true]
    rw [if_neg (by rw [four4_colon _ _ _ _ _ (t6_colon _)]; simp), six_t6 h hv]
    simp only
    rw [← hv]
/-- l is the text of a -/
def IsText (l : List Nat) (a : Ad) : Prop := a.Wf ∧ okA a ∧ atext a = l
theorem IsText.uniq {l : List Nat} {a b : Ad} (h : IsText l a) (k : IsText l b) : a = b := atext_inj h.1 k.1 h.2.1 k.2.1 (h.2.2.trans k.2.2.symm)
theorem IsText.cand {l : List Nat} {a : Ad} (h : IsText l a) : pf.cand l = (a, true) := by rw [← h.2.2]; exact cand_of h.1 h.2.1
/-- what ReadAddr answers -/
def RdA (l : List Nat) (e : Ending) : Prop := (∃ a, IsText l a ∧ e = .returned (.tuple #[av a, .int .i64 0])) ∨ ((∀ a, ¬ IsText l a) ∧ e = .returned (.tuple #[av zeroA, .int .i64 150]))
theorem str_inj {l m : List Nat} (hl : ∀ x ∈ l, x < 256) (hm : ∀ x ∈ m, x < 256) (h : str l = str m) : l = m := by
  have h1 : l.map (fun x => UInt8.ofNat x) = m.map (fun x => UInt8.ofNat x) := by
    have := congrArg (fun s : ByteArray => s.data.toList) h
    simpa [str] using this
  have h2 : ∀ l : List Nat, (∀ x ∈ l, x < 256) → (l.map (fun x => UInt8.ofNat x)).map UInt8.toNat = l := fun l hl => by
    rw [List.map_map]
    conv => rhs; rw [← List.map_id l]
    exact List.map_congr_left (fun x hx => by have := hl x hx; simp [UInt8.toNat_ofNat']; omega)
  rw [← h2 l hl, h1, h2 m hm]
theorem dec_lt (n : Nat) (h : n < 256) : ∀ x ∈ dec n, x < 256 := fun x hx => by
  rcases dec_form n h with ⟨_, e⟩ | ⟨_, _, e⟩ | ⟨_, e⟩ <;> rw [e] at hx <;> simp at hx <;> omega
theorem sign_lt {d : Nat} (h : d < 16) : sign d < 256 := by unfold sign; split <;> omega
theorem hx_lt (n : Nat) (h : n < 65536) : ∀ x ∈ hx n, x < 256 := fun x hx => by
  rcases hx_form n h with ⟨_, e⟩ | ⟨_, _, e⟩ | ⟨_, _, e⟩ | ⟨_, e⟩ <;> rw [e] at hx <;> simp at hx
  · subst hx; exact sign_lt (by omega)
  · rcases hx with hx | hx <;> subst hx <;> exact sign_lt (by omega)
  · rcases hx with hx | hx | hx <;> subst hx <;> exact sign_lt (by omega)
  · rcases hx with hx | hx | hx | hx <;> subst hx <;> exact sign_lt (by omega)
theorem jn_lt : ∀ (ns : List Nat), (∀ x ∈ ns, x < 65536) → ∀ x ∈ jn ns, x < 256
  | [], _ => by intro x hx; simp [jn] at hx
  | n :: r, h => by
    intro x hx
    rw [jn_cons] at hx
    rcases List.mem_append.1 hx with z | z
    · exact hx_lt n (h n (by simp)) x z
    · split at z
      · simp at z
      · rcases List.mem_cons.1 z with y | y
        · omega
        · exact jn_lt r (fun y hy => h y (List.mem_cons_of_mem _ hy)) x y
theorem atext_lt {a : Ad} (h : a.Wf) : ∀ x ∈ atext a, x < 256 := by
  have b := byt_lt h
  unfold atext
  split
  · have hl := num_lt h
    rcases t6_form (num a) with ⟨p, n, _, _, _, e⟩ | e
    · rw [e]
      intro x hx
      rcases List.mem_append.1 hx with z | z
      · exact jn_lt _ (fst_mem hl _) x z
      · rcases List.mem_cons.1 z with y | y
        · omega
        · rcases List.mem_cons.1 y with y | y
          · omega
          · exact jn_lt _ (seg_mem hl _ _) x y
    · rw [e]; exact jn_lt _ (fst_mem hl _)
  · unfold t4
    intro x hx
    simp only [List.mem_append, List.mem_singleton] at hx
    rcases hx with (((((hx | hx) | hx) | hx) | hx) | hx) | hx
    · exact dec_lt _ (b 0) x hx
    · omega
    · exact dec_lt _ (b 1) x hx
    · omega
    · exact dec_lt _ (b 2) x hx
    · omega
    · exact dec_lt _ (b 3) x hx
theorem str_ne {l m : List Nat} (hl : ∀ x ∈ l, x < 256) (hm : ∀ x ∈ m, x < 256) (h : ¬ l = m) : ¬ (str l).toList = (str m).toList := fun z => h (str_inj hl hm (by
  rw [ByteArray.toList_eq, ByteArray.toList_eq] at z
  exact ByteArray.ext (Array.toList_inj.1 z)))
/-- the whole block's value written over it -/
theorem over_ad {w : World} {Q : Nat} {cs : List Value} {c : Ad} (hc : c.Wf) (h : Blk w Q 24 cs) (hl : cs.length = 17) : w.there Q 0 (adc c).toArray.size ∧ (Tryz.prog.info? 24).map (·.size) = some (adc c).toArray.size ∧ (adc c).toArray.all (·.oneCell') = true ∧ Blk (w.setCells Q 0 (adc c)) Q 24 (adc c) ∧ Keeps (· = Q) w (w.setCells Q 0 (adc c)) := by
  obtain ⟨t0, b9, k9⟩ := over_all (vs := adc c) h (by rw [adc_len hc, hl])
  exact ⟨t0, by rw [List.size_toArray, adc_len hc]; exact addr_info, all_oneCell_toArray (ad_one c), b9, k9⟩
theorem new_zero (w : World) : ∃ w1, w1 = w.alloc (.cells #[.bool false, .int .u8 0, .int .u8 0, .int .u8 0, .int .u8 0, .int .u8 0, .int .u8 0, .int .u8 0, .int .u8 0, .int .u8 0, .int .u8 0, .int .u8 0, .int .u8 0, .int .u8 0, .int .u8 0, .int .u8 0, .int .u8 0] 24) ∧ Blk w1 w.heap.size 24 (adc zeroA) ∧ ∀ S, Keeps S w w1 := ⟨_, rfl, Blk.new w _ _, fun S => (Keeps.refl S w).alloc _⟩
theorem zeroA_wf : zeroA.Wf := ⟨rfl, fun x hx => by have := (List.mem_replicate.1 hx).2; omega⟩
section
variable (w : World)
end
end Go.Proofs.YtgcdhfpbmcfedaaGreatDoor.pf
end
section
set_option linter.unusedVariables false
set_option linter.unusedSimpArgs false
namespace Go.Proofs.YtgcdhfpbmcfedaaGreatDoor.pf
open Go.RowKit Go.Proofs.YtgcdhfpbmcfedaaGreatDoor.oc Go.Proofs.YtgcdhfpbmcfedaaGreatDoor.mz Go.Proofs.YtgcdhfpbmcfedaaGreatDoor.wh
/-- the text of a prefix -/
def ptext (p : Px) : List Nat := atext p.a ++ 47 :: dec p.bits.toNat
section
variable (p : Px) (w : World)
end
end Go.Proofs.YtgcdhfpbmcfedaaGreatDoor.pf
end
section
set_option linter.unusedVariables false
set_option linter.unusedSimpArgs false
namespace Go.Proofs.YtgcdhfpbmcfedaaGreatDoor.pf
open Go.RowKit Go.Proofs.YtgcdhfpbmcfedaaGreatDoor.oc Go.Proofs.YtgcdhfpbmcfedaaGreatDoor.mz
theorem dec_slash (n : Nat) (h : n < 256) : ∀ x ∈ dec n, x ≠ 47 := fun x hx => by
  rcases dec_form n h with ⟨_, e⟩ | ⟨_, _, e⟩ | ⟨_, e⟩ <;> rw [e] at hx <;> simp at hx <;> omega
theorem sign_slash {d : Nat} : sign d ≠ 47 := by unfold sign; split <;> omega
theorem hx_slash (n : Nat) (h : n < 65536) : ∀ x ∈ hx n, x ≠ 47 := fun x hx => by
  rcases hx_form n h with ⟨_, e⟩ | ⟨_, _, e⟩ | ⟨_, _, e⟩ | ⟨_, e⟩ <;> rw [e] at hx <;> simp at hx
  · subst hx; exact sign_slash
  · rcases hx with hx | hx <;> subst hx <;> exact sign_slash
  · rcases hx with hx | hx | hx <;> subst hx <;> exact sign_slash
  · rcases hx with hx | hx | hx | hx <;> subst hx <;> exact sign_slash
theorem jn_slash : ∀ (ns : List Nat), (∀ x ∈ ns, x < 65536) → ∀ x ∈ jn ns, x ≠ 47
  | [], _ => by intro x hx; simp [jn] at hx
  | n :: r, h => by
    intro x hx
    rw [jn_cons] at hx
    rcases List.mem_append.1 hx with z | z
    · exact hx_slash n (h n (by simp)) x z
    · split at z
      · simp at z
      · rcases List.mem_cons.1 z with y | y
        · omega
        · exact jn_slash r (fun y hy => h y (List.mem_cons_of_mem _ hy)) x y
theorem atext_slash {a : Ad} (h : a.Wf) : ∀ x ∈ atext a, x ≠ 47 := by
  have b := byt_lt h
  unfold atext
  split
  · have hl := num_lt h
    rcases t6_form (num a) with ⟨p, n, _, _, _, e⟩ | e
    · rw [e]
      intro x hx
      rcases List.mem_append.1 hx with z | z
      · exact jn_slash _ (fst_mem hl _) x z
      · rcases List.mem_cons.1 z with y | y
        · omega
        · rcases List.mem_cons.1 y with y | y
          · omega
          · exact jn_slash _ (seg_mem hl _ _) x y
    · rw [e]; exact jn_slash _ (fst_mem hl _)
  · unfold t4
    intro x hx
    simp only [List.mem_append, List.mem_singleton] at hx
    rcases hx with (((((hx | hx) | hx) | hx) | hx) | hx) | hx
    · exact dec_slash _ (b 0) x hx
    · omega
    · exact dec_slash _ (b 1) x hx
    · omega
    · exact dec_slash _ (b 2) x hx
    · omega
    · exact dec_slash _ (b 3) x hx
theorem dec_inj {n m : Nat} (hn : n < 256) (hm : m < 256) (h : dec n = dec m) : n = m := by
  rcases dec_form n hn with ⟨a1, e⟩ | ⟨a1, a2, e⟩ | ⟨a1, e⟩ <;> rcases dec_form m hm with ⟨b1, f⟩ | ⟨b1, b2, f⟩ | ⟨b1, f⟩ <;> rw [e, f] at h <;> simp at h <;> omega
/-- the last stroke ahead of i, or the text's end -/
def SL (l : List Nat) (i p : Nat) : Prop := (∃ j, j < i ∧ l[j]? = some 47 ∧ (∀ t, j < t → t < i → l[t]? ≠ some 47) ∧ p = j) ∨ ((∀ t, t < i → l[t]? ≠ some 47) ∧ p = l.length)
theorem SL.le {l : List Nat} {i p : Nat} (h : SL l i p) : p ≤ l.length := by
  rcases h with ⟨j, _, h2, _, rfl⟩ | ⟨_, rfl⟩
  · have := (List.getElem?_eq_some_iff.1 h2).1; omega
  · omega
theorem SL.yes {l : List Nat} {i p : Nat} (h : SL l i p) (hi : l[i]? = some 47) : SL l (i + 1) i := .inl ⟨i, by omega, hi, fun t h1 h2 => by omega, rfl⟩
theorem SL.no {l : List Nat} {i p : Nat} (h : SL l i p) (hi : l[i]? ≠ some 47) : SL l (i + 1) p := by
  rcases h with ⟨j, h1, h2, h3, h4⟩ | ⟨h1, h2⟩
  · refine .inl ⟨j, by omega, h2, fun t a b => ?_, h4⟩
    by_cases e : t = i
    · rw [e]; exact hi
    · exact h3 t a (by omega)
  · refine .inr ⟨fun t a => ?_, h2⟩
    by_cases e : t = i
    · rw [e]; exact hi
    · exact h1 t (by omega)
theorem SL.at_ {X D : List Nat} {p : Nat} (hX : ∀ x ∈ X, x ≠ 47) (hD : ∀ x ∈ D, x ≠ 47) (h : SL (X ++ 47 :: D) (X ++ 47 :: D).length p) : p = X.length := by
  have at47 : (X ++ 47 :: D)[X.length]? = some 47 := by simp
  have hl : X.length < (X ++ 47 :: D).length := by simp
  rcases h with ⟨j, h1, h2, h3, rfl⟩ | ⟨h1, _⟩
  · rcases Nat.lt_trichotomy p X.length with c | c | c
    · exact absurd at47 (h3 _ c hl)
    · exact c
    · rw [List.getElem?_append_right (by omega)] at h2
      obtain ⟨d, hd⟩ : ∃ d, p - X.length = d + 1 := ⟨p - X.length - 1, by omega⟩
      rw [hd, List.getElem?_cons_succ] at h2
      exact absurd rfl (hD 47 (List.mem_of_getElem? h2))
  · exact absurd at47 (h1 _ hl)
/-- l is the text of p -/
def IsPText (l : List Nat) (p : Px) : Prop := p.a.Wf ∧ okP p ∧ ptext p = l
theorem okP_nat {p : Px} (h : okP p) : ∃ n : Nat, p.bits = (n : Int) ∧ p.bits.toNat = n ∧ n ≤ wid p.a ∧ n < 256 := by
  have := h.2.1
  have := wid_le p.a
  exact ⟨p.bits.toNat, by omega, rfl, by omega, by omega⟩
theorem IsPText.at_ {l : List Nat} {p : Px} {q : Nat} (h : IsPText l p) (hs : SL l l.length q) : q = (atext p.a).length ∧ IsText (l.take q) p.a := by
  obtain ⟨h1, h2, h3⟩ := h
  obtain ⟨n, e1, e2, e3, e4⟩ := okP_nat h2
  unfold ptext at h3
  rw [← h3] at hs
  have hq := hs.at_ (atext_slash h1) (by rw [e2]; exact dec_slash n e4)
  refine ⟨hq, h1, h2.1, ?_⟩
  rw [← h3, hq, List.take_left]
theorem IsPText.uniq {l : List Nat} {p q : Px} (h : IsPText l p) (k : IsPText l q) (ha : p.a = q.a) : p = q := by
  obtain ⟨h1, h2, h3⟩ := h
  obtain ⟨k1, k2, k3⟩ := k
  obtain ⟨n, e1, e2, e3, e4⟩ := okP_nat h2
  obtain ⟨m, f1, f2, f3, f4⟩ := okP_nat k2
  unfold ptext at h3 k3
  rw [← k3, ha, e2, f2] at h3
  have := List.append_cancel_left h3
  injection this with _ hd
  have := dec_inj e4 f4 hd
  cases p; cases q
  simp only at ha e1 f1
  subst ha
  rw [e1, f1, this]
/-- what Read answers -/
def RdP (l : List Nat) (e : Ending) : Prop := (∃ p, IsPText l p ∧ e = .returned (.tuple #[pv p, .int .i64 0])) ∨ ((∀ p, ¬ IsPText l p) ∧ e = .returned (.tuple #[pv zeroP, .int .i64 151]))
theorem ptext_lt {p : Px} (h : p.a.Wf) (ho : okP p) : ∀ x ∈ ptext p, x < 256 := by
  obtain ⟨n, e1, e2, e3, e4⟩ := okP_nat ho
  unfold ptext
  intro x hx
  rcases List.mem_append.1 hx with z | z
  · exact atext_lt h x z
  · rcases List.mem_cons.1 z with y | y
    · omega
    · rw [e2] at y; exact dec_lt n e4 x y
end Go.Proofs.YtgcdhfpbmcfedaaGreatDoor.pf
end
section
set_option linter.unusedVariables false
set_option linter.unusedSimpArgs false
namespace Go.Proofs.YtgcdhfpbmcfedaaGreatDoor.pf
open Go.RowKit Go.Proofs.YtgcdhfpbmcfedaaGreatDoor.oc Go.Proofs.YtgcdhfpbmcfedaaGreatDoor.mz Go.Proofs.YtgcdhfpbmcfedaaGreatDoor.wh
theorem new_zp (w : World) : ∃ w1, w1 = w.alloc (.cells #[.bool false, .int .u8 0, .int .u8 0, .int .u8 0, .int .u8 0, .int .u8 0, .int .u8 0, .int .u8 0, .int .u8 0, .int .u8 0, .int .u8 0, .int .u8 0, .int .u8 0, .int .u8 0, .int .u8 0, .int .u8 0, .int .u8 0, .int .i64 0] 28) ∧ Blk w1 w.heap.size 28 (pxc zeroP) ∧ ∀ S, Keeps S w w1 := ⟨_, rfl, Blk.new w _ _, fun S => (Keeps.refl S w).alloc _⟩
/-- the whole block's value written over it -/
theorem over_px {w : World} {Q : Nat} {cs : List Value} {c : Px} (hc : c.a.Wf) (h : Blk w Q 28 cs) (hl : cs.length = 18) : w.there Q 0 (pxc c).toArray.size ∧ (Tryz.prog.info? 28).map (·.size) = some (pxc c).toArray.size ∧ (pxc c).toArray.all (·.oneCell') = true ∧ Blk (w.setCells Q 0 (pxc c)) Q 28 (pxc c) ∧ Keeps (· = Q) w (w.setCells Q 0 (pxc c)) := by
  obtain ⟨t0, b9, k9⟩ := over_all (vs := pxc c) h (by rw [pxc_len hc, hl])
  exact ⟨t0, by rw [List.size_toArray, pxc_len hc]; exact prefix_info, all_oneCell_toArray (px_one c), b9, k9⟩
theorem zeroP_wf : zeroP.a.Wf := zeroA_wf
section
variable (w : World)
end
end Go.Proofs.YtgcdhfpbmcfedaaGreatDoor.pf
end
section
set_option linter.unusedVariables false
set_option linter.unusedSimpArgs false
namespace Go.Proofs.YtgcdhfpbmcfedaaGreatDoor.qk
open Go.RowKit Go.Proofs.YtgcdhfpbmcfedaaGreatDoor.oc Go.Proofs.YtgcdhfpbmcfedaaGreatDoor.mz
/-- all that was is as it was -/
def Old (w w' : World) : Prop := Keeps (fun _ => False) w w'
theorem Old.refl (w : World) : Old w w := Keeps.refl _ w
theorem Old.trans {a b c : World} (h : Old a b) (k : Old b c) : Old a c := Keeps.trans h k
theorem Old.all {a b : World} (h : Old a b) : ∀ S, Keeps S a b := fun S => Keeps.mono h (fun _ _ z => z.elim)
theorem Old.of {a b : World} (h : ∀ S, Keeps S a b) : Old a b := h _
theorem Old.drew {a b : World} (h : Old a b) : Old a b.drew := Keeps.drew h
theorem Old.blk {w w' : World} {g : Nat} {t : TypeId} {cs : List Value} (h : Old w w') (b : Blk w g t cs) : Blk w' g t cs := Blk.keeps b h (fun z => z)
/-- the walk in the order of the text, shut (an open one is reckoned out wherever a word is fitted to it) -/
@[irreducible] def WQ (P : Program) (ops : Array Oper) (C : World → Prop) (Q : Act → Prop) (l : List Oper) (a : Act) : Prop := wpQuiet P ops C Q l a
section
variable {P : Program} {ops : Array Oper} {C : World → Prop} {Q : Act → Prop} {rest : List Oper} {o : Oper} {a : Act}
theorem q_nil (h : Q a) : WQ P ops C Q [] a := by unfold WQ; exact h
theorem q_skip (hw : Region.wanted o (yielded ops a.tmps) = false) (h : WQ P ops C Q rest (a.put o.dst undef)) : WQ P ops C Q (o :: rest) a := by
  unfold WQ at h ⊢
  unfold wpQuiet
  rw [if_neg (by rw [hw]; simp)]
  exact h
theorem q_any (hw : Region.wanted o (yielded ops a.tmps) = true) (v : Value) (hr : ∀ w, C w → (execOp a.eval o).run P w = .ok (.value v) w) (h : WQ P ops C Q rest (a.put o.dst v)) : WQ P ops C Q (o :: rest) a := by
  unfold WQ at h ⊢
  unfold wpQuiet
  rw [if_pos hw]
  refine ⟨v, fun w hC => ?_, h⟩
  unfold Oper.quietAt
  rw [hr w hC]
  exact ⟨rfl, rfl⟩
theorem q_call {f : FuncId} {args : Array Value} {v : Value} (hw : Region.wanted o (yielded ops a.tmps) = true) (hc : ∀ w, C w → Calls P f args w fun e w' => e = .returned v ∧ C w') (hr : ∀ w, (execOp a.eval o).run P w = .ok (.enter f args) w)
    (h : WQ P ops C Q rest (a.put o.dst v)) : WQ P ops C Q (o :: rest) a := by
  unfold WQ at h ⊢
  unfold wpQuiet
  rw [if_pos hw]
  refine ⟨v, fun w hC => ?_, h⟩
  unfold Oper.quietAt
  rw [hr w]
  exact ⟨rfl, hc w hC⟩
theorem q_load (hw : Region.wanted o (yielded ops a.tmps) = true) (ty : TypeId) (x : Operand) (ho : o.op = .load ty x)
    (b off : Nat) (hx : a.eval x = .pointer (some ⟨b, off, none⟩)) (cs : List Value) (d : TypeDesc) (hc : ∀ w, C w → w.rangeAt b off cs)
    (hu : P.underlying ty = some d) (hd : d.isRow = true) (hi : (P.info? ty).map (·.size) = some cs.length)
    (h : WQ P ops C Q rest (a.put o.dst (.agg cs.toArray))) : WQ P ops C Q (o :: rest) a := by
  unfold WQ at h ⊢
  exact wh.quiet_load hw ty x ho b off hx cs d hc hu hd hi h
theorem q_region {id : Nat} {Q : Exit → Act → World → Prop} {a : Act} {w w0 : World} {l : List Oper} (hm : P.follows .mixedOrders = true) (hB : Region.lexB .any l.toArray = true) (hC : Old w0 w)
    (h : WQ P l.toArray (Old w0) (fun a' => ∀ w', Old w0 w' → Q .normal a' w') l a) : (Code.region id l.toArray true).wp P Q a w := by
  unfold WQ at h
  exact wp_region_quiet (C := Old w0) hm hB (Old.drew hC) (by simpa using h)
/-- the same of a region that goes in the order of the text; it may stop ahead of what writes -/
@[irreducible] def WX (P : Program) (ops : Array Oper) (C : World → Prop) (Q : Exit → Act → World → Prop) (l : List Oper) (a : Act) : Prop := ∀ w, C w → wpList P ops Q l a w
section
variable {Q : Exit → Act → World → Prop}
theorem x_nil (h : ∀ w, C w → Q .normal a w) : WX P ops C Q [] a := by unfold WX; exact h
theorem x_stop {l : List Oper} (h : ∀ w, C w → wpList P ops Q l a w) : WX P ops C Q l a := by unfold WX; exact h
theorem x_skip (hw : Region.wanted o (yielded ops a.tmps) = false) (h : WX P ops C Q rest (a.put o.dst undef)) : WX P ops C Q (o :: rest) a := by
  unfold WX at h ⊢
  intro w hC
  unfold wpList
  rw [if_neg (by rw [hw]; simp)]
  exact h w hC
theorem x_any (hw : Region.wanted o (yielded ops a.tmps) = true) (v : Value) (hr : ∀ w, C w → (execOp a.eval o).run P w = .ok (.value v) w) (h : WX P ops C Q rest (a.put o.dst v)) : WX P ops C Q (o :: rest) a := by
  unfold WX at h ⊢
  intro w hC
  unfold wpList
  rw [if_pos hw]
  left
  have hq : o.quiet P a C (fun a' => a' = a.put o.dst v) := ⟨v, fun w hC => by unfold Oper.quietAt; rw [hr w hC]; exact ⟨rfl, rfl⟩, rfl⟩
  exact Oper.wp_of_quiet hC (fun a' w' hC' e => by rw [e]; exact h w' hC') hq
theorem x_call {f : FuncId} {args : Array Value} {v : Value} (hw : Region.wanted o (yielded ops a.tmps) = true) (hc : ∀ w, C w → Calls P f args w fun e w' => e = .returned v ∧ C w') (hr : ∀ w, (execOp a.eval o).run P w = .ok (.enter f args) w)
    (h : WX P ops C Q rest (a.put o.dst v)) : WX P ops C Q (o :: rest) a := by
  unfold WX at h ⊢
  intro w hC
  unfold wpList
  rw [if_pos hw]
  left
  have hq : o.quiet P a C (fun a' => a' = a.put o.dst v) := ⟨v, fun w hC => by unfold Oper.quietAt; rw [hr w]; exact ⟨rfl, hc w hC⟩, rfl⟩
  exact Oper.wp_of_quiet hC (fun a' w' hC' e => by rw [e]; exact h w' hC') hq
theorem x_load (hw : Region.wanted o (yielded ops a.tmps) = true) (ty : TypeId) (x : Operand) (ho : o.op = .load ty x)
    (b off : Nat) (hx : a.eval x = .pointer (some ⟨b, off, none⟩)) (cs : List Value) (d : TypeDesc) (hc : ∀ w, C w → w.rangeAt b off cs)
    (hu : P.underlying ty = some d) (hd : d.isRow = true) (hi : (P.info? ty).map (·.size) = some cs.length)
    (h : WX P ops C Q rest (a.put o.dst (.agg cs.toArray))) : WX P ops C Q (o :: rest) a := by
  unfold WX at h ⊢
  intro w hC
  unfold wpList
  rw [if_pos hw]
  left
  exact wp_load_mid ty x ho b off hx cs d (hc w hC) hu hd hi (h w hC)
theorem x_list {l : List Oper} {w w0 : World} (hC : Old w0 w) (h : WX P ops (Old w0) Q l a) : wpList P ops Q l a w := by
  unfold WX at h
  exact h w hC
theorem x_region {id : Nat} {a : Act} {w w0 : World} {l : List Oper} (hC : Old w0 w) (h : WX P l.toArray (Old w0) Q l a) : (Code.region id l.toArray false).wp P Q a w := by
  unfold WX at h
  exact wp_region_lit (h w hC)
end
theorem old_call {f : FuncId} {args : Array Value} {v : Value} {w0 w : World} (hC : Old w0 w) (h : Calls P f args w fun e w' => e = .returned v ∧ ∀ S, Keeps S w w') : Calls P f args w fun e w' => e = .returned v ∧ Old w0 w' :=
  h.mono fun _ _ ⟨he, k⟩ => ⟨he, hC.trans (k _)⟩
theorem old_call_d {f : FuncId} {args : Array Value} {v : Value} {w0 w : World} (hC : Old w0 w) (h : Calls P f args w fun e w' => e = .returned v ∧ ∃ d, w' = w.drewN d) : Calls P f args w fun e w' => e = .returned v ∧ Old w0 w' :=
  h.mono fun _ _ ⟨he, d, k⟩ => ⟨he, hC.trans (by rw [k]; exact Keeps.of_drew w d)⟩
theorem old_call_s {f : FuncId} {args : Array Value} {v : Value} {w0 w : World} (hC : Old w0 w) (h : Calls P f args w fun e w' => e = .returned v ∧ w = w') : Calls P f args w fun e w' => e = .returned v ∧ Old w0 w' :=
  h.mono fun _ _ ⟨he, k⟩ => ⟨he, by rw [← k]; exact hC⟩
end
end Go.Proofs.YtgcdhfpbmcfedaaGreatDoor.qk
end
section
set_option linter.unusedVariables false
set_option linter.unusedSimpArgs false
namespace Go.Proofs.YtgcdhfpbmcfedaaGreatDoor.pf
open Go.RowKit Go.Proofs.YtgcdhfpbmcfedaaGreatDoor.oc Go.Proofs.YtgcdhfpbmcfedaaGreatDoor.mz Go.Proofs.YtgcdhfpbmcfedaaGreatDoor.wh Go.Proofs.YtgcdhfpbmcfedaaGreatDoor.qk
def cut (B : List Nat) (k : Nat) : List Nat := B.mapIdx fun j x => x / 2 ^ (8 * j + 8 - k) * 2 ^ (8 * j + 8 - k)
theorem clr_cut (a : Ad) (k : Nat) : (clr a k).B = cut a.B k := rfl
theorem b8_len (l : List Nat) : (b8s l).length = l.length := by simp [b8s]
theorem b8_set (B : List Nat) (k x : Nat) : b8s (B.set k x) = (b8s B).set k (.int .u8 (x : Int)) := by simp [b8s, List.map_set]
theorem b8_get {w : World} {P : Nat} {T : TypeId} {B : List Nat} (hl : B.length = 16) (h : Blk w P T (b8s B)) {i : Nat} (hi : i < 16) : w.cell? ⟨P, i, none⟩ = some (.int .u8 ((B[i]?.getD 0 : Nat) : Int)) := by
  rw [h.cell, b8s, List.getElem?_map, List.getElem?_eq_getElem (by rw [hl]; exact hi)]; rfl
theorem arr_info : (Tryz.prog.info? 22).map (·.size) = some 16 := by kernel_rfl
theorem mask_form : ∀ x : Fin 256, ∀ s : Fin 9, bits .and .u8 ((x.val : Nat) : Int) ((255 : Int) * 2 ^ s.val % 256) = ((x.val / 2 ^ s.val * 2 ^ s.val : Nat) : Int) := by decide +kernel
theorem big_div {x s : Nat} (hx : x < 256) (hs : 8 ≤ s) : x / 2 ^ s * 2 ^ s = 0 := by
  have h8 : (256 : Nat) ≤ 2 ^ s := Nat.pow_le_pow_right (n := 2) (by omega) hs
  rw [Nat.div_eq_of_lt (by omega), Nat.zero_mul]
section
variable (w : World)
set_option maxRecDepth 100000 in
set_option maxHeartbeats 1000000 in
theorem pwidth_ (a : Ad) : Calls Tryz.prog 42 #[av a] w fun e w' => e = .returned (.int .i64 (wid a : Int)) ∧ ∀ S, Keeps S w w' := by
  have b1 := Blk.new w 24 (adc a).toArray
  have x0 := ad_v6 b1
  have hc := wid_cases a
  unfold av
  generalize (adc a).toArray = C at *
  clear b1
  rcases hc with ⟨h, e⟩ | ⟨h, e⟩
  all_goals
    rw [h] at x0
    rw [e]
    clear h e
    go_enter Tryz.func42, Tryz.ntmps42
    go_wp2
    try rw [Exit.noGoto_ret]
    go_ret
    exact ⟨rfl, fun S => (Keeps.refl S w).alloc _⟩
structure FB (w wr : World) (B : List Nat) (k i : Nat) (L : List Nat) : Prop where
  b0 : Blk wr w.heap.size 22 (b8s L)
  b1 : Blk wr (w.heap.size + 1) 22 (b8s (List.replicate 16 0))
  kp : ∀ S, Keeps S w wr
  len : L.length = 16
  lt : ∀ x ∈ L, x < 256
  at_ : ∀ j, j < 16 → L[j]?.getD 0 = if j < i then B[j]?.getD 0 / 2 ^ (8 * j + 8 - k) * 2 ^ (8 * j + 8 - k) else B[j]?.getD 0
theorem getD_lt {L : List Nat} (h : ∀ x ∈ L, x < 256) (j : Nat) : L[j]?.getD 0 < 256 := by
  rcases Nat.lt_or_ge j L.length with q | q
  · rw [List.getElem?_eq_getElem q]; exact h _ (List.getElem_mem q)
  · rw [List.getElem?_eq_none q]; simp
theorem FB.next {w wr : World} {B L : List Nat} {k i y : Nat} (h : FB w wr B k i L) (hi : i < 16) (hy : y = L[i]?.getD 0 / 2 ^ (8 * i + 8 - k) * 2 ^ (8 * i + 8 - k)) : FB w (wr.setCell ⟨w.heap.size, i, none⟩ (.int .u8 (y : Int))) B k (i + 1) (L.set i y) := by
  have hx := getD_lt h.lt i
  have hy2 : y < 256 := by subst hy; exact Nat.lt_of_le_of_lt (Nat.div_mul_le_self _ _) hx
  refine ⟨by rw [b8_set]; exact h.b0.put i _, h.b1.far (by simp) _, fun S => (h.kp S).setCell (.inr (Nat.le_refl _)) _, by simp [h.len], fun x hx => ?_, fun j hj => ?_⟩
  · rcases List.mem_or_eq_of_mem_set hx with q | q
    · exact h.lt x q
    · rw [q]; exact hy2
  · rw [List.getElem?_set]
    by_cases e : i = j
    · subst e
      rw [if_pos rfl, if_pos (by rw [h.len]; exact hi), if_pos (by omega), Option.getD_some, hy, h.at_ i hi, if_neg (by omega)]
    · rw [if_neg e, h.at_ j hj]
      by_cases c : j < i
      · rw [if_pos c, if_pos (by omega)]
      · rw [if_neg c, if_neg (by omega)]
theorem FB.drew {w wr : World} {B L : List Nat} {k i : Nat} (h : FB w wr B k i L) : FB w wr.drew B k i L := ⟨h.b0, h.b1, fun S => (h.kp S).drew, h.len, h.lt, h.at_⟩
theorem FB.done {w wr : World} {B L : List Nat} {k : Nat} (h : FB w wr B k 16 L) (hB : B.length = 16) : L = cut B k := by
  refine List.ext_getElem? fun j => ?_
  rcases Nat.lt_or_ge j 16 with q | q
  · have e1 := h.at_ j q
    rw [if_pos q] at e1
    rw [List.getElem?_eq_getElem (by rw [h.len]; exact q), List.getElem?_eq_getElem (by rw [hB]; exact q)] at e1
    simp only [Option.getD_some] at e1
    simp only [cut, List.getElem?_mapIdx]
    rw [List.getElem?_eq_getElem (by rw [h.len]; exact q), List.getElem?_eq_getElem (by rw [hB]; exact q), e1]; rfl
  · rw [List.getElem?_eq_none (by rw [h.len]; exact q), List.getElem?_eq_none (by simp [cut, hB]; exact q)]
set_option maxRecDepth 100000 in
set_option maxHeartbeats 4000000 in
theorem first_ (B : List Nat) (k : Nat) (hB : B.length = 16) (hb : ∀ x ∈ B, x < 256) (hk : k ≤ 128) : Calls Tryz.prog 43 #[.agg (b8s B).toArray, .int .i64 (k : Int)] w fun e w' => e = .returned (.agg (b8s (cut B k)).toArray) ∧ ∀ S, Keeps S w w' := by
  have b0 := (Blk.new w 22 (b8s B).toArray).alloc (.cells #[.int .u8 0, .int .u8 0, .int .u8 0, .int .u8 0, .int .u8 0, .int .u8 0, .int .u8 0, .int .u8 0, .int .u8 0, .int .u8 0, .int .u8 0, .int .u8 0, .int .u8 0, .int .u8 0, .int .u8 0, .int .u8 0] 22)
  have b1 := Blk.new (w.alloc (.cells (b8s B).toArray 22)) 22 #[.int .u8 0, .int .u8 0, .int .u8 0, .int .u8 0, .int .u8 0, .int .u8 0, .int .u8 0, .int .u8 0, .int .u8 0, .int .u8 0, .int .u8 0, .int .u8 0, .int .u8 0, .int .u8 0, .int .u8 0, .int .u8 0]
  rw [World.size_alloc] at b1
  obtain ⟨w1, hw1⟩ : ∃ w1, w1 = (w.alloc (.cells (b8s B).toArray 22)).alloc (.cells #[.int .u8 0, .int .u8 0, .int .u8 0, .int .u8 0, .int .u8 0, .int .u8 0, .int .u8 0, .int .u8 0, .int .u8 0, .int .u8 0, .int .u8 0, .int .u8 0, .int .u8 0, .int .u8 0, .int .u8 0, .int .u8 0] 22) := ⟨_, rfl⟩
  rw [← hw1] at b0 b1
  have k1 : ∀ S, Keeps S w w1 := fun S => by rw [hw1]; exact ((Keeps.refl S w).alloc _).alloc _
  have HI := Lib.hid (show FB w w1 B k 0 B from ⟨b0, b1, k1, hB, hb, fun j hj => by rw [if_neg (by omega)]⟩)
  have HW := Lib.hid hw1
  have HBL := Lib.hid hB
  have k0 : (0 : Int) ≤ (k : Int) := by omega
  have k9 : (k : Int) ≤ 128 := by omega
  clear b0 b1 k1 hw1 hB hb
  go_enter Tryz.func43, Tryz.ntmps43
  go_wp2_with fail
  rw [← HW.out]
  go_loopw [7] (fun i wr => ∃ (m : Nat) (L : List Nat), m ≤ 16 ∧ i = .int .i64 (m : Int) ∧ FB w wr B k m L) (fun i _ => 16 - (intOf i).toNat)
  case atStart => exact ⟨0, B, by omega, rfl, HI.out⟩
  case round =>
    obtain ⟨m, L, h1, rfl, hf⟩ := hrel
    by_cases hlt : m < 16
    · have hlt' : (m : Int) < 16 := by omega
      have m0 : (0 : Int) ≤ (m : Int) := by omega
      have hx := getD_lt hf.lt m
      have xc := b8_get hf.len hf.b0 hlt
      have xf := hf.b0.frozen m
      have HF := Lib.hid hf
      clear hf HI HW hlt
      obtain ⟨kp, hkp, hs⟩ : ∃ kp : Nat, kp = min (k - 8 * m) 8 ∧ kp ≤ 8 := ⟨_, rfl, by omega⟩
      have hmax : (if (k : Int) - 8 * (m : Int) < 0 then 0 else (k : Int) - 8 * (m : Int)) = ((k - 8 * m : Nat) : Int) := by split <;> omega
      have hmin : (if (8 : Int) < ((k - 8 * m : Nat) : Int) then 8 else ((k - 8 * m : Nat) : Int)) = (kp : Int) := by split <;> omega
      have HKP := Lib.hid hkp
      obtain ⟨s, hs8⟩ : ∃ s : Nat, (8 : Int) - (kp : Int) = (s : Int) := ⟨8 - kp, by omega⟩
      have s8 : s ≤ 8 := by omega
      have s0 : (0 : Int) ≤ (s : Int) := by omega
      obtain ⟨y, hy⟩ : ∃ y, y = L[m]?.getD 0 / 2 ^ (8 * m + 8 - k) * 2 ^ (8 * m + 8 - k) := ⟨_, rfl⟩
      have hmk := mask_form ⟨L[m]?.getD 0, hx⟩ ⟨s, by omega⟩
      simp only at hmk
      have hys : L[m]?.getD 0 / 2 ^ s * 2 ^ s = y := by
        rw [hy]
        by_cases c : 8 * m < k
        · rw [show 8 * m + 8 - k = s from by omega]
        · rw [big_div hx (s := 8 * m + 8 - k) (by omega), show s = 8 from by omega, big_div hx (by omega)]
      rw [hys] at hmk
      have HY := Lib.hid hy
      clear hkp hy hys
      generalize hxe : L[m]?.getD 0 = x at *
      have HXE := Lib.hid hxe
      clear hxe
      go_wp2_with fail
      go_region
      have hn := (HF.out.next (by omega) (HXE.out ▸ HY.out)).drew
      clear hmk xc xf hs8 hmax hmin
      generalize (wr.setCell ⟨w.heap.size, m, none⟩ (.int .u8 (y : Int))).drew = w9 at *
      go_wp2_with fail
      go_roundw
      case rel => exact ⟨m + 1, L.set m y, by omega, by go_num, hn⟩
      case measure => simp [intOf]; omega
    · obtain rfl : m = 16 := by omega
      have hL := hf.done HBL.out
      subst hL
      have HR := Lib.hid (wh.Blk.range hf.b0)
      obtain ⟨t0, b9, k9'⟩ := over_all (vs := b8s (cut B k)) hf.b1 (by rw [b8_len, hf.len]; rfl)
      have HSZ := Lib.hid (show (Tryz.prog.info? 22).map (·.size) = some (b8s (cut B k)).length from by rw [b8_len, hf.len]; exact arr_info)
      have HSY := Lib.hid (show (Tryz.prog.info? 22).map (·.size) = some (b8s (cut B k)).toArray.size from by rw [List.size_toArray, b8_len, hf.len]; exact arr_info)
      have HON := Lib.hid (all_oneCell_toArray (b8_one (cut B k)))
      have HT := Lib.hid t0
      have B9 := Lib.hid b9
      have K9 : Hid (∀ S, Keeps S w (wr.setCells (w.heap.size + 1) 0 (b8s (cut B k)))) := Lib.hid (fun S => by
        have kk := hf.kp S
        exact ⟨Nat.le_trans kk.size k9'.size, fun x hx hs => by rw [k9'.block x (Nat.lt_of_lt_of_le hx kk.size) (by omega), kk.block x hx hs], kk.same.trans k9'.same⟩)
      clear t0 b9 k9' hf HI HW hlt
      generalize hD : b8s (cut B k) = D at *
      have HD := Lib.hid hD
      clear hD
      go_wp2_with (first
        | (refine wpList_load_mid rfl 22 _ rfl w.heap.size 0 rfl D _ HR.out Tryz.underlying22 rfl HSZ.out ?_)
        | (refine wpList_store_mid rfl 22 _ _ rfl (w.heap.size + 1) 0 D.toArray rfl rfl HT.out HSY.out HON.out ?_))
      try rw [Exit.noGoto_ret]
      refine bodyPost_ret (results_cell_row (p := 4) (ty := 22) (by kernel_rfl) _ _ (w.heap.size + 1) _ _ _ _ (by rfl) B9.out Tryz.underlying22 rfl HSY.out) rfl ?_
      exact ⟨by rw [HD.out], K9.out⟩
end
end Go.Proofs.YtgcdhfpbmcfedaaGreatDoor.pf
end
section
set_option linter.unusedVariables false
set_option linter.unusedSimpArgs false
namespace Go.Proofs.YtgcdhfpbmcfedaaGreatDoor.pf
open Go.RowKit Go.Proofs.YtgcdhfpbmcfedaaGreatDoor.oc Go.Proofs.YtgcdhfpbmcfedaaGreatDoor.mz Go.Proofs.YtgcdhfpbmcfedaaGreatDoor.wh
theorem part_u8 (l : List Nat) (i : Nat) (h : i < l.length) (w : World) : (part 5 (b8s l).toArray i).run Tryz.prog w = .ok (.int .u8 ((l[i]'h : Nat) : Int)) w := by
  have hg : (b8s l)[i]? = some (.int .u8 ((l[i]'h : Nat) : Int)) := by simp [b8s, List.getElem?_eq_getElem h]
  simp [part, Tryz.isAgg5, Sem.run_bind, hg, go_sem]
theorem beq_drop {xs ys : List Nat} {a : Nat} (hx : a < xs.length) (hy : a < ys.length) : (xs.drop a == ys.drop a) = ((xs[a] == ys[a]) && (xs.drop (a + 1) == ys.drop (a + 1))) := by
  rw [List.drop_eq_getElem_cons hx, List.drop_eq_getElem_cons hy]
  rfl
theorem loop_eq (d : Nat) (xs ys : List Nat) (m : Nat) (hx : xs.length = m) (hy : ys.length = m) (w : World) : ∀ (n a : Nat), a + n = m →
    (Sem.run Tryz.prog (forIn (List.range' a n) ((none : Option Bool), ()) fun i __s => do
      let __do_lift ← part 5 (b8s xs).toArray (i * 1)
      let __do_lift_1 ← part 5 (b8s ys).toArray (i * 1)
      let __do_lift ← Op.equalIn (d + 1) 5 __do_lift __do_lift_1
      if (!__do_lift) = true then pure (ForInStep.done (some false, ())) else pure (ForInStep.yield (none, ()))) w) = .ok (if xs.drop a == ys.drop a then (none, ()) else (some false, ())) w
  | 0, a, h => by
    have e1 : xs.drop a = [] := List.drop_eq_nil_of_le (by omega)
    have e2 : ys.drop a = [] := List.drop_eq_nil_of_le (by omega)
    rw [e1, e2]
    simp [Sem.run_pure]
  | n + 1, a, h => by
    have ih := loop_eq d xs ys m hx hy w n (a + 1) (by omega)
    have p1 := part_u8 xs a (by omega) w
    have p2 := part_u8 ys a (by omega) w
    rw [List.range'_succ, List.forIn_cons, beq_drop (by omega) (by omega)]
    have he := run_equalIn_int (P := Tryz.prog) (w := w) d 5 .u8 .u8 ((xs[a]'(by omega) : Nat) : Int) ((ys[a]'(by omega) : Nat) : Int) Tryz.underlying5
    rw [Nat.mul_one]
    simp only [Sem.run_bind, p1, p2, Result.andThen_ok, he]
    by_cases hq : xs[a]'(by omega) = ys[a]'(by omega)
    · have hqi : ((xs[a]'(by omega) : Nat) : Int) == ((ys[a]'(by omega) : Nat) : Int) := by rw [hq]; simp
      rw [hqi]
      simp only [Bool.not_true, Bool.false_eq_true, if_false, Sem.run_pure, Result.andThen_ok]
      rw [ih]
      simp [hq]
    · have hqi : (((xs[a]'(by omega) : Nat) : Int) == ((ys[a]'(by omega) : Nat) : Int)) = false := by simpa using fun e => hq (by omega)
      rw [hqi]
      simp [hq, Sem.run_pure]
theorem arr_eq (d : Nat) (xs ys : List Nat) (hx : xs.length = 16) (hy : ys.length = 16) (w : World) : (Op.equalIn (d + 2) 22 (.agg (b8s xs).toArray) (.agg (b8s ys).toArray)).run Tryz.prog w = .ok (xs == ys) w := by
  unfold Op.equalIn
  have h2 := run_underlying (P := Tryz.prog) Tryz.underlying22 w
  rw [Sem.run_bind, h2]
  simp only [Result.andThen_ok, Std.Legacy.Range.forIn_eq_forIn_range', Std.Legacy.Range.size, Sem.run_bind, Tryz.sizeOf5]
  have hl := loop_eq d xs ys 16 hx hy w 16 0 rfl
  simp only [Nat.sub_zero, Nat.add_sub_cancel, Nat.div_one]
  rw [hl]
  simp only [List.drop_zero, Result.andThen_ok]
  by_cases hq : xs = ys
  · subst hq; simp [Sem.run_pure]
  · simp [hq, Sem.run_pure]
theorem agg_of {t : TypeId} (h : (Tryz.prog.underlying t).map (·.isRow) = some true) (w : World) : (isAgg t).run Tryz.prog w = .ok true w := by
  cases hu : Tryz.prog.underlying t with
  | none => simp [hu] at h
  | some d =>
    unfold isAgg
    rw [Sem.run_bind, run_underlying hu w]
    cases d <;> simp_all [TypeDesc.isRow]
theorem size_of {t : TypeId} {n : Nat} (h : (Tryz.prog.info? t).map (·.size) = some n) (w : World) : (sizeOf t).run Tryz.prog w = .ok n w := by
  cases hq : Tryz.prog.info? t with
  | none => simp [hq] at h
  | some i => simp [hq] at h; simp [sizeOf, typeInfo, hq, h]
theorem part_row {t : TypeId} {n : Nat} (hr : (Tryz.prog.underlying t).map (·.isRow) = some true) (hn : (Tryz.prog.info? t).map (·.size) = some n) (l : List Value) (o : Nat) (w : World) : (part t l.toArray o).run Tryz.prog w = .ok (.agg ((l.drop o).take n).toArray) w := by
  have he : l.toArray.extract o (o + n) = ((l.drop o).take n).toArray := by simp [List.extract]
  simp only [part, Sem.run_bind, agg_of hr w, Result.andThen_ok, size_of hn w, if_true, Sem.run_pure, he]
theorem eqF (P : Program) (w : World) (d : Nat) (xs ys : Array Value) (f : Field) (fs : List Field) (t : TypeId) (o : Nat) (x y : Value) (b : Bool) (hn : (f.name == "_") = false) (ht : f.type = t) (ho : f.offset = o)
    (hx : (part t xs o).run P w = .ok x w) (hy : (part t ys o).run P w = .ok y w) (he : (Op.equalIn d t x y).run P w = .ok b w) :
    (Op.eqFields d xs ys (f :: fs)).run P w = if b then (Op.eqFields d xs ys fs).run P w else .ok false w := by
  subst ht
  subst ho
  have hn' : f.name ≠ "_" := by intro e; rw [e] at hn; simp at hn
  rw [Op.eqFields, if_pos hn', Sem.run_bind, hx, Result.andThen_ok, Sem.run_bind, hy, Result.andThen_ok, Sem.run_bind, he, Result.andThen_ok]
  cases b
  · rfl
  · rfl
instance : DecidableEq Ad := fun a b => decidable_of_iff (a.v6 = b.v6 ∧ a.B = b.B) ⟨fun h => Ad.eq_of h.1 h.2, fun h => by rw [h]; exact ⟨rfl, rfl⟩⟩
instance : DecidableEq Px := fun p q => decidable_of_iff (p.a = q.a ∧ p.bits = q.bits) ⟨fun h => by cases p; cases q; simp at h; simp [h.1, h.2], fun h => by rw [h]; exact ⟨rfl, rfl⟩⟩
theorem beq_ad (a b : Ad) : (a.v6 == b.v6 && a.B == b.B) = decide (a = b) := by
  cases a; cases b
  rw [Bool.eq_iff_iff]
  simp
theorem addr_fields : ((Tryz.prog.fieldsOf 24).toList.map (fun f => (f.name == "_", f.type, f.offset))) = [(false, 4, 0), (false, 22, 1)] := by kernel_rfl
theorem prefix_fields : ((Tryz.prog.fieldsOf 28).toList.map (fun f => (f.name == "_", f.type, f.offset))) = [(false, 24, 0), (false, 3, 17)] := by kernel_rfl
theorem part_one {t : TypeId} (ha : ∀ w, (isAgg t).run Tryz.prog w = .ok false w) (l : List Value) (o : Nat) (x : Value) (h : l[o]? = some x) (w : World) : (part t l.toArray o).run Tryz.prog w = .ok x w := by
  simp [part, ha w, Sem.run_bind, h, go_sem]
theorem addr_eqd (d : Nat) (a b : Ad) (ha : a.Wf) (hb : b.Wf) (w : World) : (Op.equalIn (d + 3) 24 (av a) (av b)).run Tryz.prog w = .ok (decide (a = b)) w := by
  unfold av
  have h := run_equalIn_struct (P := Tryz.prog) (w := w) (d + 2) 24 (adc a).toArray (adc b).toArray (by kernel_rfl) (by kernel_rfl)
  rw [h]
  have hf := addr_fields
  generalize (Tryz.prog.fieldsOf 24).toList = fs at hf
  obtain ⟨f1, fs, rfl⟩ : ∃ f r, fs = f :: r := by cases fs with | nil => simp at hf | cons a b => exact ⟨_, _, rfl⟩
  obtain ⟨f2, fs, rfl⟩ : ∃ f r, fs = f :: r := by cases fs with | nil => simp at hf | cons a b => exact ⟨_, _, rfl⟩
  simp only [List.map_cons, List.cons.injEq, Prod.mk.injEq, List.map_eq_nil_iff] at hf
  obtain ⟨⟨n1, t1, o1⟩, ⟨n2, t2, o2⟩, rfl⟩ := hf
  have a1 := part_one (t := 4) Tryz.isAgg4 (adc a) 0 (.bool a.v6) rfl w
  have a2 := part_one (t := 4) Tryz.isAgg4 (adc b) 0 (.bool b.v6) rfl w
  have b1 := part_row (t := 22) (n := 16) (by kernel_rfl) arr_info (adc a) 1 w
  have b2 := part_row (t := 22) (n := 16) (by kernel_rfl) arr_info (adc b) 1 w
  have e1 : ((adc a).drop 1).take 16 = b8s a.B := by rw [show (adc a).drop 1 = b8s a.B from rfl, List.take_of_length_le (by rw [b8_len, ha.len]; omega)]
  have e2 : ((adc b).drop 1).take 16 = b8s b.B := by rw [show (adc b).drop 1 = b8s b.B from rfl, List.take_of_length_le (by rw [b8_len, hb.len]; omega)]
  rw [e1] at b1
  rw [e2] at b2
  have h1 := run_equalIn_bool (P := Tryz.prog) w (d + 1) 4 a.v6 b.v6 Tryz.underlying4
  have h2 := arr_eq d a.B b.B ha.len hb.len w
  rw [eqF _ w _ _ _ f1 _ _ _ _ _ _ n1 t1 o1 a1 a2 h1, eqF _ w _ _ _ f2 _ _ _ _ _ _ n2 t2 o2 b1 b2 h2, ← beq_ad]
  cases (a.v6 == b.v6) <;> cases (a.B == b.B) <;> rfl
theorem prefix_eqd (d : Nat) (p q : Px) (hp : p.a.Wf) (hq : q.a.Wf) (w : World) : (Op.equalIn (d + 4) 28 (pv p) (pv q)).run Tryz.prog w = .ok (decide (p = q)) w := by
  unfold pv
  have h := run_equalIn_struct (P := Tryz.prog) (w := w) (d + 3) 28 (pxc p).toArray (pxc q).toArray (by kernel_rfl) (by kernel_rfl)
  rw [h]
  have hf := prefix_fields
  generalize (Tryz.prog.fieldsOf 28).toList = fs at hf
  obtain ⟨f1, fs, rfl⟩ : ∃ f r, fs = f :: r := by cases fs with | nil => simp at hf | cons a b => exact ⟨_, _, rfl⟩
  obtain ⟨f2, fs, rfl⟩ : ∃ f r, fs = f :: r := by cases fs with | nil => simp at hf | cons a b => exact ⟨_, _, rfl⟩
  simp only [List.map_cons, List.cons.injEq, Prod.mk.injEq, List.map_eq_nil_iff] at hf
  obtain ⟨⟨n1, t1, o1⟩, ⟨n2, t2, o2⟩, rfl⟩ := hf
  have b1 := part_row (t := 24) (n := 17) (by kernel_rfl) addr_info (pxc p) 0 w
  have b2 := part_row (t := 24) (n := 17) (by kernel_rfl) addr_info (pxc q) 0 w
  have e1 : ((pxc p).drop 0).take 17 = adc p.a := by rw [List.drop_zero, pxc, List.take_append_of_le_length (by rw [adc_len hp]; omega), List.take_of_length_le (by rw [adc_len hp]; omega)]
  have e2 : ((pxc q).drop 0).take 17 = adc q.a := by rw [List.drop_zero, pxc, List.take_append_of_le_length (by rw [adc_len hq]; omega), List.take_of_length_le (by rw [adc_len hq]; omega)]
  rw [e1] at b1
  rw [e2] at b2
  have g1 : (pxc p)[17]? = some (.int .i64 p.bits) := by rw [pxc, List.getElem?_append_right (by rw [adc_len hp]; omega), adc_len hp]; rfl
  have g2 : (pxc q)[17]? = some (.int .i64 q.bits) := by rw [pxc, List.getElem?_append_right (by rw [adc_len hq]; omega), adc_len hq]; rfl
  have a1 := part_one (t := 3) Tryz.isAgg3 (pxc p) 17 _ g1 w
  have a2 := part_one (t := 3) Tryz.isAgg3 (pxc q) 17 _ g2 w
  have h1 := addr_eqd d p.a q.a hp hq w
  unfold av at h1
  have h2 := run_equalIn_int (P := Tryz.prog) (w := w) (d + 2) 3 .i64 .i64 p.bits q.bits Tryz.underlying3
  have hd : (decide (p.a = q.a) && (p.bits == q.bits)) = decide (p = q) := by
    cases p; cases q
    rw [Bool.eq_iff_iff]
    simp
  rw [eqF _ w _ _ _ f1 _ _ _ _ _ _ n1 t1 o1 b1 b2 h1, eqF _ w _ _ _ f2 _ _ _ _ _ _ n2 t2 o2 a1 a2 h2, ← hd]
  cases decide (p.a = q.a) <;> cases (p.bits == q.bits) <;> rfl
theorem b8_equ (xs ys : List Nat) (hx : xs.length = 16) (hy : ys.length = 16) (w : World) : (Op.equalIn 10000 22 (.agg (b8s xs).toArray) (.agg (b8s ys).toArray)).run Tryz.prog w = .ok (xs == ys) w := by
  have h := arr_eq 9998 xs ys hx hy w
  simp only [Nat.reduceAdd] at h
  exact h
theorem addr_eql (a b : Ad) (ha : a.Wf) (hb : b.Wf) (w : World) : (binOp .eql 24 (av a) (av b)).run Tryz.prog w = .ok (.bool (decide (a = b))) w := by
  have h := addr_eqd 9997 a b ha hb w
  simp only [Nat.reduceAdd] at h
  unfold av at h ⊢
  rw [run_eql_struct, h]; rfl
theorem px_eql (p q : Px) (hp : p.a.Wf) (hq : q.a.Wf) (w : World) : (binOp .eql 28 (pv p) (pv q)).run Tryz.prog w = .ok (.bool (decide (p = q))) w := by
  have h := prefix_eqd 9996 p q hp hq w
  simp only [Nat.reduceAdd] at h
  unfold pv at h ⊢
  rw [run_eql_struct, h]; rfl
end Go.Proofs.YtgcdhfpbmcfedaaGreatDoor.pf
end
section
set_option linter.unusedVariables false
set_option linter.unusedSimpArgs false
namespace Go.Proofs.YtgcdhfpbmcfedaaGreatDoor.pf
open Go.RowKit Go.Proofs.YtgcdhfpbmcfedaaGreatDoor.oc Go.Proofs.YtgcdhfpbmcfedaaGreatDoor.mz Go.Proofs.YtgcdhfpbmcfedaaGreatDoor.wh Go.Proofs.YtgcdhfpbmcfedaaGreatDoor.qk
theorem cut_len (B : List Nat) (k : Nat) : (cut B k).length = B.length := by simp [cut]
/-- an address may be just if its bits behind its width are 0 -/
theorem okA_cut {a : Ad} (ha : a.Wf) : (a.B = cut a.B (wid a)) ↔ okA a := by
  have hw := (wid_le a).1
  rw [okA_bits ha, ← clr_cut]
  constructor
  · intro h i h1 h2
    have e : bit a i = bit (clr a (wid a)) i := by rw [← Ad.eq_of (a := a) (b := clr a (wid a)) rfl h]
    rw [e, clr_bit ha _ _ h2, decide_eq_false (by omega)]; rfl
  · intro h
    have e : a = clr a (wid a) := Ad.ext_bit ha (clr_wf ha _) rfl fun i hi => by
      rw [clr_bit ha _ _ hi]
      by_cases c : i < wid a
      · rw [decide_eq_true c]; rfl
      · rw [decide_eq_false c, h i (by omega) hi]; rfl
    exact congrArg Ad.B e
/-- an address's bytes, within it -/
theorem ad_bytes {w : World} {P : Nat} {T : TypeId} {a : Ad} (h : Blk w P T (adc a)) : w.rangeAt P 1 (b8s a.B) := fun j v hv => by
  rw [h.cell, Nat.add_comm 1 j, adc, List.getElem?_cons_succ]; exact hv
theorem px_bytes {w : World} {P : Nat} {T : TypeId} {p : Px} (hp : p.a.Wf) (h : Blk w P T (pxc p)) : w.rangeAt P 1 (b8s p.a.B) := fun j v hv => by
  have hj : j < 16 := by
    rcases Nat.lt_or_ge j 16 with q | q
    · exact q
    · rw [List.getElem?_eq_none (by rw [b8_len, hp.len]; exact q)] at hv; cases hv
  rw [h.cell, pxc, List.getElem?_append_left (by rw [adc_len hp]; omega), Nat.add_comm 1 j, adc, List.getElem?_cons_succ]; exact hv
theorem b8_info {B : List Nat} (h : B.length = 16) : (Tryz.prog.info? 22).map (·.size) = some (b8s B).length := by rw [b8_len, h]; exact arr_info
section
variable (w : World)
set_option maxRecDepth 100000 in
set_option maxHeartbeats 2000000 in
theorem pcheckaddr_ (a : Ad) (ha : a.Wf) : Calls Tryz.prog 19 #[av a] w fun e w' => e = .returned (.int .i64 (errA a)) ∧ ∀ S, Keeps S w w' := by
  obtain ⟨w1, hw1, k1, b1⟩ := enter_blk w (adc a).toArray 24
  have HCW := fun w => Lib.hid (pwidth_ w a)
  have HCF := fun w => Lib.hid (first_ w a.B (wid a) ha.len ha.sm (wid_le a).1)
  have HSA := Lib.hid (show (Tryz.prog.info? 24).map (·.size) = some (adc a).length from by rw [adc_len ha]; exact addr_info)
  have HSB := Lib.hid (b8_info ha.len)
  have HF : ∀ w', Old w1 w' → w'.rangeAt w.heap.size 0 (adc a) ∧ w'.rangeAt w.heap.size 1 (b8s a.B) := fun w' h => ⟨Blk.range (h.blk b1), ad_bytes (h.blk b1)⟩
  have HN := fun w => Lib.hid (b8_equ a.B (cut a.B (wid a)) ha.len ((cut_len _ _).trans ha.len) w)
  obtain ⟨E, hE⟩ : ∃ E, E = errA a := ⟨_, rfl⟩
  obtain ⟨r, hr⟩ : ∃ r : Bool, r = (a.B == cut a.B (wid a)) := ⟨_, rfl⟩
  have HE : Hid (E = if r = true then 0 else 150) := Lib.hid (by
    have hk := okA_cut ha
    rw [hr, hE]
    by_cases h : a.B = cut a.B (wid a)
    · rw [errA_ok (hk.1 h), if_pos (by simpa using h)]
    · rw [errA_no (fun z => h (hk.2 z)), if_neg (by simpa using h)])
  rw [← hr] at HN
  rw [← hE]
  have HW := Lib.hid hw1
  have K1 : Hid (∀ S, Keeps S w w1) := Lib.hid k1
  unfold av at HCW ⊢
  clear hE hr hw1 k1 b1 ha
  generalize b8s (cut a.B (wid a)) = D2 at *
  generalize b8s a.B = D1 at *
  generalize adc a = C at *
  generalize wid a = W at *
  go_enter Tryz.func19, Tryz.ntmps19
  go_wp2_with fail
  rw [← HW.out]

  refine q_region (by kernel_rfl) (by kernel_rfl) (Old.refl w1) ?_
  --@0
  refine q_any (by kernel_rfl) ?_ (fun wq hC => ?_) ?_
  rotate_left
  · (go_simp) <;> (try (with_reducible rfl))
  try simp only [Act.put, Array.getInternal_eq_getElem, List.getElem_toArray, List.getElem_cons_zero, List.getElem_cons_succ, List.setIfInBounds_toArray, List.set_cons_zero, List.set_cons_succ]
  --@1
  refine q_load (by kernel_rfl) 22 _ rfl w.heap.size 1 rfl D1 _ (fun wq hC => (HF wq hC).2) Tryz.underlying22 rfl HSB.out ?_
  try simp only [Act.put, Array.getInternal_eq_getElem, List.getElem_toArray, List.getElem_cons_zero, List.getElem_cons_succ, List.setIfInBounds_toArray, List.set_cons_zero, List.set_cons_succ]
  --@2
  refine q_any (by kernel_rfl) ?_ (fun wq hC => ?_) ?_
  rotate_left
  · (go_simp) <;> (try (with_reducible rfl))
  try simp only [Act.put, Array.getInternal_eq_getElem, List.getElem_toArray, List.getElem_cons_zero, List.getElem_cons_succ, List.setIfInBounds_toArray, List.set_cons_zero, List.set_cons_succ]
  --@3
  refine q_load (by kernel_rfl) 22 _ rfl w.heap.size 1 rfl D1 _ (fun wq hC => (HF wq hC).2) Tryz.underlying22 rfl HSB.out ?_
  try simp only [Act.put, Array.getInternal_eq_getElem, List.getElem_toArray, List.getElem_cons_zero, List.getElem_cons_succ, List.setIfInBounds_toArray, List.set_cons_zero, List.set_cons_succ]
  --@4
  refine q_load (by kernel_rfl) 24 _ rfl w.heap.size 0 rfl C _ (fun wq hC => (HF wq hC).1) Tryz.underlying24 rfl HSA.out ?_
  try simp only [Act.put, Array.getInternal_eq_getElem, List.getElem_toArray, List.getElem_cons_zero, List.getElem_cons_succ, List.setIfInBounds_toArray, List.set_cons_zero, List.set_cons_succ]
  --@5
  refine q_call (by kernel_rfl) (fun wq hC => old_call hC (HCW wq).out) (fun wq => ?_) ?_
  · go_simp <;> (try (with_reducible rfl))
  try simp only [Act.put, Array.getInternal_eq_getElem, List.getElem_toArray, List.getElem_cons_zero, List.getElem_cons_succ, List.setIfInBounds_toArray, List.set_cons_zero, List.set_cons_succ]
  --@6
  refine q_call (by kernel_rfl) (fun wq hC => old_call hC (HCF wq).out) (fun wq => ?_) ?_
  · go_simp <;> (try (with_reducible rfl))
  try simp only [Act.put, Array.getInternal_eq_getElem, List.getElem_toArray, List.getElem_cons_zero, List.getElem_cons_succ, List.setIfInBounds_toArray, List.set_cons_zero, List.set_cons_succ]
  --@7
  refine q_any (by kernel_rfl) ?_ (fun wq hC => ?_) ?_
  rotate_left
  · (have hN := (HN wq).out; go_simp) <;> (try (with_reducible rfl))
  try simp only [Act.put, Array.getInternal_eq_getElem, List.getElem_toArray, List.getElem_cons_zero, List.getElem_cons_succ, List.setIfInBounds_toArray, List.set_cons_zero, List.set_cons_succ]
  refine q_nil ?_
  intro wz kwz
  clear HCW HCF HN HF
  have KZ : Hid (∀ S, Keeps S w wz) := Lib.hid (fun S => (K1.out S).trans (kwz.all S))
  clear kwz
  cases r with
  | true =>
    go_wp2
    try rw [Exit.noGoto_ret]
    go_ret
    exact ⟨by rw [HE.out]; rfl, KZ.out⟩
  | false =>
    go_wp2
    try rw [Exit.noGoto_ret]
    go_ret
    exact ⟨by rw [HE.out]; rfl, KZ.out⟩
end
end Go.Proofs.YtgcdhfpbmcfedaaGreatDoor.pf
end
