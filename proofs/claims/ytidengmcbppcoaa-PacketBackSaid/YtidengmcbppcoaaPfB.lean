/-
  Prefixes, plainly: of an address its first bits; halves; two prefixes are apart, or one covers the other; their order. Nothing of the program's functions.
-/
import Derived.Test.YtidengmcbppcoaaPfA
set_option linter.unusedVariables false
namespace Go.Proofs.Ytidengmcbppcoaa.pf
theorem or_bit : ∀ x : Fin 256, ∀ s t : Fin 8, ((x.val ||| 2 ^ s.val) / 2 ^ t.val % 2 = 1 ↔ (t = s ∨ x.val / 2 ^ t.val % 2 = 1)) ∧ (x.val ||| 2 ^ s.val) < 256 := by decide +kernel
theorem sub_bit : ∀ x : Fin 256, ∀ s t : Fin 8, x.val / 2 ^ s.val % 2 = 1 → ((x.val - 2 ^ s.val) / 2 ^ t.val % 2 = 1 ↔ (¬ t = s ∧ x.val / 2 ^ t.val % 2 = 1)) := by decide +kernel
/-- a byte with one bit put -/
def bput (x s : Nat) (is : Bool) : Nat := if is then x ||| 2 ^ s else if x / 2 ^ s % 2 = 1 then x - 2 ^ s else x
theorem bput_bit {x s t : Nat} {is : Bool} (hx : x < 256) (hs : s < 8) (ht : t < 8) : (bput x s is / 2 ^ t % 2 = 1 ↔ (if t = s then is = true else x / 2 ^ t % 2 = 1)) ∧ bput x s is < 256 := by
  have h1 := or_bit ⟨x, hx⟩ ⟨s, hs⟩ ⟨t, ht⟩
  have h2 := sub_bit ⟨x, hx⟩ ⟨s, hs⟩ ⟨t, ht⟩
  simp only [Fin.mk.injEq] at h1 h2
  unfold bput
  cases is with
  | true =>
    simp only [if_true]
    refine ⟨?_, h1.2⟩
    rw [h1.1]
    by_cases q : t = s <;> simp [q]
  | false =>
    simp only [Bool.false_eq_true, if_false]
    split
    · rename_i hb
      refine ⟨?_, Nat.lt_of_le_of_lt (Nat.sub_le _ _) hx⟩
      rw [h2 hb]
      by_cases q : t = s <;> simp [q]
    · rename_i hb
      refine ⟨?_, hx⟩
      by_cases q : t = s
      · subst q; simp; omega
      · simp [q]
/-- an address with one bit put -/
def put (a : Ad) (i : Nat) (is : Bool) : Ad := ⟨a.v6, a.B.set (i / 8) (bput (byt a (i / 8)) (7 - i % 8) is)⟩
theorem put_byt {a : Ad} (h : a.Wf) (i : Nat) (hi : i < 128) (is : Bool) (j : Nat) : byt (put a i is) j = if j = i / 8 then bput (byt a (i / 8)) (7 - i % 8) is else byt a j := by
  have hl := h.len
  unfold byt put
  simp only [List.getElem?_set]
  by_cases q : i / 8 = j
  · rw [if_pos q, if_pos (by omega), if_pos q.symm]; rfl
  · rw [if_neg q, if_neg (fun e => q e.symm)]
theorem put_wf {a : Ad} (h : a.Wf) (i : Nat) (hi : i < 128) (is : Bool) : (put a i is).Wf := by
  refine ⟨by simp [put, h.len], fun x hx => ?_⟩
  rcases List.mem_or_eq_of_mem_set hx with q | q
  · exact h.sm x q
  · subst q
    exact (bput_bit (t := 0) (byt_lt h _) (by omega) (by omega)).2
theorem put_bit {a : Ad} (h : a.Wf) (i : Nat) (hi : i < 128) (is : Bool) (j : Nat) (hj : j < 128) : bit (put a i is) j = if j = i then is else bit a j := by
  rw [Bool.eq_iff_iff, bit_iff, put_byt h i hi]
  by_cases q : j / 8 = i / 8
  · rw [if_pos q, (bput_bit (byt_lt h _) (by omega) (by omega)).1]
    by_cases e : j = i
    · subst e; simp
    · rw [if_neg (show ¬ 7 - j % 8 = 7 - i % 8 by omega), if_neg e, bit_iff, q]
  · rw [if_neg q, if_neg (show ¬ j = i by intro e; subst e; exact q rfl), bit_iff]
/-- the prefix of an address's first k bits -/
def ofP (a : Ad) (k : Nat) : Px := ⟨clr a k, (k : Int)⟩
theorem clr_okA {a : Ad} (h : a.Wf) (ho : okA a) (k : Nat) : okA (clr a k) := by
  rw [okA_bits (clr_wf h k)]
  intro i h1 h2
  rw [clr_bit h k i h2, (okA_bits h).1 ho i h1 h2]
  simp
theorem ofP_ok {a : Ad} (h : a.Wf) (ho : okA a) (k : Nat) (hk : k ≤ wid a) : okP (ofP a k) := by
  have hw := (wid_le a).1
  refine ⟨clr_okA h ho k, ⟨by simp [ofP], by show (k : Int) ≤ (wid (clr a k) : Int); rw [wid_of (a := clr a k) (b := a) rfl]; omega⟩, fun i h1 h2 => ?_⟩
  have h2 : i < wid a := h2
  have h1 : (k : Int) ≤ (i : Int) := h1
  show bit (clr a k) i = false
  rw [clr_bit h k i (by omega), decide_eq_false (by omega)]; rfl
/-- bits behind the prefix's are 0, all 128 -/
theorem okP_zero {p : Px} (h : p.a.Wf) (hp : okP p) (i : Nat) (h1 : p.bits ≤ (i : Int)) (h2 : i < 128) : bit p.a i = false := by
  rcases Nat.lt_or_ge i (wid p.a) with q | q
  · exact hp.2.2 i h1 q
  · exact (okA_bits h).1 hp.1 i q h2
theorem px_ext {p q : Px} (hp : p.a.Wf) (hq : q.a.Wf) (kp : okP p) (kq : okP q) (hv : p.a.v6 = q.a.v6) (hb : p.bits = q.bits) (h : ∀ i : Nat, (i : Int) < p.bits → bit p.a i = bit q.a i) : p = q := by
  have e : p.a = q.a := by
    refine Ad.ext_bit hp hq hv fun i hi => ?_
    by_cases c : (i : Int) < p.bits
    · exact h i c
    · rw [okP_zero hp kp i (by omega) hi, okP_zero hq kq i (by omega) hi]
  cases p; cases q
  simp at e hb
  simp [e, hb]
theorem of_has {a : Ad} (h : a.Wf) (ho : okA a) (k : Nat) (hk : k ≤ wid a) : has (ofP a k) a := by
  have hw := (wid_le a).1
  refine ⟨ofP_ok h ho k hk, ho, rfl, fun i hi => ?_⟩
  have hi : (i : Int) < (k : Int) := hi
  show bit a i = bit (clr a k) i
  rw [clr_bit h k i (by omega), decide_eq_true (by omega)]; simp
theorem covers_self {p : Px} (hp : okP p) : covers p p := ⟨hp, Int.le_refl _, hp, hp.1, rfl, fun _ _ => rfl⟩
theorem covers_has {p q : Px} (hc : covers p q) {b : Ad} (hb : has q b) : has p b :=
  ⟨hc.2.2.1, hb.2.1, hb.2.2.1.trans hc.2.2.2.2.1, fun i hi => (hb.2.2.2 i (by have := hc.2.1; omega)).trans (hc.2.2.2.2.2 i hi)⟩
theorem covers_both {p q : Px} (hp : p.a.Wf) (hq : q.a.Wf) (h1 : covers p q) (h2 : covers q p) : p = q :=
  px_ext hp hq h2.1 h1.1 h1.2.2.2.2.1.symm (by have := h1.2.1; have := h2.2.1; omega) fun i hi => (h1.2.2.2.2.2 i hi).symm
/-- two that share an address: one covers the other -/
theorem share {p q : Px} {b : Ad} (hp : has p b) (hq : has q b) : covers p q ∨ covers q p := by
  have hv : p.a.v6 = q.a.v6 := hp.2.2.1.symm.trans hq.2.2.1
  rcases Int.le_total p.bits q.bits with h | h
  · exact .inl ⟨hq.1, h, hp.1, hq.1.1, hv.symm, fun i hi => (hq.2.2.2 i (by omega)).symm.trans (hp.2.2.2 i hi)⟩
  · exact .inr ⟨hp.1, h, hq.1, hp.1.1, hv, fun i hi => (hp.2.2.2 i (by omega)).symm.trans (hq.2.2.2 i hi)⟩
theorem first_has {p q : Px} (h : has p q.a) (hq : okP q) : covers p q ∨ covers q p := share h ⟨hq, hq.1, rfl, fun _ _ => rfl⟩
/-- the halves -/
def half0 (p : Px) : Px := ⟨p.a, p.bits + 1⟩
def half1 (p : Px) : Px := ⟨put p.a p.bits.toNat true, p.bits + 1⟩
section
variable {p : Px}
theorem half_place (hp : okP p) (hb : ¬ p.bits = (wid p.a : Int)) : ∃ k : Nat, p.bits = (k : Int) ∧ p.bits.toNat = k ∧ k < wid p.a ∧ k < 128 := by
  obtain ⟨_, ⟨h0, h1⟩, _⟩ := hp
  have := (wid_le p.a).1
  exact ⟨p.bits.toNat, by omega, rfl, by omega, by omega⟩
theorem half0_ok (h : p.a.Wf) (hp : okP p) (hb : ¬ p.bits = (wid p.a : Int)) : okP (half0 p) := by
  obtain ⟨k, e1, _, h1, _⟩ := half_place hp hb
  exact ⟨hp.1, ⟨by show (0 : Int) ≤ p.bits + 1; omega, by show p.bits + 1 ≤ (wid p.a : Int); omega⟩, fun i hi h2 => hp.2.2 i (by have hi : p.bits + 1 ≤ (i : Int) := hi; omega) h2⟩
theorem half1_bit (h : p.a.Wf) (hp : okP p) (hb : ¬ p.bits = (wid p.a : Int)) (i : Nat) (hi : i < 128) : bit (half1 p).a i = if (i : Int) = p.bits then true else bit p.a i := by
  obtain ⟨k, e1, e2, h1, h2⟩ := half_place hp hb
  show bit (put p.a p.bits.toNat true) i = _
  rw [put_bit h _ (by omega) _ _ hi]
  by_cases q : i = p.bits.toNat
  · rw [if_pos q, if_pos (by omega)]
  · rw [if_neg q, if_neg (by omega)]
theorem half1_wf (h : p.a.Wf) (hp : okP p) (hb : ¬ p.bits = (wid p.a : Int)) : (half1 p).a.Wf := by
  obtain ⟨k, e1, e2, h1, h2⟩ := half_place hp hb
  exact put_wf h _ (by omega) _
theorem half1_ok (h : p.a.Wf) (hp : okP p) (hb : ¬ p.bits = (wid p.a : Int)) : okP (half1 p) := by
  obtain ⟨k, e1, e2, h1, h2⟩ := half_place hp hb
  have hw : wid (half1 p).a = wid p.a := wid_of rfl
  have hw2 := (wid_le p.a).1
  refine ⟨?_, ⟨by show (0 : Int) ≤ p.bits + 1; omega, by show p.bits + 1 ≤ (wid (half1 p).a : Int); rw [hw]; omega⟩, fun i hi hj => ?_⟩
  · rw [okA_bits (half1_wf h hp hb)]
    intro i hi hj
    rw [hw] at hi
    rw [half1_bit h hp hb i hj, if_neg (by omega)]
    exact (okA_bits h).1 hp.1 i hi hj
  · have hi : p.bits + 1 ≤ (i : Int) := hi
    rw [hw] at hj
    rw [half1_bit h hp hb i (by omega), if_neg (by omega)]
    exact hp.2.2 i (by omega) hj
theorem half0_has (h : p.a.Wf) (hp : okP p) (hb : ¬ p.bits = (wid p.a : Int)) (b : Ad) : has (half0 p) b ↔ has p b ∧ bit b p.bits.toNat = false := by
  obtain ⟨k, e1, e2, h1, h2⟩ := half_place hp hb
  constructor
  · rintro ⟨_, g2, g3, g4⟩
    refine ⟨⟨hp, g2, g3, fun i hi => g4 i (by show (i : Int) < p.bits + 1; omega)⟩, ?_⟩
    have := g4 k (by show (k : Int) < p.bits + 1; omega)
    rw [e2, this]
    exact okP_zero h hp k (by omega) h2
  · rintro ⟨⟨_, g2, g3, g4⟩, g5⟩
    refine ⟨half0_ok h hp hb, g2, g3, fun i hi => ?_⟩
    have hi : (i : Int) < p.bits + 1 := hi
    by_cases q : (i : Int) < p.bits
    · exact g4 i q
    · obtain rfl : i = k := by omega
      rw [e2] at g5
      rw [g5]
      exact (okP_zero h hp i (by omega) h2).symm
theorem half1_has (h : p.a.Wf) (hp : okP p) (hb : ¬ p.bits = (wid p.a : Int)) (b : Ad) : has (half1 p) b ↔ has p b ∧ bit b p.bits.toNat = true := by
  obtain ⟨k, e1, e2, h1, h2⟩ := half_place hp hb
  have hw2 := (wid_le p.a).1
  constructor
  · rintro ⟨_, g2, g3, g4⟩
    have g4 : ∀ i : Nat, (i : Int) < p.bits + 1 → bit b i = bit (half1 p).a i := g4
    refine ⟨⟨hp, g2, g3, fun i hi => ?_⟩, ?_⟩
    · rw [g4 i (by omega), half1_bit h hp hb i (by omega), if_neg (by omega)]
    · rw [e2, g4 k (by omega), half1_bit h hp hb k h2, if_pos (by omega)]
  · rintro ⟨⟨_, g2, g3, g4⟩, g5⟩
    refine ⟨half1_ok h hp hb, g2, g3, fun i hi => ?_⟩
    have hi : (i : Int) < p.bits + 1 := hi
    rw [half1_bit h hp hb i (by omega)]
    by_cases q : (i : Int) < p.bits
    · rw [if_neg (by omega)]; exact g4 i q
    · obtain rfl : i = k := by omega
      rw [if_pos (by omega), ← e2]; exact g5
theorem half_apart (h : p.a.Wf) (hp : okP p) (hb : ¬ p.bits = (wid p.a : Int)) : covers p (half0 p) ∧ covers p (half1 p) ∧ ¬ covers (half0 p) (half1 p) ∧ ¬ covers (half1 p) (half0 p) := by
  have o0 := half0_ok h hp hb
  have o1 := half1_ok h hp hb
  obtain ⟨k, e1, e2, h1, h2⟩ := half_place hp hb
  have b1 := half1_bit h hp hb k h2
  rw [if_pos (by omega)] at b1
  have b0 := okP_zero h hp k (by omega) h2
  have hw2 := (wid_le p.a).1
  refine ⟨⟨o0, by show p.bits ≤ p.bits + 1; omega, hp, hp.1, rfl, fun _ _ => rfl⟩, ⟨o1, by show p.bits ≤ p.bits + 1; omega, hp, o1.1, rfl, fun i hi => ?_⟩, fun c => ?_, fun c => ?_⟩
  · rw [half1_bit h hp hb i (by omega), if_neg (by omega)]
  · have := c.2.2.2.2.2 k (by show (k : Int) < p.bits + 1; omega)
    rw [b1, show bit (half0 p).a k = false from b0] at this
    cases this
  · have := c.2.2.2.2.2 k (by show (k : Int) < p.bits + 1; omega)
    rw [b1, show bit (half0 p).a k = false from b0] at this
    cases this
end
/-- bytes, in their order -/
def cmpB : List Nat → List Nat → Int
  | x :: xs, y :: ys => if x < y then -1 else if y < x then 1 else cmpB xs ys
  | _, _ => 0
def cmp (p q : Px) : Int :=
  if p.a.v6 = q.a.v6 then (if ¬ cmpB p.a.B q.a.B = 0 then cmpB p.a.B q.a.B else if p.bits < q.bits then -1 else if q.bits < p.bits then 1 else 0)
  else if q.a.v6 then -1 else 1
theorem cmpB_self : ∀ l : List Nat, cmpB l l = 0
  | [] => rfl
  | x :: r => by simp [cmpB, cmpB_self r]
theorem cmpB_set : ∀ (l : List Nat) (i v x : Nat), l[i]? = some x → x < v → cmpB l (l.set i v) = -1
  | [], i, v, x, h, _ => by simp at h
  | y :: r, 0, v, x, h, hv => by simp at h; subst h; simp [cmpB, hv]
  | y :: r, i + 1, v, x, h, hv => by
    simp only [List.getElem?_cons_succ] at h
    simp only [List.set_cons_succ, cmpB, Nat.lt_irrefl, if_false]
    exact cmpB_set r i v x h hv
theorem or_more : ∀ x : Fin 256, ∀ s : Fin 8, ¬ x.val / 2 ^ s.val % 2 = 1 → x.val < (x.val ||| 2 ^ s.val) := by decide +kernel
theorem half_cmp {p : Px} (h : p.a.Wf) (hp : okP p) (hb : ¬ p.bits = (wid p.a : Int)) : cmp (half0 p) (half1 p) = -1 ∧ cmp p (half0 p) = -1 := by
  obtain ⟨k, e1, e2, h1, h2⟩ := half_place hp hb
  constructor
  · have hlt : byt p.a (k / 8) < bput (byt p.a (k / 8)) (7 - k % 8) true := by
      have b0 := okP_zero h hp k (by omega) h2
      have n0 : ¬ byt p.a (k / 8) / 2 ^ (7 - k % 8) % 2 = 1 := by rw [← bit_iff, b0]; simp
      exact or_more ⟨_, byt_lt h _⟩ ⟨7 - k % 8, by omega⟩ n0
    have hc := cmpB_set p.a.B (k / 8) _ _ (byt_some h (by omega)) hlt
    have e : (half1 p).a.B = p.a.B.set (k / 8) (bput (byt p.a (k / 8)) (7 - k % 8) true) := by show (put p.a p.bits.toNat true).B = _; rw [e2]; rfl
    unfold cmp
    rw [if_pos (show (half0 p).a.v6 = (half1 p).a.v6 from rfl), e, show (half0 p).a.B = p.a.B from rfl, hc]
    rfl
  · unfold cmp
    rw [if_pos (show p.a.v6 = (half0 p).a.v6 from rfl), show (half0 p).a.B = p.a.B from rfl, cmpB_self]
    simp only [not_true, if_false]
    exact if_pos (show p.bits < p.bits + 1 by omega)
end Go.Proofs.Ytidengmcbppcoaa.pf
