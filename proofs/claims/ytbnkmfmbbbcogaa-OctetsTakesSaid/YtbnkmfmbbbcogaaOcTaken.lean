/-
  What Take answers at any place, in one word for both cases; the law OctetsTakes, walked.
-/
import Derived.Test.YtbnkmfmbbbcogaaOcNum
import Derived.Test.YtbnkmfmbbbcogaaOcWorks
namespace Go.Proofs.Ytbnkmfmbbbcogaa.oc
open Go.RowKit

/-- the number at a place, 0 where none stands -/
def tv (bs : List Nat) (p : Int) (m : Nat) : Nat := if 0 ≤ p ∧ p + m ≤ bs.length then num ((bs.drop p.toNat).take m) else 0
/-- the error at a place -/
def te (bs : List Nat) (p : Int) (m : Nat) : Int := if 0 ≤ p ∧ p + m ≤ bs.length then 0 else 5
theorem tv_yes {bs : List Nat} {p : Int} {m : Nat} (h : 0 ≤ p ∧ p + m ≤ bs.length) : tv bs p m = num ((bs.drop p.toNat).take m) := by unfold tv; rw [if_pos h]
theorem te_yes {bs : List Nat} {p : Int} {m : Nat} (h : 0 ≤ p ∧ p + m ≤ bs.length) : te bs p m = 0 := by unfold te; rw [if_pos h]
theorem tv_no {bs : List Nat} {p : Int} {m : Nat} (h : ¬ (0 ≤ p ∧ p + m ≤ bs.length)) : tv bs p m = 0 := by unfold tv; rw [if_neg h]
theorem te_no {bs : List Nat} {p : Int} {m : Nat} (h : ¬ (0 ≤ p ∧ p + m ≤ bs.length)) : te bs p m = 5 := by unfold te; rw [if_neg h]
theorem tv_lt {bs : List Nat} (hs : Small bs) (p : Int) (m : Nat) : tv bs p m < 256 ^ m := by
  by_cases h : 0 ≤ p ∧ p + m ≤ bs.length
  · rw [tv_yes h]
    have h1 := num_lt _ ((hs.drop p.toNat).take m)
    have h2 : ((bs.drop p.toNat).take m).length ≤ m := List.length_take_le _ _
    exact Nat.lt_of_lt_of_le h1 (Nat.pow_le_pow_right (by omega) h2)
  · rw [tv_no h]
    exact Nat.pow_pos (by omega)

theorem take8_any (A : Option Addr) (bs : List Nat) (n c B : Nat) (p : Int) (w : World) (hn : bs.length = n) (hm : n ≤ 140737488355328) (hc : n ≤ c) (hc9 : c ≤ 140737488355328) (hs : Small bs) (hr : Rd w B A (by_ bs)) :
    Calls Try.prog 23 #[.slice A n c, .int .i64 p] w fun e w' => e = .returned (.tuple #[.int .u8 (tv bs p 1 : Nat), .int .i64 (te bs p 1)]) ∧ w = w' := by
  by_cases h : 0 ≤ p ∧ p + (1 : Nat) ≤ bs.length
  · rw [tv_yes h, te_yes h]
    obtain ⟨h0, h1⟩ := h
    obtain ⟨q, rfl⟩ := Int.eq_ofNat_of_zero_le h0
    rw [Int.toNat_natCast]
    exact take8_yes A bs n c B q w hn hm hc (by omega) hs hr (by omega)
  · rw [tv_no h, te_no h]
    exact take8_no A n c p w hm (by omega)

theorem take16_any (A : Option Addr) (bs : List Nat) (n c B : Nat) (p : Int) (w : World) (hn : bs.length = n) (hm : n ≤ 140737488355328) (hc : n ≤ c) (hc9 : c ≤ 140737488355328) (hs : Small bs) (hr : Rd w B A (by_ bs)) :
    Calls Try.prog 24 #[.slice A n c, .int .i64 p] w fun e w' => e = .returned (.tuple #[.int .u16 (tv bs p 2 : Nat), .int .i64 (te bs p 2)]) ∧ w = w' := by
  by_cases h : 0 ≤ p ∧ p + (2 : Nat) ≤ bs.length
  · rw [tv_yes h, te_yes h]
    obtain ⟨h0, h1⟩ := h
    obtain ⟨q, rfl⟩ := Int.eq_ofNat_of_zero_le h0
    rw [Int.toNat_natCast]
    exact take16_yes A bs n c B q w hn hm hc (by omega) hs hr (by omega)
  · rw [tv_no h, te_no h]
    exact take16_no A n c p w hm (by omega)

theorem take32_any (A : Option Addr) (bs : List Nat) (n c B : Nat) (p : Int) (w : World) (hn : bs.length = n) (hm : n ≤ 140737488355328) (hc : n ≤ c) (hc9 : c ≤ 140737488355328) (hs : Small bs) (hr : Rd w B A (by_ bs)) :
    Calls Try.prog 25 #[.slice A n c, .int .i64 p] w fun e w' => e = .returned (.tuple #[.int .u32 (tv bs p 4 : Nat), .int .i64 (te bs p 4)]) ∧ w = w' := by
  by_cases h : 0 ≤ p ∧ p + (4 : Nat) ≤ bs.length
  · rw [tv_yes h, te_yes h]
    obtain ⟨h0, h1⟩ := h
    obtain ⟨q, rfl⟩ := Int.eq_ofNat_of_zero_le h0
    rw [Int.toNat_natCast]
    exact take32_yes A bs n c B q w hn hm hc (by omega) hs hr (by omega)
  · rw [tv_no h, te_no h]
    exact take32_no A n c p w hm (by omega)

theorem take64_any (A : Option Addr) (bs : List Nat) (n c B : Nat) (p : Int) (w : World) (hn : bs.length = n) (hm : n ≤ 140737488355328) (hc : n ≤ c) (hc9 : c ≤ 140737488355328) (hs : Small bs) (hr : Rd w B A (by_ bs)) :
    Calls Try.prog 26 #[.slice A n c, .int .i64 p] w fun e w' => e = .returned (.tuple #[.int .u64 (tv bs p 8 : Nat), .int .i64 (te bs p 8)]) ∧ w = w' := by
  by_cases h : 0 ≤ p ∧ p + (8 : Nat) ≤ bs.length
  · rw [tv_yes h, te_yes h]
    obtain ⟨h0, h1⟩ := h
    obtain ⟨q, rfl⟩ := Int.eq_ofNat_of_zero_le h0
    rw [Int.toNat_natCast]
    exact take64_yes A bs n c B q w hn hm hc (by omega) hs hr (by omega)
  · rw [tv_no h, te_no h]
    exact take64_no A n c p w hm (by omega)

theorem takeOwn_any (A : Option Addr) (bs : List Nat) (n c B : Nat) (p : Int) (w : World) (hn : bs.length = n) (hm : n ≤ 140737488355328) (hc : n ≤ c) (hc9 : c ≤ 140737488355328) (hs : Small bs) (hr : Rd w B A (by_ bs)) :
    Calls Try.prog 27 #[.slice A n c, .int .i64 p] w fun e w' => e = .returned (.tuple #[.int .u16 (tv bs p 2 : Nat), .int .i64 (te bs p 2)]) ∧ w = w' := by
  by_cases h : 0 ≤ p ∧ p + (2 : Nat) ≤ bs.length
  · rw [tv_yes h, te_yes h]
    obtain ⟨h0, h1⟩ := h
    obtain ⟨q, rfl⟩ := Int.eq_ofNat_of_zero_le h0
    rw [Int.toNat_natCast]
    exact takeOwn_yes A bs n c B q w hn hm hc (by omega) hs hr (by omega)
  · rw [tv_no h, te_no h]
    exact takeOwn_no A n c p w hm (by omega)

theorem stands_yes (A : Option Addr) (n c : Nat) (p m : Int) (w : World) (_hn : n ≤ 140737488355328) (hm : 1 ≤ m ∧ m ≤ 8) (h : 0 ≤ p ∧ p + m ≤ n) :
    Calls Try.prog 43 #[.slice A n c, .int .i64 p, .int .i64 m] w fun e w' => e = .returned (.bool true) ∧ w = w' := by
  have h1 : decide (0 ≤ p) = true := by simp; omega
  have h2 : decide (p ≤ (n : Int)) = true := by simp; omega
  have h3 : m ≤ (n : Int) - p := by omega
  go_enter Try.func43, Try.ntmps43
  go_wp2
  go_ret
  exact ⟨rfl, rfl⟩
theorem stands_no (A : Option Addr) (n c : Nat) (p m : Int) (w : World) (_hn : n ≤ 140737488355328) (hm : 1 ≤ m ∧ m ≤ 8) (h : ¬ (0 ≤ p ∧ p + m ≤ n)) :
    Calls Try.prog 43 #[.slice A n c, .int .i64 p, .int .i64 m] w fun e w' => e = .returned (.bool false) ∧ w = w' := by
  by_cases h0 : p < 0
  · have h1 : decide (0 ≤ p) = false := by simp; omega
    go_enter Try.func43, Try.ntmps43
    go_wp2
    go_ret
    exact ⟨rfl, rfl⟩
  · have h1 : decide (0 ≤ p) = true := by simp; omega
    by_cases h5 : (n : Int) < p
    · have h2 : decide (p ≤ (n : Int)) = false := by simp; omega
      go_enter Try.func43, Try.ntmps43
      go_wp2
      go_ret
      exact ⟨rfl, rfl⟩
    · have h2 : decide (p ≤ (n : Int)) = true := by simp; omega
      have h3 : (n : Int) - p < m := by omega
      go_enter Try.func43, Try.ntmps43
      go_wp2
      go_ret
      exact ⟨ret_bool (by simp; omega), rfl⟩
theorem taken_yes (A : Option Addr) (bs : List Nat) (n c B p m : Nat) (w : World) (hn : bs.length = n) (hm : n ≤ 140737488355328) (hc : n ≤ c) (hc9 : c ≤ 140737488355328) (hs : Small bs) (hr : Rd w B A (by_ bs))
    (h1 : 1 ≤ m) (h8 : m ≤ 8) (h : p + m ≤ n) :
    Calls Try.prog 28 #[.slice A n c, .int .i64 p, .int .i64 m, .int .u64 (num ((bs.drop p).take m) : Nat), .int .i64 0] w fun e w' => e = .returned (.bool true) ∧ w = w' := by
  have hx0 := getq (bs := bs) (k := p) (by omega)
  obtain ⟨b, o, rfl, hb, hc0⟩ := hr.byte hx0
  have hcut := (hr.cut (k := p) (cap := c) (by rw [by_length]; omega)).take m
  rw [if_neg (by omega)] at hcut
  have hr1 : Rd w B (some ⟨b, o + p, none⟩) (by_ ((bs.drop p).take m)) := by
    have e : ((by_ bs).drop p).take m = by_ ((bs.drop p).take m) := by simp [by_]
    rw [← e]
    simpa [Addr.add_lit] using hcut
  have hlen : ((bs.drop p).take m).length = m := by rw [List.length_take, List.length_drop]; omega
  have hs1 := (hs.drop p).take m
  have hcp : ¬ c = p := by omega
  clear hcut hx0 hc0 hr hs hn
  generalize (bs.drop p).take m = ds at *
  have hnum := num_lt8 ds hs1 (by omega)
  have HL := Lib.hid hlen
  clear hlen
  go_enter Try.func28, Try.ntmps28
  go_wp2_with (first
    | (go_at_call 43; refine (stands_yes _ _ _ _ _ _ (by omega) (by omega) (by omega)).mono ?_; rintro e w' ⟨rfl, rfl⟩)
    | (go_at_call 44; refine (number_any (some ⟨b, o + p, none⟩) ds _ _ B _ (HL.out.trans (by omega)) (by omega) hs1 hr1).mono ?_; rintro e w' ⟨rfl, rfl⟩))
  go_ret
  exact ⟨rfl, rfl⟩
theorem taken_no (A : Option Addr) (n c : Nat) (p m : Int) (w : World) (hn : n ≤ 140737488355328) (hm : 1 ≤ m ∧ m ≤ 8) (h : ¬ (0 ≤ p ∧ p + m ≤ n)) :
    Calls Try.prog 28 #[.slice A n c, .int .i64 p, .int .i64 m, .int .u64 0, .int .i64 5] w fun e w' => e = .returned (.bool true) ∧ w = w' := by
  have HH := Lib.hid h
  clear h
  go_enter Try.func28, Try.ntmps28
  go_wp2_with (go_at_call 43; refine (stands_no _ _ _ _ _ _ (by omega) (by omega) HH.out).mono ?_; rintro e w' ⟨rfl, rfl⟩)
  go_ret
  exact ⟨rfl, rfl⟩
theorem taken_any (A : Option Addr) (bs : List Nat) (n c B m : Nat) (p mi : Int) (w : World) (hn : bs.length = n) (hm : n ≤ 140737488355328) (hc : n ≤ c) (hc9 : c ≤ 140737488355328) (hs : Small bs) (hr : Rd w B A (by_ bs))
    (h1 : 1 ≤ m) (h8 : m ≤ 8) (hmi : mi = (m : Int)) :
    Calls Try.prog 28 #[.slice A n c, .int .i64 p, .int .i64 mi, .int .u64 (tv bs p m : Nat), .int .i64 (te bs p m)] w fun e w' => e = .returned (.bool true) ∧ w = w' := by
  subst hmi
  by_cases h : 0 ≤ p ∧ p + m ≤ bs.length
  · rw [tv_yes h, te_yes h]
    obtain ⟨h0, h2⟩ := h
    obtain ⟨q, rfl⟩ := Int.eq_ofNat_of_zero_le h0
    rw [Int.toNat_natCast]
    exact taken_yes A bs n c B q m w hn hm hc hc9 hs hr h1 h8 (by omega)
  · rw [tv_no h, te_no h]
    exact taken_no A n c p m w hm (by omega) (by omega)
theorem taken1_at (A : Option Addr) (bs : List Nat) (n c B : Nat) (p : Int) (w : World) (hn : bs.length = n) (hm : n ≤ 140737488355328) (hc : n ≤ c) (hc9 : c ≤ 140737488355328) (hs : Small bs) (hr : Rd w B A (by_ bs)) :
    Calls Try.prog 28 #[.slice A n c, .int .i64 p, .int .i64 1, .int .u64 (tv bs p 1 : Nat), .int .i64 (te bs p 1)] w fun e w' => e = .returned (.bool true) ∧ w = w' :=
  taken_any A bs n c B 1 p 1 w hn hm hc hc9 hs hr (by omega) (by omega) rfl
theorem taken2_at (A : Option Addr) (bs : List Nat) (n c B : Nat) (p : Int) (w : World) (hn : bs.length = n) (hm : n ≤ 140737488355328) (hc : n ≤ c) (hc9 : c ≤ 140737488355328) (hs : Small bs) (hr : Rd w B A (by_ bs)) :
    Calls Try.prog 28 #[.slice A n c, .int .i64 p, .int .i64 2, .int .u64 (tv bs p 2 : Nat), .int .i64 (te bs p 2)] w fun e w' => e = .returned (.bool true) ∧ w = w' :=
  taken_any A bs n c B 2 p 2 w hn hm hc hc9 hs hr (by omega) (by omega) rfl
theorem taken4_at (A : Option Addr) (bs : List Nat) (n c B : Nat) (p : Int) (w : World) (hn : bs.length = n) (hm : n ≤ 140737488355328) (hc : n ≤ c) (hc9 : c ≤ 140737488355328) (hs : Small bs) (hr : Rd w B A (by_ bs)) :
    Calls Try.prog 28 #[.slice A n c, .int .i64 p, .int .i64 4, .int .u64 (tv bs p 4 : Nat), .int .i64 (te bs p 4)] w fun e w' => e = .returned (.bool true) ∧ w = w' :=
  taken_any A bs n c B 4 p 4 w hn hm hc hc9 hs hr (by omega) (by omega) rfl
theorem taken8_at (A : Option Addr) (bs : List Nat) (n c B : Nat) (p : Int) (w : World) (hn : bs.length = n) (hm : n ≤ 140737488355328) (hc : n ≤ c) (hc9 : c ≤ 140737488355328) (hs : Small bs) (hr : Rd w B A (by_ bs)) :
    Calls Try.prog 28 #[.slice A n c, .int .i64 p, .int .i64 8, .int .u64 (tv bs p 8 : Nat), .int .i64 (te bs p 8)] w fun e w' => e = .returned (.bool true) ∧ w = w' :=
  taken_any A bs n c B 8 p 8 w hn hm hc hc9 hs hr (by omega) (by omega) rfl
end Go.Proofs.Ytbnkmfmbbbcogaa.oc
