/-
  Take of each kind: the number that stands at a place, or the error where none stands.
-/
import Derived.Test.YtidengmcbppcoaaRows
import Derived.Test.YtidengmcbppcoaaOcB
import Derived.Test.YtidengmcbppcoaaOcSize
import Derived.WalkLawsBesides
import Derived.WalkSpells
import Derived.Outline
import Derived.Lib.Hide
namespace Go.Proofs.Ytidengmcbppcoaa.oc
open Go.RowKit

theorem or_byte (m x : Nat) (hx : x < 256) (hm : m * 256 + x < 18446744073709551616) : bits .or .u64 ((m : Int) * 256) (x : Int) = (m : Int) * 256 + (x : Int) := by
  have e := u64_or_nat (m * 256) x (Nat.lt_of_le_of_lt (Nat.le_add_right _ _) hm) (Nat.lt_of_le_of_lt (Nat.le_add_left _ _) hm)
  rw [nat_join 8 (m * 256) x (Nat.mul_mod_left m (2 ^ 8)) hx] at e
  rw [show (m : Int) * 256 = ((m * 256 : Nat) : Int) from by omega, e]
  omega



theorem take16_no (A : Option Addr) (n c : Nat) (at_ : Int) (w : World) (hm : n ≤ 140737488355328) (h : at_ < 0 ∨ (n : Int) - 2 < at_) :
    Calls Try.prog 77 #[.slice A n c, .int .i64 at_] w fun e w' => e = .returned (.tuple #[.int .u16 0, .int .i64 5]) ∧ w = w' := by
  by_cases h0 : at_ < 0
  · go_enter Try.func77, Try.ntmps77
    go_wp2_with (go_at_call 67; refine (size16 _).mono ?_; rintro e w' ⟨rfl, rfl⟩)
    go_ret2
    exact ⟨rfl, rfl⟩
  · have h1 : (n : Int) - 2 < at_ := by omega
    have h2 : 0 ≤ at_ := by omega
    clear h h0
    go_enter Try.func77, Try.ntmps77
    go_wp2_with (go_at_call 67; refine (size16 _).mono ?_; rintro e w' ⟨rfl, rfl⟩)
    go_ret2
    exact ⟨rfl, rfl⟩

theorem take16_yes (A : Option Addr) (bs : List Nat) (n c B p : Nat) (w : World) (hn : bs.length = n) (hm : n ≤ 140737488355328) (hc : n ≤ c) (hc9 : c ≤ 9223372036854775807) (hs : Small bs) (hr : Rd w B A (by_ bs)) (hp : p + 2 ≤ n) :
    Calls Try.prog 77 #[.slice A n c, .int .i64 p] w fun e w' => e = .returned (.tuple #[.int .u16 (num ((bs.drop p).take 2) : Nat), .int .i64 0]) ∧ w = w' := by
  have HN := Lib.hid hn
  have hx0 := getq (bs := bs) (k := p) (by omega)
  obtain ⟨b, o, rfl, hb, hc0⟩ := hr.byte hx0
  have hr1 : ∀ k x : Nat, (bs.drop p)[k]? = some x → w.cell? ⟨b, o + p + k, none⟩ = some (.int .u8 (x : Int)) := by
    intro k x hx
    rw [List.getElem?_drop] at hx
    obtain ⟨b', o', e, _, hcc⟩ := hr.byte hx
    injection e with e
    injection e with e1 e2
    subst e1
    subst e2
    rw [Nat.add_assoc]
    exact hcc
  have HR := Lib.hid hr1
  have hs1 := hs.drop p
  have hl1 : 2 ≤ (bs.drop p).length := by rw [List.length_drop]; omega
  have hcp : ¬ c = p := by omega
  clear hr1 hn hx0 hc0 hr hs
  generalize bs.drop p = ds at *
  go_enter Try.func77, Try.ntmps77
  go_wp2_with (go_at_call 67; refine (size16 _).mono ?_; rintro e w' ⟨rfl, rfl⟩)
  go_loop [7, 28, 9] (fun v i _ => ∃ k : Nat, k ≤ 2 ∧ i = .int .i64 k ∧ v = .int .u64 (num (ds.take k) : Nat)) (fun _ i _ => 2 - (intOf i).toNat)
  case atStart => exact ⟨0, Nat.zero_le _, rfl, rfl⟩
  case round =>
    obtain ⟨k, hk, rfl, rfl⟩ := hrel
    by_cases hlt : k < 2
    · have hx := getq (bs := ds) (k := k) (by omega)
      have hx8 := hs1.at_ hx
      have hc := HR.out k _ hx
      have hsn := num_snoc (ds.take k) (ds.getD k 0)
      rw [← take_snoc hx] at hsn
      have hbd := num_lt8 (ds.take (k + 1)) (hs1.take _) (by rw [List.length_take]; omega)
      rw [hsn] at hbd
      have HS := Lib.hid hsn
      clear hsn hx
      generalize num (ds.take k) = q at *
      generalize ds.getD k 0 = x at *
      have ho := or_byte q x hx8 hbd
      go_wp2
      go_round
      case rel => exact ⟨k + 1, by omega, by go_num, by rw [HS.out]; go_num⟩
      case measure => simp [intOf]; omega
    · have hk' : k = 2 := by omega
      subst hk'
      have hbd := num_lt (ds.take 2) (hs1.take _)
      rw [show (ds.take 2).length = 2 from by rw [List.length_take]; omega] at hbd
      have hbd1 : num (ds.take 2) < 65536 := hbd
      clear hbd
      generalize hq : num (ds.take 2) = q at *
      have HQ := Lib.hid hq
      clear hq
      go_wp2
      go_ret2
      exact ⟨by rw [HQ.out] <;> rfl, rfl⟩

theorem take32_no (A : Option Addr) (n c : Nat) (at_ : Int) (w : World) (hm : n ≤ 140737488355328) (h : at_ < 0 ∨ (n : Int) - 4 < at_) :
    Calls Try.prog 66 #[.slice A n c, .int .i64 at_] w fun e w' => e = .returned (.tuple #[.int .u32 0, .int .i64 5]) ∧ w = w' := by
  by_cases h0 : at_ < 0
  · go_enter Try.func66, Try.ntmps66
    go_wp2_with (go_at_call 68; refine (size32 _).mono ?_; rintro e w' ⟨rfl, rfl⟩)
    go_ret2
    exact ⟨rfl, rfl⟩
  · have h1 : (n : Int) - 4 < at_ := by omega
    have h2 : 0 ≤ at_ := by omega
    clear h h0
    go_enter Try.func66, Try.ntmps66
    go_wp2_with (go_at_call 68; refine (size32 _).mono ?_; rintro e w' ⟨rfl, rfl⟩)
    go_ret2
    exact ⟨rfl, rfl⟩

theorem take32_yes (A : Option Addr) (bs : List Nat) (n c B p : Nat) (w : World) (hn : bs.length = n) (hm : n ≤ 140737488355328) (hc : n ≤ c) (hc9 : c ≤ 9223372036854775807) (hs : Small bs) (hr : Rd w B A (by_ bs)) (hp : p + 4 ≤ n) :
    Calls Try.prog 66 #[.slice A n c, .int .i64 p] w fun e w' => e = .returned (.tuple #[.int .u32 (num ((bs.drop p).take 4) : Nat), .int .i64 0]) ∧ w = w' := by
  have HN := Lib.hid hn
  have hx0 := getq (bs := bs) (k := p) (by omega)
  obtain ⟨b, o, rfl, hb, hc0⟩ := hr.byte hx0
  have hr1 : ∀ k x : Nat, (bs.drop p)[k]? = some x → w.cell? ⟨b, o + p + k, none⟩ = some (.int .u8 (x : Int)) := by
    intro k x hx
    rw [List.getElem?_drop] at hx
    obtain ⟨b', o', e, _, hcc⟩ := hr.byte hx
    injection e with e
    injection e with e1 e2
    subst e1
    subst e2
    rw [Nat.add_assoc]
    exact hcc
  have HR := Lib.hid hr1
  have hs1 := hs.drop p
  have hl1 : 4 ≤ (bs.drop p).length := by rw [List.length_drop]; omega
  have hcp : ¬ c = p := by omega
  clear hr1 hn hx0 hc0 hr hs
  generalize bs.drop p = ds at *
  go_enter Try.func66, Try.ntmps66
  go_wp2_with (go_at_call 68; refine (size32 _).mono ?_; rintro e w' ⟨rfl, rfl⟩)
  go_loop [7, 28, 9] (fun v i _ => ∃ k : Nat, k ≤ 4 ∧ i = .int .i64 k ∧ v = .int .u64 (num (ds.take k) : Nat)) (fun _ i _ => 4 - (intOf i).toNat)
  case atStart => exact ⟨0, Nat.zero_le _, rfl, rfl⟩
  case round =>
    obtain ⟨k, hk, rfl, rfl⟩ := hrel
    by_cases hlt : k < 4
    · have hx := getq (bs := ds) (k := k) (by omega)
      have hx8 := hs1.at_ hx
      have hc := HR.out k _ hx
      have hsn := num_snoc (ds.take k) (ds.getD k 0)
      rw [← take_snoc hx] at hsn
      have hbd := num_lt8 (ds.take (k + 1)) (hs1.take _) (by rw [List.length_take]; omega)
      rw [hsn] at hbd
      have HS := Lib.hid hsn
      clear hsn hx
      generalize num (ds.take k) = q at *
      generalize ds.getD k 0 = x at *
      have ho := or_byte q x hx8 hbd
      go_wp2
      go_round
      case rel => exact ⟨k + 1, by omega, by go_num, by rw [HS.out]; go_num⟩
      case measure => simp [intOf]; omega
    · have hk' : k = 4 := by omega
      subst hk'
      have hbd := num_lt (ds.take 4) (hs1.take _)
      rw [show (ds.take 4).length = 4 from by rw [List.length_take]; omega] at hbd
      have hbd1 : num (ds.take 4) < 4294967296 := hbd
      clear hbd
      generalize hq : num (ds.take 4) = q at *
      have HQ := Lib.hid hq
      clear hq
      go_wp2
      go_ret2
      exact ⟨by rw [HQ.out] <;> rfl, rfl⟩




end Go.Proofs.Ytidengmcbppcoaa.oc
