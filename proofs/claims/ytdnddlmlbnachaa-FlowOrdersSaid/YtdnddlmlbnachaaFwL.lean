/-
  flow: Lane, Part; the document's own.
-/
import Derived.Test.YtdnddlmlbnachaaFwS
set_option linter.unusedVariables false
set_option linter.unusedSimpArgs false
namespace Go.Proofs.Ytdnddlmlbnachaa.fw
open Go.RowKit Go.Proofs.Ytdnddlmlbnachaa.oc Go.Proofs.Ytdnddlmlbnachaa.mz Go.Proofs.Ytdnddlmlbnachaa.pf Go.Proofs.Ytdnddlmlbnachaa.wh Go.Proofs.Ytdnddlmlbnachaa.qk Go.Proofs.Ytdnddlmlbnachaa.bys
@[irreducible] def laneV (k : Ky) (n : Int) : Int := if n < 1 ∨ 16 < n then 0 else ((khash k % n.toNat : Nat) : Int)
@[irreducible] def laneE (n : Int) : Int := if n < 1 ∨ 16 < n then 2 else 0
@[irreducible] def partV (k : Ky) (m : Nat) : Nat := if m = 0 then 0 else khash k / 1048576 % m
@[irreducible] def partE (m : Nat) : Int := if m = 0 then 2 else 0
theorem lane_bad {k : Ky} {n : Int} (h : n < 1 ∨ 16 < n) : laneV k n = 0 ∧ laneE n = 2 := by unfold laneV laneE; rw [if_pos h, if_pos h]; exact ⟨rfl, rfl⟩
theorem lane_good {k : Ky} {m : Nat} (h1 : 1 ≤ m) (h2 : m ≤ 16) : laneV k m = ((khash k % m : Nat) : Int) ∧ laneE m = 0 := by
  unfold laneV laneE
  rw [if_neg (by omega), if_neg (by omega), Int.toNat_natCast]; exact ⟨rfl, rfl⟩
theorem part_bad {k : Ky} : partV k 0 = 0 ∧ partE 0 = 2 := by unfold partV partE; exact ⟨rfl, rfl⟩
theorem part_good {k : Ky} {m : Nat} (h : m ≠ 0) : partV k m = khash k / 1048576 % m ∧ partE m = 0 := by
  unfold partV partE
  rw [if_neg h, if_neg h]; exact ⟨rfl, rfl⟩
section
variable (w : World)
set_option maxRecDepth 100000 in
set_option maxHeartbeats 1000000 in
theorem plane_lt (k : Ky) (hk : k.Wf) (n : Int) (h : n < 1) : Calls Try.prog 20 #[kv k, .int .i64 n] w fun e w' => e = .returned (.tuple #[.int .i64 0, .int .i64 2]) ∧ ∀ S, Keeps S w w' := by
  obtain ⟨w1, hw1, k1, b1, s1⟩ := box1 w (kvc k) 31
  have HRG := Lib.hid (Blk.range b1)
  have HSZ := Lib.hid (key_sz hk)
  have HW := Lib.hid hw1
  have K1 : Hid (∀ S, Keeps S w w1) := Lib.hid k1
  have d1 : n < 1 := h
  unfold kv
  clear hw1 k1 b1 s1 hk h
  generalize kvc k = C at *
  go_enter Try.func20, Try.ntmps20
  go_wp2
  try rw [Exit.noGoto_ret]
  go_ret2
  exact ⟨rfl, fun S => by have := K1.out S; rw [HW.out] at this; exact this⟩
set_option maxRecDepth 100000 in
set_option maxHeartbeats 1000000 in
theorem plane_gt (k : Ky) (hk : k.Wf) (n : Int) (h : 16 < n) : Calls Try.prog 20 #[kv k, .int .i64 n] w fun e w' => e = .returned (.tuple #[.int .i64 0, .int .i64 2]) ∧ ∀ S, Keeps S w w' := by
  obtain ⟨w1, hw1, k1, b1, s1⟩ := box1 w (kvc k) 31
  have HRG := Lib.hid (Blk.range b1)
  have HSZ := Lib.hid (key_sz hk)
  have HW := Lib.hid hw1
  have K1 : Hid (∀ S, Keeps S w w1) := Lib.hid k1
  have d1 : ¬ n < 1 := by omega
  have d2 : 16 < n := h
  unfold kv
  clear hw1 k1 b1 s1 hk h
  generalize kvc k = C at *
  go_enter Try.func20, Try.ntmps20
  go_wp2
  try rw [Exit.noGoto_ret]
  go_ret2
  exact ⟨rfl, fun S => by have := K1.out S; rw [HW.out] at this; exact this⟩
set_option maxRecDepth 100000 in
set_option maxHeartbeats 1000000 in
theorem plane_ok (k : Ky) (hk : k.Wf) (m : Nat) (h1 : 1 ≤ m) (h2 : m ≤ 16) : Calls Try.prog 20 #[kv k, .int .i64 (m : Int)] w fun e w' => e = .returned (.tuple #[.int .i64 ((khash k % m : Nat) : Int), .int .i64 0]) ∧ ∀ S, Keeps S w w' := by
  obtain ⟨w1, hw1, k1, b1, s1⟩ := box1 w (kvc k) 31
  have HRG := Lib.hid (Blk.range b1)
  have HSZ := Lib.hid (key_sz hk)
  have HW := Lib.hid hw1
  have K1 : Hid (∀ S, Keeps S w w1) := Lib.hid k1
  have HH := fun w => Lib.hid (hash_ w k hk)
  have hlt := khash_lt k
  have d1 : ¬ (m : Int) < 1 := by omega
  have d2 : ¬ (16 : Int) < (m : Int) := by omega
  have d3 : (m : Int) ≠ 0 := by omega
  have d4 : ((m : Int) == 0) = false := beq_eq_false_iff_ne.2 d3
  have d5 : (0 : Int) ≤ (m : Int) := by omega
  have d6 : (m : Int) < 18446744073709551616 := by omega
  have hq : ((khash k : Nat) : Int) % (m : Int) = ((khash k % m : Nat) : Int) := (Int.natCast_emod _ _).symm
  have hq9 : khash k % m < 16 := Nat.lt_of_lt_of_le (Nat.mod_lt _ (by omega)) h2
  generalize khash k = H at *
  generalize H % m = q at *
  unfold kv at HH ⊢
  clear hw1 k1 b1 s1 hk h1 h2
  generalize kvc k = C at *
  go_enter Try.func20, Try.ntmps20
  go_wp2_with (first | (with_reducible rw [← HW.out]; refine wpList_load_mid rfl 31 _ rfl w.heap.size 0 rfl C _ HRG.out Try.underlying31 rfl HSZ.out ?_))
  refine (HH _).out.mono ?_
  rintro e w2 ⟨rfl, k2⟩
  have K2 : Hid (∀ S, Keeps S w w2) := Lib.hid (fun S => (K1.out S).trans (k2 S))
  clear k2
  go_wp2
  try rw [Exit.noGoto_ret]
  go_ret2
  exact ⟨rfl, K2.out⟩
theorem plane_ (k : Ky) (hk : k.Wf) (n : Int) : Calls Try.prog 20 #[kv k, .int .i64 n] w fun e w' => e = .returned (.tuple #[.int .i64 (laneV k n), .int .i64 (laneE n)]) ∧ ∀ S, Keeps S w w' := by
  by_cases h1 : n < 1
  · rw [(lane_bad (k := k) (.inl h1)).1, (lane_bad (k := k) (.inl h1)).2]; exact plane_lt w k hk n h1
  · by_cases h2 : 16 < n
    · rw [(lane_bad (k := k) (.inr h2)).1, (lane_bad (k := k) (.inr h2)).2]; exact plane_gt w k hk n h2
    · obtain ⟨m, rfl⟩ := Int.eq_ofNat_of_zero_le (show 0 ≤ n by omega)
      rw [(lane_good (k := k) (m := m) (by omega) (by omega)).1, (lane_good (k := k) (m := m) (by omega) (by omega)).2]; exact plane_ok w k hk m (by omega) (by omega)
set_option maxRecDepth 100000 in
set_option maxHeartbeats 1000000 in
theorem rlane_lt (k : Ky) (hk : k.Wf) (n : Int) (h : n < 1) : Calls Try.prog 21 #[kv k, .int .i64 n] w fun e w' => e = .returned (.tuple #[.int .i64 0, .int .i64 2]) ∧ ∀ S, Keeps S w w' := by
  obtain ⟨w1, hw1, k1, b1, s1⟩ := box1 w (kvc k) 31
  have HRG := Lib.hid (Blk.range b1)
  have HSZ := Lib.hid (key_sz hk)
  have HW := Lib.hid hw1
  have K1 : Hid (∀ S, Keeps S w w1) := Lib.hid k1
  have d1 : n < 1 := h
  unfold kv
  clear hw1 k1 b1 s1 hk h
  generalize kvc k = C at *
  go_enter Try.func21, Try.ntmps21
  go_wp2
  try rw [Exit.noGoto_ret]
  go_ret2
  exact ⟨rfl, fun S => by have := K1.out S; rw [HW.out] at this; exact this⟩
set_option maxRecDepth 100000 in
set_option maxHeartbeats 1000000 in
theorem rlane_gt (k : Ky) (hk : k.Wf) (n : Int) (h : 16 < n) : Calls Try.prog 21 #[kv k, .int .i64 n] w fun e w' => e = .returned (.tuple #[.int .i64 0, .int .i64 2]) ∧ ∀ S, Keeps S w w' := by
  obtain ⟨w1, hw1, k1, b1, s1⟩ := box1 w (kvc k) 31
  have HRG := Lib.hid (Blk.range b1)
  have HSZ := Lib.hid (key_sz hk)
  have HW := Lib.hid hw1
  have K1 : Hid (∀ S, Keeps S w w1) := Lib.hid k1
  have d1 : ¬ n < 1 := by omega
  have d2 : 16 < n := h
  unfold kv
  clear hw1 k1 b1 s1 hk h
  generalize kvc k = C at *
  go_enter Try.func21, Try.ntmps21
  go_wp2
  try rw [Exit.noGoto_ret]
  go_ret2
  exact ⟨rfl, fun S => by have := K1.out S; rw [HW.out] at this; exact this⟩
set_option maxRecDepth 100000 in
set_option maxHeartbeats 1000000 in
theorem rlane_ok (k : Ky) (hk : k.Wf) (m : Nat) (h1 : 1 ≤ m) (h2 : m ≤ 16) : Calls Try.prog 21 #[kv k, .int .i64 (m : Int)] w fun e w' => e = .returned (.tuple #[.int .i64 ((khash k % m : Nat) : Int), .int .i64 0]) ∧ ∀ S, Keeps S w w' := by
  obtain ⟨w1, hw1, k1, b1, s1⟩ := box1 w (kvc k) 31
  have HRG := Lib.hid (Blk.range b1)
  have HSZ := Lib.hid (key_sz hk)
  have HW := Lib.hid hw1
  have K1 : Hid (∀ S, Keeps S w w1) := Lib.hid k1
  have HH := fun w => Lib.hid (rhash_ w k hk)
  have hlt := khash_lt k
  have d1 : ¬ (m : Int) < 1 := by omega
  have d2 : ¬ (16 : Int) < (m : Int) := by omega
  have d3 : (m : Int) ≠ 0 := by omega
  have d4 : ((m : Int) == 0) = false := beq_eq_false_iff_ne.2 d3
  have d5 : (0 : Int) ≤ (m : Int) := by omega
  have d6 : (m : Int) < 18446744073709551616 := by omega
  have hq : ((khash k : Nat) : Int) % (m : Int) = ((khash k % m : Nat) : Int) := (Int.natCast_emod _ _).symm
  have hq9 : khash k % m < 16 := Nat.lt_of_lt_of_le (Nat.mod_lt _ (by omega)) h2
  generalize khash k = H at *
  generalize H % m = q at *
  unfold kv at HH ⊢
  clear hw1 k1 b1 s1 hk h1 h2
  generalize kvc k = C at *
  go_enter Try.func21, Try.ntmps21
  go_wp2_with (first | (with_reducible rw [← HW.out]; refine wpList_load_mid rfl 31 _ rfl w.heap.size 0 rfl C _ HRG.out Try.underlying31 rfl HSZ.out ?_))
  refine (HH _).out.mono ?_
  rintro e w2 ⟨rfl, k2⟩
  have K2 : Hid (∀ S, Keeps S w w2) := Lib.hid (fun S => (K1.out S).trans (k2 S))
  clear k2
  go_wp2
  try rw [Exit.noGoto_ret]
  go_ret2
  exact ⟨rfl, K2.out⟩
theorem rlane_ (k : Ky) (hk : k.Wf) (n : Int) : Calls Try.prog 21 #[kv k, .int .i64 n] w fun e w' => e = .returned (.tuple #[.int .i64 (laneV k n), .int .i64 (laneE n)]) ∧ ∀ S, Keeps S w w' := by
  by_cases h1 : n < 1
  · rw [(lane_bad (k := k) (.inl h1)).1, (lane_bad (k := k) (.inl h1)).2]; exact rlane_lt w k hk n h1
  · by_cases h2 : 16 < n
    · rw [(lane_bad (k := k) (.inr h2)).1, (lane_bad (k := k) (.inr h2)).2]; exact rlane_gt w k hk n h2
    · obtain ⟨m, rfl⟩ := Int.eq_ofNat_of_zero_le (show 0 ≤ n by omega)
      rw [(lane_good (k := k) (m := m) (by omega) (by omega)).1, (lane_good (k := k) (m := m) (by omega) (by omega)).2]; exact rlane_ok w k hk m (by omega) (by omega)
set_option maxRecDepth 100000 in
set_option maxHeartbeats 1000000 in
theorem ppart_no (k : Ky) (hk : k.Wf) : Calls Try.prog 22 #[kv k, .int .u64 0] w fun e w' => e = .returned (.tuple #[.int .u64 0, .int .i64 2]) ∧ ∀ S, Keeps S w w' := by
  obtain ⟨w1, hw1, k1, b1, s1⟩ := box1 w (kvc k) 31
  have HRG := Lib.hid (Blk.range b1)
  have HSZ := Lib.hid (key_sz hk)
  have HW := Lib.hid hw1
  have K1 : Hid (∀ S, Keeps S w w1) := Lib.hid k1
  unfold kv
  clear hw1 k1 b1 s1 hk
  generalize kvc k = C at *
  go_enter Try.func22, Try.ntmps22
  go_wp2
  try rw [Exit.noGoto_ret]
  go_ret2
  exact ⟨rfl, fun S => by have := K1.out S; rw [HW.out] at this; exact this⟩
set_option maxRecDepth 100000 in
set_option maxHeartbeats 1000000 in
theorem ppart_ok (k : Ky) (hk : k.Wf) (m : Nat) (h1 : m ≠ 0) (h2 : m < 18446744073709551616) : Calls Try.prog 22 #[kv k, .int .u64 (m : Int)] w fun e w' => e = .returned (.tuple #[.int .u64 ((khash k / 1048576 % m : Nat) : Int), .int .i64 0]) ∧ ∀ S, Keeps S w w' := by
  obtain ⟨w1, hw1, k1, b1, s1⟩ := box1 w (kvc k) 31
  have HRG := Lib.hid (Blk.range b1)
  have HSZ := Lib.hid (key_sz hk)
  have HW := Lib.hid hw1
  have K1 : Hid (∀ S, Keeps S w w1) := Lib.hid k1
  have HH := fun w => Lib.hid (hash_ w k hk)
  have hlt := khash_lt k
  have d3 : (m : Int) ≠ 0 := by omega
  have d4 : ((m : Int) == 0) = false := beq_eq_false_iff_ne.2 d3
  obtain ⟨p, hp⟩ : ∃ p, p = khash k / 1048576 := ⟨_, rfl⟩
  have hpl : p < 18446744073709551616 := by omega
  have hp1 : ((khash k : Nat) : Int) / 1048576 = (p : Int) := by omega
  have hp2 : ((khash k : Nat) : Int) / 2 ^ 20 = (p : Int) := by rw [show ((2 : Int) ^ 20) = 1048576 from rfl]; exact hp1
  have hq : (p : Int) % (m : Int) = ((p % m : Nat) : Int) := (Int.natCast_emod _ _).symm
  have hq9 : p % m < 18446744073709551616 := Nat.lt_of_le_of_lt (Nat.mod_le _ _) hpl
  rw [← hp]
  generalize khash k = H at *
  clear hp
  generalize p % m = q at *
  unfold kv at HH ⊢
  clear hw1 k1 b1 s1 hk h1
  generalize kvc k = C at *
  go_enter Try.func22, Try.ntmps22
  go_wp2_with (first | (with_reducible rw [← HW.out]; refine wpList_load_mid rfl 31 _ rfl w.heap.size 0 rfl C _ HRG.out Try.underlying31 rfl HSZ.out ?_))
  refine (HH _).out.mono ?_
  rintro e w2 ⟨rfl, k2⟩
  have K2 : Hid (∀ S, Keeps S w w2) := Lib.hid (fun S => (K1.out S).trans (k2 S))
  clear k2
  go_wp2
  try rw [Exit.noGoto_ret]
  go_ret2
  exact ⟨by rw [← hq]; rfl, K2.out⟩
theorem ppart_ (k : Ky) (hk : k.Wf) (m : Nat) (hm : m < 18446744073709551616) : Calls Try.prog 22 #[kv k, .int .u64 (m : Int)] w fun e w' => e = .returned (.tuple #[.int .u64 ((partV k m : Nat) : Int), .int .i64 (partE m)]) ∧ ∀ S, Keeps S w w' := by
  by_cases h1 : m = 0
  · subst h1
    rw [(part_bad (k := k)).1, (part_bad (k := k)).2]; exact ppart_no w k hk
  · rw [(part_good (k := k) h1).1, (part_good (k := k) h1).2]; exact ppart_ok w k hk m h1 hm
set_option maxRecDepth 100000 in
set_option maxHeartbeats 1000000 in
theorem rpart_no (k : Ky) (hk : k.Wf) : Calls Try.prog 23 #[kv k, .int .u64 0] w fun e w' => e = .returned (.tuple #[.int .u64 0, .int .i64 2]) ∧ ∀ S, Keeps S w w' := by
  obtain ⟨w1, hw1, k1, b1, s1⟩ := box1 w (kvc k) 31
  have HRG := Lib.hid (Blk.range b1)
  have HSZ := Lib.hid (key_sz hk)
  have HW := Lib.hid hw1
  have K1 : Hid (∀ S, Keeps S w w1) := Lib.hid k1
  unfold kv
  clear hw1 k1 b1 s1 hk
  generalize kvc k = C at *
  go_enter Try.func23, Try.ntmps23
  go_wp2
  try rw [Exit.noGoto_ret]
  go_ret2
  exact ⟨rfl, fun S => by have := K1.out S; rw [HW.out] at this; exact this⟩
set_option maxRecDepth 100000 in
set_option maxHeartbeats 1000000 in
theorem rpart_ok (k : Ky) (hk : k.Wf) (m : Nat) (h1 : m ≠ 0) (h2 : m < 18446744073709551616) : Calls Try.prog 23 #[kv k, .int .u64 (m : Int)] w fun e w' => e = .returned (.tuple #[.int .u64 ((khash k / 1048576 % m : Nat) : Int), .int .i64 0]) ∧ ∀ S, Keeps S w w' := by
  obtain ⟨w1, hw1, k1, b1, s1⟩ := box1 w (kvc k) 31
  have HRG := Lib.hid (Blk.range b1)
  have HSZ := Lib.hid (key_sz hk)
  have HW := Lib.hid hw1
  have K1 : Hid (∀ S, Keeps S w w1) := Lib.hid k1
  have HH := fun w => Lib.hid (rhash_ w k hk)
  have hlt := khash_lt k
  have d3 : (m : Int) ≠ 0 := by omega
  have d4 : ((m : Int) == 0) = false := beq_eq_false_iff_ne.2 d3
  obtain ⟨p, hp⟩ : ∃ p, p = khash k / 1048576 := ⟨_, rfl⟩
  have hpl : p < 18446744073709551616 := by omega
  have hp1 : ((khash k : Nat) : Int) / 1048576 = (p : Int) := by omega
  have hp2 : ((khash k : Nat) : Int) / 2 ^ 20 = (p : Int) := by rw [show ((2 : Int) ^ 20) = 1048576 from rfl]; exact hp1
  have hq : (p : Int) % (m : Int) = ((p % m : Nat) : Int) := (Int.natCast_emod _ _).symm
  have hq9 : p % m < 18446744073709551616 := Nat.lt_of_le_of_lt (Nat.mod_le _ _) hpl
  rw [← hp]
  generalize khash k = H at *
  clear hp
  generalize p % m = q at *
  unfold kv at HH ⊢
  clear hw1 k1 b1 s1 hk h1
  generalize kvc k = C at *
  go_enter Try.func23, Try.ntmps23
  go_wp2_with (first | (with_reducible rw [← HW.out]; refine wpList_load_mid rfl 31 _ rfl w.heap.size 0 rfl C _ HRG.out Try.underlying31 rfl HSZ.out ?_))
  refine (HH _).out.mono ?_
  rintro e w2 ⟨rfl, k2⟩
  have K2 : Hid (∀ S, Keeps S w w2) := Lib.hid (fun S => (K1.out S).trans (k2 S))
  clear k2
  go_wp2
  try rw [Exit.noGoto_ret]
  go_ret2
  exact ⟨by rw [← hq]; rfl, K2.out⟩
theorem rpart_ (k : Ky) (hk : k.Wf) (m : Nat) (hm : m < 18446744073709551616) : Calls Try.prog 23 #[kv k, .int .u64 (m : Int)] w fun e w' => e = .returned (.tuple #[.int .u64 ((partV k m : Nat) : Int), .int .i64 (partE m)]) ∧ ∀ S, Keeps S w w' := by
  by_cases h1 : m = 0
  · subst h1
    rw [(part_bad (k := k)).1, (part_bad (k := k)).2]; exact rpart_no w k hk
  · rw [(part_good (k := k) h1).1, (part_good (k := k) h1).2]; exact rpart_ok w k hk m h1 hm
end
end Go.Proofs.Ytdnddlmlbnachaa.fw
