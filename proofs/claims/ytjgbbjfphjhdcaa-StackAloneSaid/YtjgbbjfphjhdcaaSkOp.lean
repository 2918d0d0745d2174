/-
  stack: take, lay, Push, Pop under a gate.
-/
import Derived.Test.YtjgbbjfphjhdcaaSk
set_option linter.unusedVariables false
namespace Go.Proofs.Ytjgbbjfphjhdcaa.sk
open Go.RowKit Go.Proofs.Ytjgbbjfphjhdcaa.oc Go.Proofs.Ytjgbbjfphjhdcaa.mz Go.Proofs.Ytjgbbjfphjhdcaa.at_ Go.Proofs.Ytjgbbjfphjhdcaa.gt Go.Proofs.Ytjgbbjfphjhdcaa.gw
section
variable (Q W n N k : Nat) (ws : List Nat) (gv : Value) (ms : List (Nat × Nat)) (F : Nat → Prop) (w : World)
set_option maxRecDepth 100000 in
set_option maxHeartbeats 2000000 in
theorem take_no (s : St w Q W n N ws gv ms F) (hl : ms.length < 900000) (hk : k < 2) (h0 : nd (ws[k]?.getD 0) = 0) :
    Calls Try.prog 17 #[.pointer (some ⟨Q, 0, none⟩), gv, .int .i64 (k : Int)] w fun e w' => e = .returned (.tuple #[.int .u64 0, .bool false]) ∧ Left Q W n N ws gv (ms ++ [(1, k)]) F w w' := by
  have c2 := s.sk.cell2
  have HT1 := Lib.hid (kload (k := k) s (by omega) (by have := s.sk.pos; omega))
  have HND : Hid (∀ w, Calls Try.prog 24 #[.int .u64 ((ws[k]?.getD 0 : Nat) : Int)] w fun e w' => e = .returned (.int .u64 0) ∧ w = w') := Lib.hid (fun w => by have := nodeOf_ (ws[k]?.getD 0) w (s.sk.wd.small k); rwa [h0] at this)
  clear s hl hk h0
  generalize ws[k]?.getD 0 = t at *
  go_enter Try.func17, Try.ntmps17
  go_wp2_with fail
  go_step3
  go_wp2_with fail
  go_step3
  go_wp2_with fail
  refine wp_loop_rounds 1 ?_
  rw [rounds_succ]
  go_wp2_with fail
  refine HT1.out.mono ?_
  rintro e w1 ⟨rfl, l1⟩
  have L1 := Lib.hid l1
  clear l1
  go_wp2_with fail
  refine (HND.out w1).mono ?_
  rintro e w' ⟨rfl, rfl⟩
  go_wp2
  try rw [Exit.noGoto_ret]
  go_ret2
  exact ⟨rfl, L1.out⟩
set_option maxRecDepth 100000 in
set_option maxHeartbeats 2000000 in
theorem take_yes (i m : Nat) (s : St w Q W n N ws gv ms F) (hl : ms.length < 900000) (hk : k < 2) (h0 : nd (ws[k]?.getD 0) = i) (h1 : 1 ≤ i) (h2 : i ≤ n) (hm : ws[2 * i]?.getD 0 = m) (hm2 : m ≤ 1024) :
    Calls Try.prog 17 #[.pointer (some ⟨Q, 0, none⟩), gv, .int .i64 (k : Int)] w fun e w' => e = .returned (.tuple #[.int .u64 (i : Int), .bool true]) ∧ Left Q W n N (ws.set k (fol (ws[k]?.getD 0) m)) gv (ms ++ [(1, k)] ++ [(1, 2 * i)] ++ [(5, k)]) F w w' := by
  have c2 := s.sk.cell2
  have ht := s.sk.top
  have hp := s.sk.pos
  have HT1 := Lib.hid (kload (k := k) s (by omega) (by omega))
  have HND : Hid (∀ w, Calls Try.prog 24 #[.int .u64 ((ws[k]?.getD 0 : Nat) : Int)] w fun e w' => e = .returned (.int .u64 (i : Int)) ∧ w = w') := Lib.hid (fun w => by have := nodeOf_ (ws[k]?.getD 0) w (s.sk.wd.small k); rwa [h0] at this)
  have HNX : Hid (∀ w, Calls Try.prog 12 #[.int .u64 (i : Int)] w fun e w' => e = .returned (.int .i64 ((2 * i : Nat) : Int)) ∧ w = w') := Lib.hid (fun w => next_ i w h1 (by omega))
  have HFO : Hid (∀ w, Calls Try.prog 26 #[.int .u64 ((ws[k]?.getD 0 : Nat) : Int), .int .u64 (m : Int)] w fun e w' => e = .returned (.int .u64 ((fol (ws[k]?.getD 0) m : Nat) : Int)) ∧ w = w') := Lib.hid (fun w => follower_ _ m w (s.sk.wd.small k) (by omega))
  have HB : Hid (2 * i < 2 * n + 2 ∧ k < 2 * n + 2 ∧ ms.length < 900000 ∧ fol (ws[k]?.getD 0) m < 18446744073709551616) := Lib.hid ⟨by omega, by omega, hl, fol_lt (by omega)⟩
  have HM := Lib.hid hm
  have SS := Lib.hid s
  have hi0 : ((i : Int) == 0) = false := by simp; omega
  have hi1 : ¬ (i : Int) = 0 := by omega
  clear s hl hk h0 h1 h2 hm hm2 ht hp
  obtain ⟨t, hte⟩ : ∃ t, ws[k]?.getD 0 = t := ⟨_, rfl⟩
  have HTE := Lib.hid hte
  rw [hte] at HT1 HND HFO HB
  rw [hte]
  clear hte
  generalize fol t m = fo at *
  go_enter Try.func17, Try.ntmps17
  go_wp2_with fail
  go_step3
  go_wp2_with fail
  go_step3
  go_wp2_with fail
  refine wp_loop_rounds 1 ?_
  rw [rounds_succ]
  go_wp2_with fail
  refine HT1.out.mono ?_
  rintro e w1 ⟨rfl, l1⟩
  have s1 := l1.st SS.out
  have c2 := s1.sk.cell2
  have L1 := Lib.hid l1
  have hld := kload (k := 2 * i) s1.drew (by have := HB.out; simp; omega) HB.out.1
  rw [HM.out] at hld
  have HLD := Lib.hid hld
  clear l1 s1 hld
  go_wp2_with fail
  refine (HND.out w1).mono ?_
  rintro e w' ⟨rfl, rfl⟩
  go_wp2_with fail
  go_region_held3 (fun w' => w'.cell? ⟨Q, 2, none⟩ = some (.slice (some ⟨W, 0, none⟩) (2 * n + 2) (2 * n + 2))) (first | exact c2 | exact c2w)
    ((first
      | (go_at_call 12; refine (HNX.out _).mono ?_; rintro e w' ⟨rfl, rfl⟩)
      | (go_at_call 20; refine HLD.out.mono ?_; rintro e w2 ⟨rfl, l2⟩; have c2w := l2.sk.cell2; have L2 := Lib.hid (L1.out.trans l2.of_drew); clear l2)))
  have s2 := L2.out.st SS.out
  have c2 := s2.sk.cell2
  have hcs := kcas (k := k) (v := fo) s2.drew (by have := HB.out; simp; omega) (by have := HB.out; omega) (by have := HB.out; omega)
  rw [HTE.out] at hcs
  have HCS := Lib.hid hcs
  clear s2 hcs
  go_wp2_with fail
  go_region_held3 (fun w' => w'.cell? ⟨Q, 2, none⟩ = some (.slice (some ⟨W, 0, none⟩) (2 * n + 2) (2 * n + 2))) (first | exact c2 | exact c2x)
    ((first
      | (go_at_call 26; refine (HFO.out _).mono ?_; rintro e w' ⟨rfl, rfl⟩)
      | (go_at_call 25; refine HCS.out.mono ?_; rintro e w3 ⟨rfl, l3⟩; have c2x := l3.sk.cell2; have L3 := Lib.hid (L2.out.trans l3.of_drew); clear l3)))
  go_wp2
  try rw [Exit.noGoto_ret]
  go_ret2
  exact ⟨rfl, L3.out⟩
set_option maxRecDepth 100000 in
set_option maxHeartbeats 2000000 in
theorem lay_ (i : Nat) (s : St w Q W n N ws gv ms F) (hl : ms.length < 900000) (hk : k < 2) (h1 : 1 ≤ i) (h2 : i ≤ n) :
    Calls Try.prog 19 #[.pointer (some ⟨Q, 0, none⟩), gv, .int .i64 (k : Int), .int .u64 (i : Int)] w fun e w' => e = .returned (.tuple #[]) ∧ Left Q W n N ((ws.set (2 * i) (nd (ws[k]?.getD 0))).set k (fol (ws[k]?.getD 0) i)) gv (ms ++ [(1, k)] ++ [(2, 2 * i)] ++ [(5, k)]) F w w' := by
  have c2 := s.sk.cell2
  have ht := s.sk.top
  have hp := s.sk.pos
  have HT1 := Lib.hid (kload (k := k) s (by omega) (by omega))
  have HND : Hid (∀ w, Calls Try.prog 24 #[.int .u64 ((ws[k]?.getD 0 : Nat) : Int)] w fun e w' => e = .returned (.int .u64 ((nd (ws[k]?.getD 0) : Nat) : Int)) ∧ w = w') := Lib.hid (fun w => nodeOf_ (ws[k]?.getD 0) w (s.sk.wd.small k))
  have HNX : Hid (∀ w, Calls Try.prog 12 #[.int .u64 (i : Int)] w fun e w' => e = .returned (.int .i64 ((2 * i : Nat) : Int)) ∧ w = w') := Lib.hid (fun w => next_ i w h1 (by omega))
  have HFO : Hid (∀ w, Calls Try.prog 26 #[.int .u64 ((ws[k]?.getD 0 : Nat) : Int), .int .u64 (i : Int)] w fun e w' => e = .returned (.int .u64 ((fol (ws[k]?.getD 0) i : Nat) : Int)) ∧ w = w') := Lib.hid (fun w => follower_ _ i w (s.sk.wd.small k) (by omega))
  have HB : Hid (2 * i < 2 * n + 2 ∧ k < 2 * n + 2 ∧ ms.length < 900000 ∧ fol (ws[k]?.getD 0) i < 18446744073709551616 ∧ nd (ws[k]?.getD 0) < 18446744073709551616 ∧ 2 * i ≠ k) := Lib.hid ⟨by omega, by omega, hl, fol_lt (by omega), by have := nd_lt (ws[k]?.getD 0); omega, by omega⟩
  have SS := Lib.hid s
  clear s hl hk h1 h2 ht hp
  obtain ⟨t, hte⟩ : ∃ t, ws[k]?.getD 0 = t := ⟨_, rfl⟩
  have HTE := Lib.hid hte
  rw [hte] at HT1 HND HFO HB
  rw [hte]
  clear hte
  generalize fol t i = fo at *
  generalize nd t = nn at *
  go_enter Try.func19, Try.ntmps19
  go_wp2_with fail
  go_step3
  go_wp2_with fail
  go_step3
  go_wp2_with fail
  refine wp_loop_rounds 1 ?_
  rw [rounds_succ]
  go_wp2_with fail
  refine HT1.out.mono ?_
  rintro e w1 ⟨rfl, l1⟩
  have s1 := l1.st SS.out
  have c2 := s1.sk.cell2
  have L1 := Lib.hid l1
  have HST := Lib.hid (kstore (k := 2 * i) (v := nn) s1.drew (by have := HB.out; simp; omega) HB.out.1 HB.out.2.2.2.2.1)
  clear l1 s1
  go_wp2_with fail
  go_region_held3 (fun w' => w'.cell? ⟨Q, 2, none⟩ = some (.slice (some ⟨W, 0, none⟩) (2 * n + 2) (2 * n + 2))) (first | exact c2 | exact c2w)
    ((first
      | (go_at_call 12; refine (HNX.out _).mono ?_; rintro e w' ⟨rfl, rfl⟩)
      | (go_at_call 24; refine (HND.out _).mono ?_; rintro e w' ⟨rfl, rfl⟩)
      | (go_at_call 11; refine HST.out.mono ?_; rintro e w2 ⟨rfl, l2⟩; have c2w := l2.sk.cell2; have L2 := Lib.hid (L1.out.trans l2.of_drew); clear l2)))
  have s2 := L2.out.st SS.out
  have c2 := s2.sk.cell2
  have hcs := kcas (k := k) (v := fo) s2.drew (by have := HB.out; simp; omega) (by have := HB.out; omega) (by have := HB.out; omega)
  rw [List.getElem?_set_ne HB.out.2.2.2.2.2, HTE.out] at hcs
  have HCS := Lib.hid hcs
  clear s2 hcs
  go_wp2_with fail
  go_region_held3 (fun w' => w'.cell? ⟨Q, 2, none⟩ = some (.slice (some ⟨W, 0, none⟩) (2 * n + 2) (2 * n + 2))) (first | exact c2 | exact c2x)
    ((first
      | (go_at_call 26; refine (HFO.out _).mono ?_; rintro e w' ⟨rfl, rfl⟩)
      | (go_at_call 25; refine HCS.out.mono ?_; rintro e w3 ⟨rfl, l3⟩; have c2x := l3.sk.cell2; have L3 := Lib.hid (L2.out.trans l3.of_drew); clear l3)))
  go_wp2
  try rw [Exit.noGoto_ret]
  try simp only [Exit.inBlock, Exit.then]
  refine bodyPost_ret (results_none rfl _ _ _) rfl ?_
  exact ⟨rfl, L3.out⟩
end
end Go.Proofs.Ytjgbbjfphjhdcaa.sk
