/-
  epoch: elsewhere: the slots, gone over up to the first one that is pinned to another epoch. epoch: Now, Pin, Unpin, Move, Safe under a gate.
-/
import Derived.Test.YtbemnfoamhbemaaGreatEp
set_option linter.unusedVariables false
namespace Go.Proofs.YtbemnfoamhbemaaGreat.ep
open Go.RowKit Go.Proofs.YtbemnfoamhbemaaGreat.oc Go.Proofs.YtbemnfoamhbemaaGreat.mz Go.Proofs.YtbemnfoamhbemaaGreat.at_ Go.Proofs.YtbemnfoamhbemaaGreat.gt Go.Proofs.YtbemnfoamhbemaaGreat.gw
/-- is it pinned to another epoch than e? -/
def bad (e p : Nat) : Bool := decide (p ≠ 0) && decide (p ≠ e)
/-- of the slots from k on, f of them: is one pinned to another epoch? -/
def away (e : Nat) (ws : List Nat) : Nat → Nat → Bool
  | _, 0 => false
  | k, f + 1 => bad e (ws[k + 1]?.getD 0) || away e ws (k + 1) f
/-- the operations of looking -/
def looks (e : Nat) (ws : List Nat) : Nat → Nat → List (Nat × Nat)
  | _, 0 => []
  | k, f + 1 => (1, k + 1) :: (if bad e (ws[k + 1]?.getD 0) then [] else looks e ws (k + 1) f)
theorem looks_len (e : Nat) (ws : List Nat) : ∀ f k, (looks e ws k f).length ≤ f
  | 0, k => by simp [looks]
  | f + 1, k => by
    unfold looks
    have := looks_len e ws f (k + 1)
    split <;> simp <;> omega
section
variable (D n N e : Nat) (ws : List Nat) (gv : Value) (ms : List (Nat × Nat)) (F : Nat → Prop) (w : World)
set_option maxRecDepth 100000 in
set_option maxHeartbeats 2000000 in
theorem elsewhere_ (s : St w D n N ws gv ms F) (hl : ms.length < 900000) (hz : ∀ b, F b → b < w.heap.size) :
    Calls Tryz.prog 83 #[.pointer (some ⟨D, 0, none⟩), gv, .int .u64 (e : Int)] w fun r w' => r = .returned (.bool (away e ws 0 n)) ∧ Left D n N ws gv (ms ++ looks e ws 0 n) F w w' := by
  have S0 := Lib.hid s
  have HB : Hid (ms.length < 900000 ∧ (∀ b, F b → b < w.heap.size) ∧ n ≤ 16) := Lib.hid ⟨hl, hz, s.ep.top⟩
  clear s hl hz
  go_enter Tryz.func83, Tryz.ntmps83
  go_wp2_with fail
  go_loopw [9] (fun i wr => ∃ k : Nat, k ≤ n ∧ i = .int .i64 (k : Int) ∧ ∃ ms', Left D n N ws gv ms' F w wr ∧ away e ws 0 n = away e ws k (n - k) ∧ ms ++ looks e ws 0 n = ms' ++ looks e ws k (n - k) ∧ ms'.length ≤ ms.length + k) (fun i _ => 100 - (intOf i).toNat)
  case atStart => exact ⟨0, Nat.zero_le _, rfl, ms, S0.out.here HB.out.2.1, rfl, rfl, Nat.le_refl _⟩
  case round =>
    obtain ⟨k, hk, rfl, ms', hL, ha, hm, hml⟩ := hrel
    have hb := HB.out
    have c1 := hL.ep.cell1
    have L := Lib.hid hL
    have k0 : (0 : Int) ≤ (k : Int) := by omega
    rcases Nat.eq_or_lt_of_le hk with hkn | hkn
    · subst hkn
      rw [Nat.sub_self] at ha hm
      have HA : Hid (away e ws 0 k = false ∧ ms ++ looks e ws 0 k = ms') := Lib.hid ⟨ha, by rw [hm]; simp [looks]⟩
      clear hL ha hm hml
      rcases Nat.lt_or_ge k 16 with h16 | h16
      · have h16' : (k : Int) < 16 := by omega
        clear hb
        go_wp2
        try rw [Exit.noGoto_ret]
        go_ret
        refine ⟨by rw [HA.out.1]; rfl, ?_⟩
        rw [HA.out.2]
        exact L.out
      · obtain rfl : k = 16 := by omega
        clear hb
        go_wp2
        try rw [Exit.noGoto_ret]
        go_ret
        refine ⟨by rw [HA.out.1]; rfl, ?_⟩
        rw [HA.out.2]
        exact L.out
    · have h16' : (k : Int) < 16 := by omega
      have hkn' : (k : Int) < (n : Int) := by omega
      have hkne : ¬ (k : Int) = (n : Int) := by omega
      have hkne2 : ((k : Int) == (n : Int)) = false := by simp; omega
      have HP := Lib.hid (pinned_ D n N k ws gv ms' _ wr (Left.st S0.out hL) (by omega) hkn)
      obtain ⟨r, hr⟩ : ∃ r, n - k = r + 1 := ⟨n - k - 1, by omega⟩
      have hr' : n - (k + 1) = r := by omega
      rw [hr] at ha hm
      have HR := Lib.hid hr'
      have HML := Lib.hid hml
      clear hr hr' hml hb hL
      simp only [away, looks] at ha hm
      obtain ⟨p, hp⟩ : ∃ p, ws[k + 1]?.getD 0 = p := ⟨_, rfl⟩
      rw [hp] at ha hm HP
      clear hp
      rcases Nat.decEq p 0 with hp0 | hp0
      · rcases Nat.decEq p e with hpe | hpe
        · have hb1 : bad e p = true := by unfold bad; simp [hp0, hpe]
          rw [hb1] at ha hm
          have HA : Hid (away e ws 0 n = true ∧ ms ++ looks e ws 0 n = ms' ++ [(1, k + 1)]) := Lib.hid ⟨by simpa using ha, by simpa using hm⟩
          have q0 : ¬ (p : Int) = 0 := by omega
          have q1 : ¬ (p : Int) = (e : Int) := by omega
          have q2 : ((p : Int) != 0) = true := by simp; omega
          have q3 : ((p : Int) != (e : Int)) = true := by simp; omega
          clear ha hm hb1 hp0 hpe
          go_wp2_with fail
          refine HP.out.mono ?_
          rintro e' w2 ⟨rfl, l2⟩
          have L2 := Lib.hid (L.out.trans l2)
          clear l2
          go_wp2
          try rw [Exit.noGoto_ret]
          go_ret
          refine ⟨by rw [HA.out.1]; rfl, ?_⟩
          rw [HA.out.2]
          exact L2.out
        · subst hpe
          have hb1 : bad p p = false := by unfold bad; simp
          rw [hb1] at ha hm
          have HA : Hid (away p ws 0 n = away p ws (k + 1) (n - (k + 1)) ∧ ms ++ looks p ws 0 n = ms' ++ [(1, k + 1)] ++ looks p ws (k + 1) (n - (k + 1))) := Lib.hid (by rw [HR.out]; exact ⟨by simpa using ha, by simpa using hm⟩)
          have q0 : ¬ (p : Int) = 0 := by omega
          have q2 : ((p : Int) != 0) = true := by simp; omega
          have q3 : ((p : Int) != (p : Int)) = false := by simp
          clear ha hm hb1 hp0
          go_wp2_with fail
          refine HP.out.mono ?_
          rintro e' w2 ⟨rfl, l2⟩
          have L2 := Lib.hid (L.out.trans l2)
          clear l2
          go_wp2_with fail
          go_roundw
          case rel => exact ⟨k + 1, by omega, by go_num, _, L2.out, HA.out.1, HA.out.2, by have := HML.out; simp; omega⟩
          case measure => simp [intOf]; omega
      · subst hp0
        have hb1 : bad e 0 = false := by unfold bad; simp
        rw [hb1] at ha hm
        have HA : Hid (away e ws 0 n = away e ws (k + 1) (n - (k + 1)) ∧ ms ++ looks e ws 0 n = ms' ++ [(1, k + 1)] ++ looks e ws (k + 1) (n - (k + 1))) := Lib.hid (by rw [HR.out]; exact ⟨by simpa using ha, by simpa using hm⟩)
        have c0 : ((0 : Nat) : Int) = 0 := rfl
        rw [c0] at HP
        clear ha hm hb1 c0
        go_wp2_with fail
        refine HP.out.mono ?_
        rintro e' w2 ⟨rfl, l2⟩
        have L2 := Lib.hid (L.out.trans l2)
        clear l2
        go_wp2_with fail
        go_roundw
        case rel => exact ⟨k + 1, by omega, by go_num, _, L2.out, HA.out.1, HA.out.2, by have := HML.out; simp; omega⟩
        case measure => simp [intOf]; omega
end
end Go.Proofs.YtbemnfoamhbemaaGreat.ep
set_option linter.unusedVariables false
namespace Go.Proofs.YtbemnfoamhbemaaGreat.ep
open Go.RowKit Go.Proofs.YtbemnfoamhbemaaGreat.oc Go.Proofs.YtbemnfoamhbemaaGreat.mz Go.Proofs.YtbemnfoamhbemaaGreat.at_ Go.Proofs.YtbemnfoamhbemaaGreat.gt Go.Proofs.YtbemnfoamhbemaaGreat.gw
section
variable (D n N k : Nat) (ws : List Nat) (gv : Value) (ms : List (Nat × Nat)) (F : Nat → Prop) (w : World)
set_option maxRecDepth 100000 in
set_option maxHeartbeats 1000000 in
theorem Now_ (s : St w D n N ws gv ms F) (hl : ms.length < 900000) :
    Calls Tryz.prog 39 #[.pointer (some ⟨D, 0, none⟩), gv] w fun e w' => e = .returned (.tuple #[.int .u64 ((ws[0]?.getD 0 : Nat) : Int), .int .i64 0]) ∧ Left D n N ws gv (ms ++ [(1, 0)]) F w w' := by
  have HN := Lib.hid (none_ D n ws w s.ep)
  have HT := Lib.hid (now_ D n N ws gv ms F w s (by omega))
  clear s hl
  go_enter Tryz.func39, Tryz.ntmps39
  go_wp2_with fail
  refine HN.out.mono ?_
  rintro e w' ⟨rfl, rfl⟩
  go_wp2_with fail
  refine HT.out.mono ?_
  rintro e w1 ⟨rfl, l1⟩
  have L1 := Lib.hid l1
  clear l1
  go_wp2
  try rw [Exit.noGoto_ret]
  go_ret2
  exact ⟨rfl, L1.out⟩
set_option maxRecDepth 100000 in
set_option maxHeartbeats 1000000 in
theorem pin_range (x : Int) (s : St w D n N ws gv ms F) (hz : ∀ b, F b → b < w.heap.size) (hx : x < 0 ∨ (n : Int) ≤ x) :
    Calls Tryz.prog 36 #[.pointer (some ⟨D, 0, none⟩), gv, .int .i64 x] w fun e w' => e = .returned (.tuple #[.int .u64 0, .int .i64 5]) ∧ Left D n N ws gv ms F w w' := by
  have HC := Lib.hid (check_no D n x ws w s.ep hx)
  have S0 := Lib.hid (s.here hz)
  clear s hz hx
  go_enter Tryz.func36, Tryz.ntmps36
  go_wp2_with fail
  refine HC.out.mono ?_
  rintro e w' ⟨rfl, rfl⟩
  go_wp2
  try rw [Exit.noGoto_ret]
  go_ret2
  exact ⟨rfl, S0.out⟩
set_option maxRecDepth 100000 in
set_option maxHeartbeats 1000000 in
theorem pin_no (s : St w D n N ws gv ms F) (hl : ms.length < 900000) (hk : k < n) (hp : ¬ ws[k + 1]?.getD 0 = 0) :
    Calls Tryz.prog 36 #[.pointer (some ⟨D, 0, none⟩), gv, .int .i64 (k : Int)] w fun e w' => e = .returned (.tuple #[.int .u64 0, .int .i64 90]) ∧ Left D n N ws gv (ms ++ [(1, k + 1)]) F w w' := by
  have HC := Lib.hid (check_ok D n k ws w s.ep hk)
  have HP := Lib.hid (pinned_ D n N k ws gv ms F w s (by omega) hk)
  obtain ⟨p, hpe⟩ : ∃ p, ws[k + 1]?.getD 0 = p := ⟨_, rfl⟩
  rw [hpe] at HP hp
  have q0 : ¬ (p : Int) = 0 := by omega
  have q2 : ((p : Int) != 0) = true := by simp; omega
  clear s hl hk hpe hp
  go_enter Tryz.func36, Tryz.ntmps36
  go_wp2_with fail
  refine HC.out.mono ?_
  rintro e w' ⟨rfl, rfl⟩
  go_wp2_with fail
  refine HP.out.mono ?_
  rintro e w1 ⟨rfl, l1⟩
  have L1 := Lib.hid l1
  clear l1
  go_wp2
  try rw [Exit.noGoto_ret]
  go_ret2
  exact ⟨rfl, L1.out⟩
set_option maxRecDepth 100000 in
set_option maxHeartbeats 2000000 in
theorem pin_yes (s : St w D n N ws gv ms F) (hl : ms.length < 900000) (hk : k < n) (hp : ws[k + 1]?.getD 0 = 0) :
    Calls Tryz.prog 36 #[.pointer (some ⟨D, 0, none⟩), gv, .int .i64 (k : Int)] w fun e w' => e = .returned (.tuple #[.int .u64 ((ws[0]?.getD 0 : Nat) : Int), .int .i64 0]) ∧ Left D n N (ws.set (k + 1) (ws[0]?.getD 0)) gv (ms ++ [(1, k + 1)] ++ [(1, 0)] ++ [(2, k + 1)] ++ [(1, 0)]) F w w' := by
  have HC := Lib.hid (check_ok D n k ws w s.ep hk)
  have HP := Lib.hid (pinned_ D n N k ws gv ms F w s (by omega) hk)
  rw [hp] at HP
  have c0 : ((0 : Nat) : Int) = 0 := rfl
  rw [c0] at HP
  have S0 := Lib.hid s
  have HB := Lib.hid (show ms.length < 900000 ∧ k < n from ⟨hl, hk⟩)
  clear s hl hk hp c0
  go_enter Tryz.func36, Tryz.ntmps36
  go_wp2_with fail
  refine HC.out.mono ?_
  rintro e w' ⟨rfl, rfl⟩
  go_wp2_with fail
  refine HP.out.mono ?_
  rintro e w1 ⟨rfl, l1⟩
  have HT := Lib.hid (now_ D n N ws gv _ _ w1 (Left.st S0.out l1) (by have := HB.out; simp; omega))
  have L1 := Lib.hid l1
  clear l1
  go_wp2_with fail
  refine HT.out.mono ?_
  rintro e w2 ⟨rfl, l2⟩
  have l2' := L1.out.trans l2
  have HU := Lib.hid (put_ D n N k ws gv _ _ w2 (ws[0]?.getD 0) (Left.st S0.out l2') (by have := HB.out; simp; omega) HB.out.2 (S0.out.ep.small 0))
  have L2 := Lib.hid l2'
  clear l2 l2'
  go_wp2_with fail
  refine wp_loop_rounds 1 ?_
  rw [rounds_succ]
  go_wp2_with fail
  refine HU.out.mono ?_
  rintro e w3 ⟨rfl, l3⟩
  have l3' := L2.out.trans l3
  have HV := Lib.hid (now_ D n N _ gv _ _ w3 (Left.st S0.out l3') (by have := HB.out; simp; omega))
  have L3 := Lib.hid l3'
  rw [List.getElem?_set_ne (by omega)] at HV
  clear l3 l3'
  have qe : (((ws[0]?.getD 0 : Nat) : Int) == ((ws[0]?.getD 0 : Nat) : Int)) = true := by simp
  go_wp2_with fail
  refine HV.out.mono ?_
  rintro e w4 ⟨rfl, l4⟩
  have L4 := Lib.hid (L3.out.trans l4)
  clear l4
  go_wp2
  try rw [Exit.noGoto_ret]
  go_ret2
  exact ⟨rfl, L4.out⟩
set_option maxRecDepth 100000 in
set_option maxHeartbeats 1000000 in
theorem unpin_range (x : Int) (s : St w D n N ws gv ms F) (hz : ∀ b, F b → b < w.heap.size) (hx : x < 0 ∨ (n : Int) ≤ x) :
    Calls Tryz.prog 43 #[.pointer (some ⟨D, 0, none⟩), gv, .int .i64 x] w fun e w' => e = .returned (.int .i64 5) ∧ Left D n N ws gv ms F w w' := by
  have HC := Lib.hid (check_no D n x ws w s.ep hx)
  have S0 := Lib.hid (s.here hz)
  clear s hz hx
  go_enter Tryz.func43, Tryz.ntmps43
  go_wp2_with fail
  refine HC.out.mono ?_
  rintro e w' ⟨rfl, rfl⟩
  go_wp2
  try rw [Exit.noGoto_ret]
  go_ret
  exact ⟨rfl, S0.out⟩
set_option maxRecDepth 100000 in
set_option maxHeartbeats 1000000 in
theorem unpin_no (s : St w D n N ws gv ms F) (hl : ms.length < 900000) (hk : k < n) (hp : ws[k + 1]?.getD 0 = 0) :
    Calls Tryz.prog 43 #[.pointer (some ⟨D, 0, none⟩), gv, .int .i64 (k : Int)] w fun e w' => e = .returned (.int .i64 90) ∧ Left D n N ws gv (ms ++ [(1, k + 1)]) F w w' := by
  have HC := Lib.hid (check_ok D n k ws w s.ep hk)
  have HP := Lib.hid (pinned_ D n N k ws gv ms F w s (by omega) hk)
  rw [hp] at HP
  have c0 : ((0 : Nat) : Int) = 0 := rfl
  rw [c0] at HP
  clear s hl hk hp c0
  go_enter Tryz.func43, Tryz.ntmps43
  go_wp2_with fail
  refine HC.out.mono ?_
  rintro e w' ⟨rfl, rfl⟩
  go_wp2_with fail
  refine HP.out.mono ?_
  rintro e w1 ⟨rfl, l1⟩
  have L1 := Lib.hid l1
  clear l1
  go_wp2
  try rw [Exit.noGoto_ret]
  go_ret
  exact ⟨rfl, L1.out⟩
set_option maxRecDepth 100000 in
set_option maxHeartbeats 2000000 in
theorem unpin_yes (s : St w D n N ws gv ms F) (hl : ms.length < 900000) (hk : k < n) (hp : ¬ ws[k + 1]?.getD 0 = 0) :
    Calls Tryz.prog 43 #[.pointer (some ⟨D, 0, none⟩), gv, .int .i64 (k : Int)] w fun e w' => e = .returned (.int .i64 0) ∧ Left D n N (ws.set (k + 1) 0) gv (ms ++ [(1, k + 1)] ++ [(2, k + 1)]) F w w' := by
  have HC := Lib.hid (check_ok D n k ws w s.ep hk)
  have HP := Lib.hid (pinned_ D n N k ws gv ms F w s (by omega) hk)
  obtain ⟨p, hpe⟩ : ∃ p, ws[k + 1]?.getD 0 = p := ⟨_, rfl⟩
  rw [hpe] at HP hp
  have q0 : ¬ (p : Int) = 0 := by omega
  have q2 : ((p : Int) == 0) = false := by simp; omega
  have S0 := Lib.hid s
  have HB := Lib.hid (show ms.length < 900000 ∧ k < n from ⟨hl, hk⟩)
  clear s hl hk hp hpe
  go_enter Tryz.func43, Tryz.ntmps43
  go_wp2_with fail
  refine HC.out.mono ?_
  rintro e w' ⟨rfl, rfl⟩
  go_wp2_with fail
  refine HP.out.mono ?_
  rintro e w1 ⟨rfl, l1⟩
  have HU := Lib.hid (put_ D n N k ws gv _ _ w1 0 (Left.st S0.out l1) (by have := HB.out; simp; omega) HB.out.2 (by omega))
  have L1 := Lib.hid l1
  have c0 : ((0 : Nat) : Int) = 0 := rfl
  rw [c0] at HU
  clear l1 c0
  go_wp2_with fail
  refine HU.out.mono ?_
  rintro e w2 ⟨rfl, l2⟩
  have L2 := Lib.hid (L1.out.trans l2)
  clear l2
  go_wp2
  try rw [Exit.noGoto_ret]
  go_ret
  exact ⟨rfl, L2.out⟩
set_option maxRecDepth 100000 in
set_option maxHeartbeats 2000000 in
theorem move_no (s : St w D n N ws gv ms F) (hl : ms.length < 800000) (hz : ∀ b, F b → b < w.heap.size) (ha : away (ws[0]?.getD 0) ws 0 n = true) :
    Calls Tryz.prog 38 #[.pointer (some ⟨D, 0, none⟩), gv] w fun e w' => e = .returned (.tuple #[.int .u64 0, .bool false, .int .i64 0]) ∧ Left D n N ws gv (ms ++ [(1, 0)] ++ looks (ws[0]?.getD 0) ws 0 n) F w w' := by
  have HN := Lib.hid (none_ D n ws w s.ep)
  have HT := Lib.hid (now_ D n N ws gv ms F w s (by omega))
  have S0 := Lib.hid s
  have HB := Lib.hid (show ms.length < 800000 ∧ (∀ b, F b → b < w.heap.size) from ⟨hl, hz⟩)
  have HA := Lib.hid ha
  clear s hl hz ha
  go_enter Tryz.func38, Tryz.ntmps38
  go_wp2_with fail
  refine HN.out.mono ?_
  rintro e w' ⟨rfl, rfl⟩
  go_wp2_with fail
  refine HT.out.mono ?_
  rintro e w1 ⟨rfl, l1⟩
  have HE := Lib.hid (elsewhere_ D n N (ws[0]?.getD 0) ws gv _ _ w1 (Left.st S0.out l1) (by have := HB.out; simp; omega) (fun b hb => by rcases hb with z | z; have q1 := HB.out.2 b z; have q2 := l1.keep.size; omega; exact z.2))
  rw [HA.out] at HE
  have L1 := Lib.hid l1
  clear l1
  go_wp2_with fail
  refine HE.out.mono ?_
  rintro e w2 ⟨rfl, l2⟩
  have L2 := Lib.hid (L1.out.trans l2)
  clear l2
  go_wp2
  try rw [Exit.noGoto_ret]
  go_ret3
  exact ⟨rfl, L2.out⟩
set_option maxRecDepth 100000 in
set_option maxHeartbeats 2000000 in
theorem move_yes (s : St w D n N ws gv ms F) (hl : ms.length < 800000) (hz : ∀ b, F b → b < w.heap.size) (ha : away (ws[0]?.getD 0) ws 0 n = false) (he : ws[0]?.getD 0 < 900000) :
    Calls Tryz.prog 38 #[.pointer (some ⟨D, 0, none⟩), gv] w fun e w' => e = .returned (.tuple #[.int .u64 ((ws[0]?.getD 0 + 1 : Nat) : Int), .bool true, .int .i64 0]) ∧ Left D n N (ws.set 0 (ws[0]?.getD 0 + 1)) gv (ms ++ [(1, 0)] ++ looks (ws[0]?.getD 0) ws 0 n ++ [(5, 0)]) F w w' := by
  have HN := Lib.hid (none_ D n ws w s.ep)
  have HT := Lib.hid (now_ D n N ws gv ms F w s (by omega))
  have S0 := Lib.hid s
  have HB := Lib.hid (show ms.length < 800000 ∧ (∀ b, F b → b < w.heap.size) ∧ n ≤ 16 from ⟨hl, hz, s.ep.top⟩)
  have HA := Lib.hid ha
  have HX := Lib.hid (show IntKind.u64.wrap (((ws[0]?.getD 0 : Nat) : Int) + 1) = ((ws[0]?.getD 0 + 1 : Nat) : Int) by rw [wrap_u64]; omega)
  have HE9 := Lib.hid he
  clear s hl hz ha he
  go_enter Tryz.func38, Tryz.ntmps38
  go_wp2_with fail
  refine HN.out.mono ?_
  rintro e w' ⟨rfl, rfl⟩
  go_wp2_with fail
  refine HT.out.mono ?_
  rintro e w1 ⟨rfl, l1⟩
  have HE := Lib.hid (elsewhere_ D n N (ws[0]?.getD 0) ws gv _ _ w1 (Left.st S0.out l1) (by have := HB.out; simp; omega) (fun b hb => by rcases hb with z | z; have q1 := HB.out.2.1 b z; have q2 := l1.keep.size; omega; exact z.2))
  rw [HA.out] at HE
  have L1 := Lib.hid l1
  clear l1
  go_wp2_with fail
  refine HE.out.mono ?_
  rintro e w2 ⟨rfl, l2⟩
  have l2' := L1.out.trans l2
  have hlk := looks_len (ws[0]?.getD 0) ws n 0
  have HG := Lib.hid (gf_tell gv 5 0 N w2 _ _ l2'.gate (by have := HB.out; simp; omega))
  have L2 := Lib.hid l2'
  clear l2 l2' hlk
  go_wp2_with fail
  refine HG.out.mono ?_
  rintro e w3 ⟨rfl, g3, k3⟩
  have h3 := L2.out.ep.keeps k3 (grown_not S0.out.ep.lt S0.out.fd)
  have HCS := Lib.hid (u64_cas D 2 _ ((ws[0]?.getD 0 + 1 : Nat) : Int) w3 (h3.word (k := 0) (by omega)) (h3.blk.frozen _))
  have H3 := Lib.hid h3
  have G3 := Lib.hid g3
  have K3 := Lib.hid k3
  clear h3 g3 k3
  go_wp2_with fail
  rw [HX.out]
  refine HCS.out.mono ?_
  rintro e w4 ⟨rfl, rfl⟩
  go_wp2_with fail
  try rw [Exit.noGoto_ret]
  rw [HX.out, show ((ws[0]?.getD 0 : Nat) : Int) + 1 = ((ws[0]?.getD 0 + 1 : Nat) : Int) from rfl]
  go_ret3
  have kD : Keeps (· = D) w3 (w3.setCell ⟨D, 2, none⟩ (.int .u64 ((ws[0]?.getD 0 + 1 : Nat) : Int))) := Keeps.here _
  have e4 := H3.out.set (k := 0) (v := ws[0]?.getD 0 + 1) (by omega) (by have := HE9.out; omega)
  have g3 := G3.out
  rw [grown_twice L2.out.keep.size K3.out.size] at g3
  have g4 := g3.keeps kD (fun b hb e => by subst e; exact grown_not S0.out.ep.lt S0.out.fd hb)
  have hz : (w3.setCell ⟨D, 2, none⟩ (.int .u64 ((ws[0]?.getD 0 + 1 : Nat) : Int))).heap.size = w3.heap.size := by simp [World.setCell]
  have he : Grown w (w3.setCell ⟨D, 2, none⟩ (.int .u64 ((ws[0]?.getD 0 + 1 : Nat) : Int))) F = Grown w w3 F := by unfold mz.Grown; rw [hz]
  rw [← he] at g4
  exact ⟨rfl, e4, g4, (Keeps.glue L2.out.keep K3.out (fun x hx z => .inr (grown_old hx z))).trans (kD.mono (fun _ _ z => .inl z))⟩
/-- is it safe? -/
def safe (e q : Nat) : Bool := decide (2 ≤ e) && decide (q + 2 ≤ e)
/-- the words at the beginning -/
def startW (n : Nat) : List Nat := 1 :: List.replicate n 0
set_option maxRecDepth 100000 in
set_option maxHeartbeats 2000000 in
theorem new_ok (h0 : 1 ≤ n) (h1 : n ≤ 16) : Calls Tryz.prog 45 #[.int .i64 (n : Int)] w fun e w' => ∃ D, e = .returned (.tuple #[.pointer (some ⟨D, 0, none⟩), .int .i64 0]) ∧ Ep w' D n (startW n) ∧ w.heap.size ≤ D ∧ ∀ S, Keeps S w w' := by
  have H0 := Lib.hid (show 1 ≤ n ∧ n ≤ 16 from ⟨h0, h1⟩)
  have q0 : (1 : Int) ≤ (n : Int) := by omega
  have q1 : (n : Int) ≤ 16 := by omega
  clear h0 h1
  go_enter Tryz.func45, Tryz.ntmps45
  go_wp2_with fail
  obtain ⟨wa, hwa⟩ : ∃ wa, wa = w.alloc (.cells #[.pointer (some ⟨w.heap.size, 0, none⟩), .int .i64 (n : Int), .int .u64 0, .int .u64 0, .int .u64 0, .int .u64 0, .int .u64 0, .int .u64 0, .int .u64 0, .int .u64 0, .int .u64 0, .int .u64 0, .int .u64 0, .int .u64 0, .int .u64 0, .int .u64 0, .int .u64 0, .int .u64 0, .int .u64 0] 188) := ⟨_, rfl⟩
  have b0 := Blk.new w 188 #[.pointer (some ⟨w.heap.size, 0, none⟩), .int .i64 (n : Int), .int .u64 0, .int .u64 0, .int .u64 0, .int .u64 0, .int .u64 0, .int .u64 0, .int .u64 0, .int .u64 0, .int .u64 0, .int .u64 0, .int .u64 0, .int .u64 0, .int .u64 0, .int .u64 0, .int .u64 0, .int .u64 0, .int .u64 0]
  have k0 : ∀ S, Keeps S w wa := fun S => by rw [hwa]; exact (Keeps.refl _ w).alloc _
  rw [← hwa] at b0 ⊢
  have e0 : Ep wa w.heap.size n (0 :: List.replicate n 0) := by
    refine ⟨?_, by simp, fun x hx => ?_, H0.out.1, H0.out.2⟩
    · rw [show full n (0 :: List.replicate n 0) = 0 :: List.replicate 16 0 from by unfold full; rw [List.cons_append, List.replicate_append_replicate, Nat.add_sub_cancel' H0.out.2]]
      exact b0
    · rcases List.mem_cons.1 hx with q | q
      · omega
      · have := (List.mem_replicate.1 q).2; omega
  have HST := Lib.hid (u64_store w.heap.size 2 0 1 wa (by have := e0.word (k := 0) (by omega); exact this) (b0.frozen 2))
  have E0 := Lib.hid e0
  have K0 : Hid (∀ S, Keeps S w wa) := Lib.hid k0
  clear hwa b0 k0 e0
  refine HST.out.mono ?_
  rintro e wb ⟨rfl, rfl⟩
  go_wp2
  try rw [Exit.noGoto_ret]
  go_ret2
  have e1 := E0.out.set (k := 0) (v := 1) (by omega) (by omega)
  exact ⟨_, rfl, e1, Nat.le_refl _, fun S => (K0.out S).setCell (.inr (Nat.le_refl _)) _⟩
set_option maxRecDepth 100000 in
set_option maxHeartbeats 2000000 in
theorem new_arg (s : Int) (hs : s < 1 ∨ 16 < s) : Calls Tryz.prog 45 #[.int .i64 s] w fun e w' => e = .returned (.tuple #[.pointer none, .int .i64 2]) ∧ w = w' := by
  rcases Int.lt_or_le s 1 with h | h
  · clear hs
    have hd : decide (s < 1) = true := decide_eq_true h
    go_enter Tryz.func45, Tryz.ntmps45
    go_wp2
    try rw [Exit.noGoto_ret]
    go_ret2
    exact ⟨rfl, rfl⟩
  · have h2 : 16 < s := by omega
    clear hs
    have hd : decide (s < 1) = false := decide_eq_false (by omega)
    have hd2 : decide (16 < s) = true := decide_eq_true h2
    go_enter Tryz.func45, Tryz.ntmps45
    go_wp2
    try rw [Exit.noGoto_ret]
    go_ret2
    exact ⟨rfl, rfl⟩
end
end Go.Proofs.YtbemnfoamhbemaaGreat.ep
