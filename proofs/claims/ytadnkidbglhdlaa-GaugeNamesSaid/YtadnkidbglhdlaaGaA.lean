/-
  gauge: a breaker's Ask, Tell, Get under a gate of notes or none; NewBreaker; breakers that are none.
-/
import Derived.Test.YtadnkidbglhdlaaGa
set_option linter.unusedVariables false
set_option linter.unusedSimpArgs false
namespace Go.Proofs.Ytadnkidbglhdlaa.ga
open Go.RowKit Go.Proofs.Ytadnkidbglhdlaa.oc Go.Proofs.Ytadnkidbglhdlaa.mz Go.Proofs.Ytadnkidbglhdlaa.at_ Go.Proofs.Ytadnkidbglhdlaa.gt Go.Proofs.Ytadnkidbglhdlaa.gw
section
variable (D f t N st fl s now : Nat) (gv : Value) (ms : List (Nat × Nat)) (F : Nat → Prop) (w : World)

set_option maxRecDepth 100000 in
set_option maxHeartbeats 2000000 in
theorem ask_late (v : Nat) (hs : St w D f t N v gv ms F) (hz : ∀ x, F x → x < w.heap.size) (hn : ¬ now ≤ 1099511627776) :
    Calls Try.prog 10 #[.pointer (some ⟨D, 0, none⟩), gv, .int .u64 (now : Int)] w fun e w' => e = .returned (.tuple #[.bool false, .int .i64 2]) ∧ Left D f t N v gv ms F w w' := by
  have HW := Lib.hid (wrong_late D f t v now w hs.br hn)
  have L0 := Lib.hid (hs.here hz)
  clear hs hz hn
  go_enter Try.func10, Try.ntmps10
  go_wp2_with fail
  refine HW.out.mono ?_
  rintro e w' ⟨rfl, rfl⟩
  go_wp2
  try rw [Exit.noGoto_ret]
  go_ret2
  exact ⟨rfl, L0.out⟩

set_option maxRecDepth 100000 in
set_option maxHeartbeats 2000000 in
theorem tell_late (v : Nat) (good : Bool) (hs : St w D f t N v gv ms F) (hz : ∀ x, F x → x < w.heap.size) (hn : ¬ now ≤ 1099511627776) :
    Calls Try.prog 11 #[.pointer (some ⟨D, 0, none⟩), gv, .int .u64 (now : Int), .bool good] w fun e w' => e = .returned (.int .i64 2) ∧ Left D f t N v gv ms F w w' := by
  have HW := Lib.hid (wrong_late D f t v now w hs.br hn)
  have L0 := Lib.hid (hs.here hz)
  clear hs hz hn
  go_enter Try.func11, Try.ntmps11
  go_wp2_with fail
  refine HW.out.mono ?_
  rintro e w' ⟨rfl, rfl⟩
  go_wp2
  try rw [Exit.noGoto_ret]
  go_ret
  exact ⟨rfl, L0.out⟩

set_option maxRecDepth 100000 in
set_option maxHeartbeats 2000000 in
theorem ask_closed (hs : St w D f t N (pk st fl s) gv ms F) (hl : ms.length < 900000) (hn : now ≤ 1099511627776) (hw : Wd st fl s) (h0 : st = 0) :
    Calls Try.prog 10 #[.pointer (some ⟨D, 0, none⟩), gv, .int .u64 (now : Int)] w fun e w' => e = .returned (.tuple #[.bool true, .int .i64 0]) ∧ Left D f t N (pk st fl s) gv (ms ++ [(1, 0)]) F w w' := by
  subst h0
  have HW := Lib.hid (wrong_ok D f t (pk 0 fl s) now w hs.br hn)
  have HL := Lib.hid (load_ D f t N (pk 0 fl s) gv ms F w hs (by omega))
  have HU := fun w => Lib.hid (unpack_ 0 fl s w hw)
  generalize hv : pk 0 fl s = v at *
  clear hs hl hn hw hv
  go_enter Try.func10, Try.ntmps10
  go_wp2_with fail
  refine HW.out.mono ?_
  rintro e w' ⟨rfl, rfl⟩
  go_wp2_with fail
  refine wp_loop_rounds 1 ?_
  rw [rounds_succ]
  go_wp2_with fail
  refine HL.out.mono ?_
  rintro e w1 ⟨rfl, l1⟩
  have c1 := l1.br.cell1
  have c2 := l1.br.cell2
  have L1 := Lib.hid l1
  clear l1
  go_wp2_with fail
  refine (HU w1).out.mono ?_
  rintro e w2 ⟨rfl, rfl⟩
  go_wp2
  try rw [Exit.noGoto_ret]
  go_ret2
  exact ⟨rfl, L1.out⟩

set_option maxRecDepth 100000 in
set_option maxHeartbeats 2000000 in
theorem ask_no (hs : St w D f t N (pk st fl s) gv ms F) (hl : ms.length < 900000) (hn : now ≤ 1099511627776) (hw : Wd st fl s) (h0 : ¬ st = 0) (h1 : now < s + t) :
    Calls Try.prog 10 #[.pointer (some ⟨D, 0, none⟩), gv, .int .u64 (now : Int)] w fun e w' => e = .returned (.tuple #[.bool false, .int .i64 0]) ∧ Left D f t N (pk st fl s) gv (ms ++ [(1, 0)]) F w w' := by
  have q0 : ¬ (st : Int) = 0 := by omega
  have hm := hs.br.may
  have q1 : IntKind.u64.wrap ((s : Int) + (t : Int)) = ((s + t : Nat) : Int) := by unfold Wd at hw; rw [wrap_u64]; omega
  have q2 : (now : Int) < ((s + t : Nat) : Int) := by omega
  generalize (s + t : Nat) = m at *
  clear hm h1 h0
  have HW := Lib.hid (wrong_ok D f t (pk st fl s) now w hs.br hn)
  have HL := Lib.hid (load_ D f t N (pk st fl s) gv ms F w hs (by omega))
  have HU := fun w => Lib.hid (unpack_ st fl s w hw)
  generalize hv : pk st fl s = v at *
  clear hs hl hn hw hv
  go_enter Try.func10, Try.ntmps10
  go_wp2_with fail
  refine HW.out.mono ?_
  rintro e w' ⟨rfl, rfl⟩
  go_wp2_with fail
  refine wp_loop_rounds 1 ?_
  rw [rounds_succ]
  go_wp2_with fail
  refine HL.out.mono ?_
  rintro e w1 ⟨rfl, l1⟩
  have c1 := l1.br.cell1
  have c2 := l1.br.cell2
  have L1 := Lib.hid l1
  clear l1
  go_wp2_with fail
  refine (HU w1).out.mono ?_
  rintro e w2 ⟨rfl, rfl⟩
  go_wp2
  try rw [Exit.noGoto_ret]
  go_ret2
  exact ⟨rfl, L1.out⟩

set_option maxRecDepth 100000 in
set_option maxHeartbeats 2000000 in
theorem ask_yes (hs : St w D f t N (pk st fl s) gv ms F) (hl : ms.length < 900000) (hn : now ≤ 1099511627776) (hw : Wd st fl s) (h0 : ¬ st = 0) (h1 : ¬ now < s + t) :
    Calls Try.prog 10 #[.pointer (some ⟨D, 0, none⟩), gv, .int .u64 (now : Int)] w fun e w' => e = .returned (.tuple #[.bool true, .int .i64 0]) ∧ Left D f t N (pk 2 fl now) gv (ms ++ [(1, 0)] ++ [(5, 0)]) F w w' := by
  have q0 : ¬ (st : Int) = 0 := by omega
  have hm := hs.br.may
  have q1 : IntKind.u64.wrap ((s : Int) + (t : Int)) = ((s + t : Nat) : Int) := by unfold Wd at hw; rw [wrap_u64]; omega
  have q2 : ¬ (now : Int) < ((s + t : Nat) : Int) := by omega
  generalize (s + t : Nat) = m at *
  clear hm h1 h0
  have HW := Lib.hid (wrong_ok D f t (pk st fl s) now w hs.br hn)
  have HL := Lib.hid (load_ D f t N (pk st fl s) gv ms F w hs (by omega))
  have HU := fun w => Lib.hid (unpack_ st fl s w hw)
  have hw2 : Wd 2 fl now := by unfold Wd at hw ⊢; omega
  have HP := fun w => Lib.hid (pack_ 2 fl now w hw2)
  have HV := Lib.hid (pk_lt hw2)
  have HB := Lib.hid hl
  have S0 := Lib.hid hs
  have i2 : ((2 : Nat) : Int) = 2 := rfl
  rw [i2] at HP
  generalize hv : pk st fl s = v at *
  generalize hv2 : pk 2 fl now = v2 at *
  clear hs hl hn hw hv hw2 hv2 i2
  go_enter Try.func10, Try.ntmps10
  go_wp2_with fail
  refine HW.out.mono ?_
  rintro e w' ⟨rfl, rfl⟩
  go_wp2_with fail
  refine wp_loop_rounds 1 ?_
  rw [rounds_succ]
  go_wp2_with fail
  refine HL.out.mono ?_
  rintro e w1 ⟨rfl, l1⟩
  have c1 := l1.br.cell1
  have c2 := l1.br.cell2
  have L1 := Lib.hid l1
  have HS := Lib.hid (swap_ D f t N v gv _ _ w1 v2 (l1.st S0.out) (by have := HB.out; simp; omega) HV.out)
  clear l1
  go_wp2_with fail
  refine (HU w1).out.mono ?_
  rintro e w2 ⟨rfl, rfl⟩
  go_wp2_with fail
  refine (HP w1).out.mono ?_
  rintro e w2 ⟨rfl, rfl⟩
  go_wp2_with fail
  refine HS.out.mono ?_
  rintro e w3 ⟨rfl, l3⟩
  have L3 := Lib.hid (L1.out.trans l3)
  clear l3
  go_wp2
  try rw [Exit.noGoto_ret]
  go_ret2
  exact ⟨rfl, L3.out⟩

/-- what a breaker's word tells behind a Tell -/
def beh (f st fl s now : Nat) (good : Bool) : Nat × Nat × Nat := if st = 1 then (st, fl, s) else if good then (0, 0, 0) else if st = 0 then (if fl + 1 < f then (0, fl + 1, 0) else (1, fl + 1, now)) else (1, fl, now)
/-- as a word -/
def pkt (x : Nat × Nat × Nat) : Nat := pk x.1 x.2.1 x.2.2
theorem beh_wd {f st fl s now : Nat} (good : Bool) (hf : fl ≤ 1048576) (hn : now ≤ 1099511627776) (hw : Wd st fl s) : Wd (beh f st fl s now good).1 (beh f st fl s now good).2.1 (beh f st fl s now good).2.2 := by
  unfold Wd at hw
  unfold Wd beh
  split <;> (try split) <;> (try split) <;> (try split) <;> simp <;> omega

set_option maxRecDepth 100000 in
set_option maxHeartbeats 2000000 in
theorem behind_open (v : Nat) (good : Bool) (h : Br w D f t v) (hn : now ≤ 1099511627776) (hw : Wd 1 fl s) (hf : fl ≤ 1048576) :
    Calls Try.prog 25 #[.pointer (some ⟨D, 0, none⟩), .int .u64 ((pk 1 fl s : Nat) : Int), .int .u64 (now : Int), .bool good] w fun e w' => e = .returned (.int .u64 ((pk 1 fl s : Nat) : Int)) ∧ w = w' := by
  have HU := Lib.hid (unpack_ 1 fl s w hw)
  have i0 : ((0 : Nat) : Int) = 0 := rfl
  have i1 : ((1 : Nat) : Int) = 1 := rfl
  try simp only [i0, i1] at HU
  have c1 := h.cell1
  generalize pk 1 fl s = v1 at *
  clear h hn hw hf
  go_enter Try.func25, Try.ntmps25
  go_wp2_with fail
  refine HU.out.mono ?_
  rintro e w2 ⟨rfl, rfl⟩
  go_wp2
  try rw [Exit.noGoto_ret]
  go_ret
  exact ⟨rfl, rfl⟩

set_option maxRecDepth 100000 in
set_option maxHeartbeats 2000000 in
theorem behind_good (v : Nat) (h : Br w D f t v) (hn : now ≤ 1099511627776) (hw : Wd st fl s) (hf : fl ≤ 1048576) (h0 : ¬ st = 1) :
    Calls Try.prog 25 #[.pointer (some ⟨D, 0, none⟩), .int .u64 ((pk st fl s : Nat) : Int), .int .u64 (now : Int), .bool true] w fun e w' => e = .returned (.int .u64 ((pk 0 0 0 : Nat) : Int)) ∧ w = w' := by
  have HU := Lib.hid (unpack_ st fl s w hw)
  have i0 : ((0 : Nat) : Int) = 0 := rfl
  have i1 : ((1 : Nat) : Int) = 1 := rfl
  try simp only [i0, i1] at HU
  have c1 := h.cell1
  have q0 : ¬ (st : Int) = 1 := by omega
  clear h0
  have HP := Lib.hid (pack_ 0 0 0 w (by unfold Wd at hw ⊢; omega))
  have i0 : ((0 : Nat) : Int) = 0 := rfl
  have i1 : ((1 : Nat) : Int) = 1 := rfl
  try simp only [i0, i1] at HP
  generalize pk st fl s = v1 at *
  generalize pk 0 0 0 = v2 at *
  clear h hn hw hf
  go_enter Try.func25, Try.ntmps25
  go_wp2_with fail
  refine HU.out.mono ?_
  rintro e w2 ⟨rfl, rfl⟩
  go_wp2_with fail
  refine HP.out.mono ?_
  rintro e w2 ⟨rfl, rfl⟩
  go_wp2
  try rw [Exit.noGoto_ret]
  go_ret
  exact ⟨rfl, rfl⟩

set_option maxRecDepth 100000 in
set_option maxHeartbeats 2000000 in
theorem behind_more (v : Nat) (h : Br w D f t v) (hn : now ≤ 1099511627776) (hw : Wd 0 fl s) (hf : fl ≤ 1048576) (h0 : fl + 1 < f) :
    Calls Try.prog 25 #[.pointer (some ⟨D, 0, none⟩), .int .u64 ((pk 0 fl s : Nat) : Int), .int .u64 (now : Int), .bool false] w fun e w' => e = .returned (.int .u64 ((pk 0 (fl + 1) 0 : Nat) : Int)) ∧ w = w' := by
  have HU := Lib.hid (unpack_ 0 fl s w hw)
  have i0 : ((0 : Nat) : Int) = 0 := rfl
  have i1 : ((1 : Nat) : Int) = 1 := rfl
  try simp only [i0, i1] at HU
  have c1 := h.cell1
  have q1 : IntKind.u64.wrap ((fl : Int) + 1) = ((fl + 1 : Nat) : Int) := by rw [wrap_u64]; omega
  have q2 : ((fl + 1 : Nat) : Int) < (f : Int) := by omega
  obtain ⟨g, hg⟩ : ∃ g, g = fl + 1 := ⟨_, rfl⟩
  rw [← hg] at q1 q2 h0 ⊢
  have HP := Lib.hid (pack_ 0 g 0 w (by unfold Wd at hw ⊢; omega))
  have i0 : ((0 : Nat) : Int) = 0 := rfl
  have i1 : ((1 : Nat) : Int) = 1 := rfl
  try simp only [i0, i1] at HP
  generalize pk 0 fl s = v1 at *
  generalize pk 0 g 0 = v2 at *
  clear h hn hw hf h0 hg
  go_enter Try.func25, Try.ntmps25
  go_wp2_with fail
  refine HU.out.mono ?_
  rintro e w2 ⟨rfl, rfl⟩
  go_wp2_with fail
  refine HP.out.mono ?_
  rintro e w2 ⟨rfl, rfl⟩
  go_wp2
  try rw [Exit.noGoto_ret]
  go_ret
  exact ⟨rfl, rfl⟩

set_option maxRecDepth 100000 in
set_option maxHeartbeats 2000000 in
theorem behind_opens (v : Nat) (h : Br w D f t v) (hn : now ≤ 1099511627776) (hw : Wd 0 fl s) (hf : fl ≤ 1048576) (h0 : ¬ fl + 1 < f) :
    Calls Try.prog 25 #[.pointer (some ⟨D, 0, none⟩), .int .u64 ((pk 0 fl s : Nat) : Int), .int .u64 (now : Int), .bool false] w fun e w' => e = .returned (.int .u64 ((pk 1 (fl + 1) now : Nat) : Int)) ∧ w = w' := by
  have HU := Lib.hid (unpack_ 0 fl s w hw)
  have i0 : ((0 : Nat) : Int) = 0 := rfl
  have i1 : ((1 : Nat) : Int) = 1 := rfl
  try simp only [i0, i1] at HU
  have c1 := h.cell1
  have q1 : IntKind.u64.wrap ((fl : Int) + 1) = ((fl + 1 : Nat) : Int) := by rw [wrap_u64]; omega
  have q2 : ¬ ((fl + 1 : Nat) : Int) < (f : Int) := by omega
  obtain ⟨g, hg⟩ : ∃ g, g = fl + 1 := ⟨_, rfl⟩
  rw [← hg] at q1 q2 h0 ⊢
  have HP := Lib.hid (pack_ 1 g now w (by unfold Wd at hw ⊢; omega))
  have i0 : ((0 : Nat) : Int) = 0 := rfl
  have i1 : ((1 : Nat) : Int) = 1 := rfl
  try simp only [i0, i1] at HP
  generalize pk 0 fl s = v1 at *
  generalize pk 1 g now = v2 at *
  clear h hn hw hf h0 hg
  go_enter Try.func25, Try.ntmps25
  go_wp2_with fail
  refine HU.out.mono ?_
  rintro e w2 ⟨rfl, rfl⟩
  go_wp2_with fail
  refine HP.out.mono ?_
  rintro e w2 ⟨rfl, rfl⟩
  go_wp2
  try rw [Exit.noGoto_ret]
  go_ret
  exact ⟨rfl, rfl⟩

set_option maxRecDepth 100000 in
set_option maxHeartbeats 2000000 in
theorem behind_again (v : Nat) (h : Br w D f t v) (hn : now ≤ 1099511627776) (hw : Wd st fl s) (hf : fl ≤ 1048576) (h0 : ¬ st = 1) (h1 : ¬ st = 0) :
    Calls Try.prog 25 #[.pointer (some ⟨D, 0, none⟩), .int .u64 ((pk st fl s : Nat) : Int), .int .u64 (now : Int), .bool false] w fun e w' => e = .returned (.int .u64 ((pk 1 fl now : Nat) : Int)) ∧ w = w' := by
  have HU := Lib.hid (unpack_ st fl s w hw)
  have i0 : ((0 : Nat) : Int) = 0 := rfl
  have i1 : ((1 : Nat) : Int) = 1 := rfl
  try simp only [i0, i1] at HU
  have c1 := h.cell1
  have q0 : ¬ (st : Int) = 1 := by omega
  have q1 : ¬ (st : Int) = 0 := by omega
  clear h0 h1
  have HP := Lib.hid (pack_ 1 fl now w (by unfold Wd at hw ⊢; omega))
  have i0 : ((0 : Nat) : Int) = 0 := rfl
  have i1 : ((1 : Nat) : Int) = 1 := rfl
  try simp only [i0, i1] at HP
  generalize pk st fl s = v1 at *
  generalize pk 1 fl now = v2 at *
  clear h hn hw hf
  go_enter Try.func25, Try.ntmps25
  go_wp2_with fail
  refine HU.out.mono ?_
  rintro e w2 ⟨rfl, rfl⟩
  go_wp2_with fail
  refine HP.out.mono ?_
  rintro e w2 ⟨rfl, rfl⟩
  go_wp2
  try rw [Exit.noGoto_ret]
  go_ret
  exact ⟨rfl, rfl⟩

theorem behind_ (v : Nat) (good : Bool) (h : Br w D f t v) (hn : now ≤ 1099511627776) (hw : Wd st fl s) (hf : fl ≤ 1048576) :
    Calls Try.prog 25 #[.pointer (some ⟨D, 0, none⟩), .int .u64 ((pk st fl s : Nat) : Int), .int .u64 (now : Int), .bool good] w fun e w' => e = .returned (.int .u64 ((pkt (beh f st fl s now good) : Nat) : Int)) ∧ w = w' := by
  unfold pkt beh
  by_cases h1 : st = 1
  · subst h1; rw [if_pos rfl]; exact behind_open D f t fl s now w v good h hn hw hf
  · rw [if_neg h1]
    cases good with
    | true => exact behind_good D f t st fl s now w v h hn hw hf h1
    | false =>
      by_cases h0 : st = 0
      · subst h0
        by_cases h2 : fl + 1 < f
        · simp only [if_pos h2, Bool.false_eq_true, if_false, if_true]; exact behind_more D f t fl s now w v h hn hw hf h2
        · simp only [if_neg h2, Bool.false_eq_true, if_false, if_true]; exact behind_opens D f t fl s now w v h hn hw hf h2
      · simp only [if_neg h0, Bool.false_eq_true, if_false]; exact behind_again D f t st fl s now w v h hn hw hf h1 h0

set_option maxRecDepth 100000 in
set_option maxHeartbeats 2000000 in
theorem tell_same (good : Bool) (hs : St w D f t N (pk st fl s) gv ms F) (hl : ms.length < 900000) (hn : now ≤ 1099511627776) (hw : Wd st fl s) (hf : fl ≤ 1048576) (he : pkt (beh f st fl s now good) = pk st fl s) :
    Calls Try.prog 11 #[.pointer (some ⟨D, 0, none⟩), gv, .int .u64 (now : Int), .bool good] w fun e w' => e = .returned (.int .i64 0) ∧ Left D f t N (pk st fl s) gv (ms ++ [(1, 0)]) F w w' := by
  have HW := Lib.hid (wrong_ok D f t (pk st fl s) now w hs.br hn)
  have HL := Lib.hid (load_ D f t N (pk st fl s) gv ms F w hs (by omega))
  have HB := Lib.hid (fun w h => behind_ D f t st fl s now w (pk st fl s) good h hn hw hf)
  rw [he] at HB
  generalize hv : pk st fl s = v at *
  clear hs hl hn hw hv he hf
  go_enter Try.func11, Try.ntmps11
  go_wp2_with fail
  refine HW.out.mono ?_
  rintro e w' ⟨rfl, rfl⟩
  go_wp2_with fail
  refine wp_loop_rounds 1 ?_
  rw [rounds_succ]
  go_wp2_with fail
  refine HL.out.mono ?_
  rintro e w1 ⟨rfl, l1⟩
  have c1 := l1.br.cell1
  have c2 := l1.br.cell2
  have L1 := Lib.hid l1
  have HBB := Lib.hid (HB.out w1 l1.br)
  clear l1
  go_wp2_with fail
  refine HBB.out.mono ?_
  rintro e w2 ⟨rfl, rfl⟩
  go_wp2
  try rw [Exit.noGoto_ret]
  go_ret
  exact ⟨rfl, L1.out⟩

set_option maxRecDepth 100000 in
set_option maxHeartbeats 2000000 in
theorem tell_new (good : Bool) (hs : St w D f t N (pk st fl s) gv ms F) (hl : ms.length < 900000) (hn : now ≤ 1099511627776) (hw : Wd st fl s) (hf : fl ≤ 1048576) (he : ¬ pkt (beh f st fl s now good) = pk st fl s) :
    Calls Try.prog 11 #[.pointer (some ⟨D, 0, none⟩), gv, .int .u64 (now : Int), .bool good] w fun e w' => e = .returned (.int .i64 0) ∧ Left D f t N (pkt (beh f st fl s now good)) gv (ms ++ [(1, 0)] ++ [(5, 0)]) F w w' := by
  have HW := Lib.hid (wrong_ok D f t (pk st fl s) now w hs.br hn)
  have HL := Lib.hid (load_ D f t N (pk st fl s) gv ms F w hs (by omega))
  have HB := Lib.hid (fun w h => behind_ D f t st fl s now w (pk st fl s) good h hn hw hf)
  have HV := Lib.hid (pk_lt (beh_wd (f := f) (s := s) good hf hn hw))
  have q0 : ¬ ((pkt (beh f st fl s now good) : Nat) : Int) = ((pk st fl s : Nat) : Int) := by omega
  have HLN := Lib.hid hl
  have S0 := Lib.hid hs
  change Hid (pkt (beh f st fl s now good) < 18446744073709551616) at HV
  generalize hv2 : pkt (beh f st fl s now good) = v2 at *
  generalize hv : pk st fl s = v at *
  clear hs hl hn hw hv he hf hv2
  go_enter Try.func11, Try.ntmps11
  go_wp2_with fail
  refine HW.out.mono ?_
  rintro e w' ⟨rfl, rfl⟩
  go_wp2_with fail
  refine wp_loop_rounds 1 ?_
  rw [rounds_succ]
  go_wp2_with fail
  refine HL.out.mono ?_
  rintro e w1 ⟨rfl, l1⟩
  have c1 := l1.br.cell1
  have c2 := l1.br.cell2
  have L1 := Lib.hid l1
  have HBB := Lib.hid (HB.out w1 l1.br)
  have HS := Lib.hid (swap_ D f t N v gv _ _ w1 v2 (l1.st S0.out) (by have := HLN.out; simp; omega) HV.out)
  clear l1
  go_wp2_with fail
  refine HBB.out.mono ?_
  rintro e w2 ⟨rfl, rfl⟩
  go_wp2_with fail
  refine HS.out.mono ?_
  rintro e w3 ⟨rfl, l3⟩
  have L3 := Lib.hid (L1.out.trans l3)
  clear l3
  go_wp2
  try rw [Exit.noGoto_ret]
  go_ret
  exact ⟨rfl, L3.out⟩

set_option maxRecDepth 100000 in
set_option maxHeartbeats 2000000 in
theorem get_ (hs : St w D f t N (pk st fl s) gv ms F) (hl : ms.length < 900000) (hw : Wd st fl s) :
    Calls Try.prog 14 #[.pointer (some ⟨D, 0, none⟩), gv] w fun e w' => e = .returned (.tuple #[.int .i64 (st : Int), .int .u64 (fl : Int), .int .u64 (s : Int), .int .i64 0]) ∧ Left D f t N (pk st fl s) gv (ms ++ [(1, 0)]) F w w' := by
  have HN := Lib.hid (none_ D f t (pk st fl s) w hs.br)
  have HL := Lib.hid (load_ D f t N (pk st fl s) gv ms F w hs (by omega))
  have HU := fun w => Lib.hid (unpack_ st fl s w hw)
  generalize hv : pk st fl s = v at *
  clear hs hl hw hv
  go_enter Try.func14, Try.ntmps14
  go_wp2_with fail
  refine HN.out.mono ?_
  rintro e w' ⟨rfl, rfl⟩
  go_wp2_with fail
  refine HL.out.mono ?_
  rintro e w1 ⟨rfl, l1⟩
  have L1 := Lib.hid l1
  clear l1
  go_wp2_with fail
  refine (HU w1).out.mono ?_
  rintro e w2 ⟨rfl, rfl⟩
  go_wp2
  try rw [Exit.noGoto_ret]
  refine bodyPost_ret (v := .tuple #[.int .i64 (st : Int), .int .u64 (fl : Int), .int .u64 (s : Int), .int .i64 0]) (by simp [results, Try.results14, go_sem]) rfl ?_
  exact ⟨rfl, L1.out⟩
end
end Go.Proofs.Ytadnkidbglhdlaa.ga
