/-
  TallyHists' body.
-/
import Derived.Test.YtekglcphdjjmcaaTaAw
import Derived.Test.YtekglcphdjjmcaaTaH
import Derived.Test.YtekglcphdjjmcaaTaK
import Derived.Test.YtekglcphdjjmcaaTaR
import Derived.Test.YtekglcphdjjmcaaApR
import Derived.Deep.RegionHeld3
import Derived.BigRegion
import Derived.IntWalk
set_option linter.unusedVariables false
namespace Go.Proofs.Ytekglcphdjjmcaa.oc
open Go.RowKit Go.Proofs.Ytekglcphdjjmcaa.oc Go.Proofs.Ytekglcphdjjmcaa.mz Go.Proofs.Ytekglcphdjjmcaa.th
theorem bel_two {c : List Nat} {part of : Nat} {e e' : Ending} (h : BelPost c part of e) (k : BelPost c part of e') : ∃ v n : Nat, e = .returned (.tuple #[.int .u64 (v : Int), .int .i64 (n : Int)]) ∧ e' = .returned (.tuple #[.int .u64 (v : Int), .int .i64 (n : Int)]) := by
  obtain ⟨v, n, rfl, h1⟩ := h
  obtain ⟨v', n', rfl, h2⟩ := k
  obtain ⟨rfl, rfl⟩ := h1.uniq h2
  exact ⟨v, n, rfl, rfl⟩
/-- a list of histograms, copied by an append to nil -/
theorem copy_ (W : World) (A : Option Addr) (n c : Nat) (l : List (List Nat)) (hl : Hs W W.heap.size A n l) (hb : n * 536 ≤ 140737488355328) : ∃ A' c' w', (Builtin.append_ #[57, 57] 57 #[.slice none 0 0, .slice A n c]).run Try.prog W = .ok (.slice A' n c') w' ∧ Hs w' w'.heap.size A' n l ∧ ∀ S, Keeps S W w' := by
  obtain ⟨i0, hi0, hi1⟩ := Option.map_eq_some_iff.1 hist_info
  simp only [Prod.mk.injEq] at hi1
  obtain ⟨hz0, hz1, hz2⟩ := hi1
  have h67 := hl.lens
  have h64 := hl.lt
  cases A with
  | none =>
    have hn0 : n = 0 := by
      rcases Nat.eq_zero_or_pos n with q | q
      · exact q
      · obtain ⟨_, _, b, o, e, _⟩ := hl.2 0 _ (List.getElem?_eq_getElem (by rw [hl.1]; exact q)); cases e
    subst hn0
    exact ⟨none, 0, W, run_app_nil (P := Try.prog) (w := W) 0 57 _ 34 i0 67 Try.underlying57 hi0 (.slice none 0 0) 0 [] (World.ownsRow_nil _ _ _ _) c, hl, fun S => Keeps.refl S W⟩
  | some ad =>
    have hnews : ∀ j u, (flat67 l)[j]? = some u → W.cell? (ad.add j) = some u := by
      obtain ⟨b, o, s⟩ := ad
      rcases Nat.eq_zero_or_pos n with q | q
      · have : l = [] := List.eq_nil_of_length_eq_zero (by rw [hl.1]; exact q)
        subst this
        intro j u hu; simp [flat67] at hu
      · obtain ⟨_, _, b', o', e, _⟩ := hl.2 0 _ (List.getElem?_eq_getElem (by rw [hl.1]; exact q))
        injection e with e
        have hs : s = none := by injection e
        subst hs
        exact hl.news
    obtain ⟨v', w', hr, h2, h3, _, h5⟩ := run_append_own_at (P := Try.prog) (w := W) W.heap.size 57 57 34 i0 _ 67 536 Try.underlying57 hi0 hz0 hz1 hz2 rfl (by decide) (.slice none 0 0) 0 [] (World.ownsRow_nil _ _ _ _) ad n c (flat67 l) (by rw [flat67_len h67, hl.1]) hnews (flat67_one l) (by unfold maxLen; omega) (by rw [Nat.zero_add]; exact hb) (Nat.le_refl _)
    rw [Nat.zero_add, List.nil_append] at h2
    obtain ⟨A', c', rfl, h6⟩ := Hs.of_own h2 hl.1 h67 h64
    exact ⟨A', c', w', hr, h6, fun S => (Keeps.of_grown h3).mono (fun b _ e => by cases e)⟩
def Loop (W w1 : World) (n : Nat) (i : Value) (wr : World) : Prop := ∃ k : Nat, k ≤ n ∧ i = .int .i64 (k : Int) ∧ (∀ S, Keeps S W wr) ∧ ∀ S, Keeps S w1 wr
set_option maxRecDepth 100000 in
set_option maxHeartbeats 8000000 in
theorem walk_tallyHists (W : World) (A : Option Addr) (n c : Nat) (xs : List (List Value)) (hx : flat.IsFlat W (List.replicate 67 (.int .u64)) A n xs) (hnc : n ≤ c) (hz : c * 536 ≤ 140737488351232) (part : Nat) (hp : part < 18446744073709551616) (of : Nat) (ho : of < 18446744073709551616) :
    Calls Try.prog 5 #[.slice A n c, .int .u64 (part : Int), .int .u64 (of : Int)] W fun e w' => e = .returned (.bool true) ∧ Below W.heap.size W w' := by
  obtain ⟨l, hl⟩ := hs_of_flat hx
  obtain ⟨A', c', w1, hr, h1, k1⟩ := copy_ W A n c l hl (by omega)
  have HH := Lib.hid hl
  have H1 := Lib.hid h1
  have K1 : Hid (∀ S, Keeps S W w1) := Lib.hid k1
  have HR := Lib.hid hr
  have hn : n < 1000000000000 := by omega
  have HN := Lib.hid (show part < 18446744073709551616 ∧ of < 18446744073709551616 ∧ n < 1000000000000 from ⟨hp, ho, hn⟩)
  have hn0 : (0 : Int) ≤ (n : Int) := by omega
  have hn1 : (n : Int) < 1000000000000 := by omega
  have HJ := Lib.hid (join_ A' n c' w1.heap.size l w1 h1 (Nat.le_refl _) (by omega))
  unfold hv at HJ
  have HNQ : Hid (∀ w, (binOp .neq 34 (.agg (u64s (joined l)).toArray) (.agg (u64s (joined l)).toArray)).run Try.prog w = .ok (.bool false) w) := Lib.hid (fun w => hist_neq (joined l) (joined_len l) w)
  clear hl h1 k1 hr hx hnc hz hp ho hn
  go_enter Try.func5, Try.ntmps5
  go_wp2_with (first
    | (at_builtin; refine wpList_append_run rfl _ _ 57 rfl _ _ _ _ rfl rfl HR.out ?_))
  refine HJ.out.mono ?_
  rintro e w2 ⟨rfl, k2⟩
  have K2 : Hid (∀ S, Keeps S w1 w2) := Lib.hid k2
  have HRJ := Lib.hid (rjoin_ A n c W.heap.size l w2 (HH.out.keeps ((K1.out (fun _ => False)).trans (k2 (fun _ => False))) (fun _ _ z => z)) (by have := (K1.out (fun _ => False)).size; have := (k2 (fun _ => False)).size; omega) (by have := HN.out; omega))
  unfold hv at HRJ
  have hnq := HNQ.out
  clear k2 HJ
  generalize hJ : (u64s (joined l)).toArray = J at *
  go_wp2_with fail
  refine HRJ.out.mono ?_
  rintro e w3 ⟨rfl, k3⟩
  have K3 : Hid (∀ S, Keeps S W w3) := Lib.hid (fun S => ((K1.out S).trans (K2.out S)).trans (k3 S))
  have K13 : Hid (∀ S, Keeps S w1 w3) := Lib.hid (fun S => (K2.out S).trans (k3 S))
  clear k3 HRJ
  go_wp2_with fail
  clear hnq
  go_loopw [8] (Loop W w1 n) (fun i _ => n - (intOf i).toNat)
  case atStart => exact ⟨0, Nat.zero_le _, rfl, K3.out, K13.out⟩
  case round =>
    obtain ⟨k, hk, rfl, hkk, hk1⟩ := hrel
    have HK : Hid (∀ S, Keeps S W wr) := Lib.hid hkk
    have HK1 : Hid (∀ S, Keeps S w1 wr) := Lib.hid hk1
    have k0 : (0 : Int) ≤ (k : Int) := by omega
    by_cases hlt : k < n
    · have hlt' : (k : Int) < (n : Int) := by omega
      obtain ⟨x, hx⟩ : ∃ x, l[k]? = some x := ⟨_, List.getElem?_eq_getElem (by rw [HH.out.1]; exact hlt)⟩
      obtain ⟨x1, x2, b, o, rfl, x4, x5⟩ := HH.out.2 k x hx
      obtain ⟨_, _, b', o', rfl, x4', x5'⟩ := H1.out.2 k x hx
      obtain ⟨q, hq⟩ : ∃ q, o + k * 67 = q := ⟨_, rfl⟩
      obtain ⟨q', hq'⟩ : ∃ q', o' + k * 67 = q' := ⟨_, rfl⟩
      rw [hq] at x5
      rw [hq'] at x5'
      have HLD : Hid (∀ w, (∀ S, Keeps S W w) → w.rangeAt b q (u64s x)) := Lib.hid (fun w h j v hv => (h (fun _ => False)).cell (x5 j v hv) (fun z => z))
      have HLD' : Hid (∀ w, (∀ S, Keeps S w1 w) → w.rangeAt b' q' (u64s x)) := Lib.hid (fun w h j v hv => (h (fun _ => False)).cell (x5' j v hv) (fun z => z))
      have HX := Lib.hid (And.intro x1 x2)
      have HSX := Lib.hid (hist_size x1)
      have hb1 := below_ x part of wr x1 x2 HN.out.1 HN.out.2.1
      unfold hv at hb1
      have HB1 := Lib.hid hb1
      clear hb1 x1 x2 x4 x4' x5 x5' hx hkk hk1
      go_wp2_with (first
        | ((with_reducible show wpList _ _ _ (⟨some 35, _, _, _, _, _⟩ :: _) _ _); refine wpList_load_mid rfl 34 _ rfl b q rfl (u64s x) _ (HLD.out _ HK.out) Try.underlying34 rfl HSX.out ?_))
      refine HB1.out.mono ?_
      rintro e w4 ⟨⟨v, m, rfl, ha⟩, k4⟩
      have K4 : Hid (∀ S, Keeps S W w4) := Lib.hid (fun S => (HK.out S).trans (k4 S))
      have K14 : Hid (∀ S, Keeps S w1 w4) := Lib.hid (fun S => (HK1.out S).trans (k4 S))
      have HA := Lib.hid ha
      have hb2 := rbelow_ x part of w4 HX.out.1 HX.out.2 HN.out.1 HN.out.2.1
      unfold hv at hb2
      have HB2 := Lib.hid hb2
      clear ha k4 hb2 HB1
      go_wp2_with (first
        | ((with_reducible show wpList _ _ _ (⟨some 45, _, _, _, _, _⟩ :: _) _ _); refine wpList_load_mid rfl 34 _ rfl b q rfl (u64s x) _ (HLD.out _ K4.out) Try.underlying34 rfl HSX.out ?_))
      refine HB2.out.mono ?_
      rintro e w5 ⟨⟨v', m', rfl, ha'⟩, k5⟩
      obtain ⟨rfl, rfl⟩ := HA.out.uniq ha'
      have K5 : Hid (∀ S, Keeps S W w5) := Lib.hid (fun S => (K4.out S).trans (k5 S))
      have K15 : Hid (∀ S, Keeps S w1 w5) := Lib.hid (fun S => (K14.out S).trans (k5 S))
      clear ha' k5 HB2
      have HL1 : Hid (∀ w, (∃ n, w = w5.drewN n) → w.rangeAt b q (u64s x)) := Lib.hid (fun w ⟨m, e⟩ => HLD.out w (fun S => by rw [e]; exact (K5.out S).trans (Keeps.of_drew _ _)))
      have HL2 : Hid (∀ w, (∃ n, w = w5.drewN n) → w.rangeAt b' q' (u64s x)) := Lib.hid (fun w ⟨m, e⟩ => HLD'.out w (fun S => by rw [e]; exact (K15.out S).trans (Keeps.of_drew _ _)))
      have hne := hist_neq x HX.out.1
      generalize hY : u64s x = Y at *
      go_wp2_with fail
      refine wp_region_quiet_lit (by kernel_rfl) (by kernel_rfl) ?_
      repeat (quiet_step (fail))
      refine wh.quiet_load rfl 34 _ rfl b' q' rfl Y _ HL2.out Try.underlying34 rfl HSX.out ?_
      simp only [Act.put, List.setIfInBounds_toArray, List.set_cons_zero, List.set_cons_succ]
      repeat (quiet_step (fail))
      refine wh.quiet_load rfl 34 _ rfl b q rfl Y _ HL1.out Try.underlying34 rfl HSX.out ?_
      simp only [Act.put, List.setIfInBounds_toArray, List.set_cons_zero, List.set_cons_succ]
      repeat (quiet_step (fail))
      refine wpQuiet_nil ?_
      intro _ hw'
      obtain ⟨nq, hw''⟩ := hw'
      subst hw''
      go_wp2_with fail
      have hk5 : ∀ S, Keeps S W (w5.drewN nq) := fun S => (K5.out S).trans (Keeps.of_drew _ _)
      have hk15 : ∀ S, Keeps S w1 (w5.drewN nq) := fun S => (K15.out S).trans (Keeps.of_drew _ _)
      exact ⟨⟨k + 1, by omega, by go_num, hk5, hk15⟩, by simp [intOf]; omega⟩
    · obtain rfl : k = n := by omega
      have HJ := Lib.hid (join_ A k c W.heap.size l wr (HH.out.keeps (hkk (fun _ => False)) (fun _ _ z => z)) (hkk (fun _ => False)).size (by have := HN.out; omega))
      unfold hv at HJ
      rw [hJ] at HJ
      clear hkk hk1
      go_wp2_with fail
      refine HJ.out.mono ?_
      rintro e w4 ⟨rfl, k4⟩
      have K4 : Hid (∀ S, Keeps S W w4) := Lib.hid (fun S => (HK.out S).trans (k4 S))
      have HJL := Lib.hid (And.intro (joined_len l) (joined_lt l HH.out.lt))
      have hb1 := below_ (joined l) part of w4 HJL.out.1 HJL.out.2 HN.out.1 HN.out.2.1
      unfold hv at hb1
      rw [hJ] at hb1
      have HB1 := Lib.hid hb1
      clear hb1 k4 HJ
      go_wp2_with fail
      refine HB1.out.mono ?_
      rintro e w5 ⟨⟨v, m, rfl, ha⟩, k5⟩
      have K5 : Hid (∀ S, Keeps S W w5) := Lib.hid (fun S => (K4.out S).trans (k5 S))
      have HA := Lib.hid ha
      have HRJ := Lib.hid (rjoin_ A k c W.heap.size l w5 (HH.out.keeps (K5.out (fun _ => False)) (fun _ _ z => z)) (K5.out (fun _ => False)).size (by have := HN.out; omega))
      unfold hv at HRJ
      rw [hJ] at HRJ
      clear ha k5 HB1
      go_wp2_with fail
      refine HRJ.out.mono ?_
      rintro e w6 ⟨rfl, k6⟩
      have K6 : Hid (∀ S, Keeps S W w6) := Lib.hid (fun S => (K5.out S).trans (k6 S))
      have hb2 := rbelow_ (joined l) part of w6 HJL.out.1 HJL.out.2 HN.out.1 HN.out.2.1
      unfold hv at hb2
      rw [hJ] at hb2
      have HB2 := Lib.hid hb2
      clear hb2 k6 HRJ
      go_wp2_with fail
      refine HB2.out.mono ?_
      rintro e w7 ⟨⟨v', m', rfl, ha'⟩, k7⟩
      obtain ⟨rfl, rfl⟩ := HA.out.uniq ha'
      have K7 : Hid (∀ S, Keeps S W w7) := Lib.hid (fun S => (K6.out S).trans (k7 S))
      have HAW := Lib.hid (awake_ w7)
      clear ha' k7 HB2
      go_wp2_with fail
      refine HAW.out.mono ?_
      rintro e w8 ⟨rfl, k8⟩
      have K8 := Lib.hid ((K7.out (fun _ => False)).trans (k8 (fun _ => False)))
      clear k8 HAW
      go_wp2
      go_ret
      exact ⟨rfl, K8.out.below⟩
end Go.Proofs.Ytekglcphdjjmcaa.oc
