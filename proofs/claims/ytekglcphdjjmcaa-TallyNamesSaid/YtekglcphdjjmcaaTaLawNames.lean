/-
  TallyNames' body.
-/
import Derived.Test.YtekglcphdjjmcaaTaOff
import Derived.Test.YtekglcphdjjmcaaMzNone
import Derived.Test.YtekglcphdjjmcaaTaH
import Derived.IntWalk
set_option linter.unusedVariables false
namespace Go.Proofs.Ytekglcphdjjmcaa.oc
open Go.RowKit Go.Proofs.Ytekglcphdjjmcaa.oc Go.Proofs.Ytekglcphdjjmcaa.mz Go.Proofs.Ytekglcphdjjmcaa.th Go.Proofs.Ytekglcphdjjmcaa.gw
/-- what the loop's head finds -/
def NoneR (w : World) (i p q : Value) (wr : World) : Prop := ∃ k : Nat, k ≤ 2 ∧ i = .int .i64 (k : Int) ∧ ta.Off wr p ∧ ta.Off wr q ∧ ∀ S, Keeps S w wr
theorem bad_of {c : List Nat} {part of : Nat} {e : Ending} (h : BelPost c part of e) (hb : BadArg part of) : e = .returned (.tuple #[.int .u64 0, .int .i64 2]) := by
  obtain ⟨v, n, rfl, h⟩ := h
  obtain ⟨rfl, rfl⟩ := h.uniq (.inl ⟨hb, rfl, rfl⟩)
  rfl
theorem long_of {c : List Nat} {part of : Nat} {e : Ending} (h : BelPost c part of e) (hb : ¬ BadArg part of) (hs : 1099511627776 < c.sum) : e = .returned (.tuple #[.int .u64 0, .int .i64 4]) := by
  obtain ⟨v, n, rfl, h⟩ := h
  obtain ⟨rfl, rfl⟩ := h.uniq (.inr (.inl ⟨hb, hs, rfl, rfl⟩))
  rfl
/-- a fresh variable of the histogram's type, written whole -/
theorem put_whole (w : World) (Z Y : Array Value) (hZ : Z.size = 67) (hY : Y.size = 67) (h1 : Y.all (·.oneCell') = true) : (w.alloc (.cells Z 34)).there w.heap.size 0 Y.size ∧ (Try.prog.info? 34).map (·.size) = some Y.size ∧ Y.all (·.oneCell') = true ∧ ∀ S, Keeps S w ((w.alloc (.cells Z 34)).setCells w.heap.size 0 Y.toList) := by
  have b8 := Blk.new w 34 Z
  have hth := wh.Blk.thereAll b8
  rw [Array.length_toList, hZ, ← hY] at hth
  have hsz := (zero_of_info zh_info).2
  rw [← hY] at hsz
  refine ⟨hth, hsz, h1, fun S => ?_⟩
  have k9 := wh.keeps_setCells w.heap.size Y.toList (w.alloc (.cells Z 34)) 0
  exact (((Keeps.refl (· = w.heap.size) w).alloc _).trans k9).mono (fun b hb e => absurd e (by omega))
set_option maxRecDepth 100000 in
set_option maxHeartbeats 8000000 in
theorem walk_tallyNames (W : World) : Calls Try.prog 3 #[] W fun e w' => e = .returned (.bool true) ∧ Below W.heap.size W w' := by
  obtain ⟨Z, hZ⟩ : ∃ Z, Z = zh := ⟨_, rfl⟩
  have hZs : Z.size = 67 := by rw [hZ]; rfl
  have hZa : Z.all (·.oneCell') = true := by rw [hZ]; unfold zh; exact wh.u64_ones _
  have hz := hist_zero
  rw [← hZ] at hz
  have HZ := Lib.hid (And.intro hZs hZa)
  have HZE := Lib.hid hZ
  clear hZs hZa hZ
  have HGO : Hid (∀ p w, ta.Off w p → Calls Try.prog 9 #[p, .nilIface] w fun e w' => e = .returned (.tuple #[.agg Z, .int .i64 1]) ∧ ∀ S, Keeps S w w') := Lib.hid (fun p w h => by
    have := hget_off p .nilIface w h
    have e : hv (List.replicate 67 0) = .agg Z := by rw [HZE.out]; rfl
    rwa [e] at this)
  go_enter Try.func3, Try.ntmps3
  go_wp2_with fail
  go_loopw [3, 1, 2] (NoneR W) (fun i _ _ _ => 2 - (intOf i).toNat)
  case atStart => exact ⟨0, by omega, rfl, .inl rfl, .inl rfl, fun S => Keeps.refl S W⟩
  case round =>
    obtain ⟨k, hk, rfl, hp, hq, hkk⟩ := hrel
    have HK : Hid (∀ S, Keeps S W wr) := Lib.hid hkk
    have HP := Lib.hid hp
    have HQ := Lib.hid hq
    clear hp hq hkk
    by_cases hlt : k < 2
    · have hlt' : (k : Int) < 2 := by omega
      have k0 : (0 : Int) ≤ (k : Int) := by omega
      have HA := Lib.hid (fun gv => ta.tadd_off gv wr _ 0 1 HP.out)
      have HS := Lib.hid (sum_off _ wr HP.out)
      have HPA := Lib.hid (fun gv => ta.parts_off gv wr _ HP.out)
      have HG := Lib.hid (HGO.out _ wr HQ.out)
      go_wp2_with fail
      refine (HA.out _).mono ?_
      rintro e w' ⟨rfl, rfl⟩
      go_wp2_with fail
      refine HS.out.mono ?_
      rintro e w' ⟨rfl, rfl⟩
      go_wp2_with fail
      refine (HPA.out _).mono ?_
      rintro e w' ⟨rfl, rfl⟩
      go_wp2_with fail
      refine HG.out.mono ?_
      rintro e w4 ⟨rfl, k4⟩
      have HPW := Lib.hid (put_whole w4 Z Z HZ.out.1 HZ.out.1 HZ.out.2)
      have K4 : Hid (∀ S, Keeps S wr w4) := Lib.hid k4
      clear k4
      go_wp2_with (first
        | (refine wpList_store_mid rfl 34 _ _ rfl w4.heap.size 0 Z rfl rfl HPW.out.1 HPW.out.2.1 HPW.out.2.2.1 ?_))
      have K5 : Hid (∀ S, Keeps S wr ((w4.alloc (.cells Z 34)).setCells w4.heap.size 0 Z.toList)) := Lib.hid (fun S => (K4.out S).trans (HPW.out.2.2.2 S))
      clear HPW
      generalize (w4.alloc (.cells Z 34)).setCells w4.heap.size 0 Z.toList = w5 at *
      have HAD := Lib.hid (fun gv v => hadd_off _ gv v w5 (off_keeps HQ.out (K5.out (fun _ => False)) (fun _ _ z => z)))
      refine (HAD.out _ _).mono ?_
      rintro e w' ⟨rfl, rfl⟩
      go_wp2_with fail
      have b1 := (Blk.new w5 41 #[.pointer none, .slice none 0 0]).alloc (.cells #[.pointer none, .slice none 0 0, .pointer none] 44)
      have b2 := Blk.new (w5.alloc (.cells #[.pointer none, .slice none 0 0] 41)) 44 #[.pointer none, .slice none 0 0, .pointer none]
      have hz5 : (w5.alloc (.cells #[.pointer none, .slice none 0 0] 41)).heap.size = w5.heap.size + 1 := by show (w5.heap.push _).size = _; simp
      rw [hz5] at b2
      refine ⟨⟨k + 1, by omega, by go_num, .inr ⟨_, rfl, by rw [b1.cell]; rfl⟩, .inr ⟨_, rfl, by rw [b2.cell]; rfl⟩, fun S => (((HK.out S).trans (K5.out S)).alloc _).alloc _⟩, by simp [intOf]; omega⟩
    · obtain rfl : k = 2 := by omega
      have HN0 := Lib.hid (ta.new_err 0 wr (by omega))
      have HN65 := Lib.hid (ta.new_err 65 wr (by omega))
      have hn64 := ta.new_ok 64 wr (by omega) (by omega)
      have i64 : ((64 : Nat) : Int) = 64 := rfl
      rw [i64] at hn64
      have HN64 := Lib.hid hn64
      have hpt := ta_ptr
      clear hn64 HGO
      go_wp2_with fail
      refine HN0.out.mono ?_
      rintro e w' ⟨rfl, rfl⟩
      go_wp2_with fail
      refine HN65.out.mono ?_
      rintro e w' ⟨rfl, rfl⟩
      go_wp2_with fail
      refine HN64.out.mono ?_
      rintro e w1 ⟨T, TW, rfl, t1, hT, hTW, k1⟩
      have T1 := Lib.hid t1
      have K1 : Hid (∀ S, Keeps S W w1) := Lib.hid (fun S => (HK.out S).trans (k1 S))
      have HNE := Lib.hid (show W.heap.size ≤ TW from Nat.le_trans (HK.out (fun _ => False)).size hTW)
      have HNN := Lib.hid (new_notes w1)
      clear t1 k1 hT hTW HN0 HN65 HN64 HK HP HQ
      go_wp2_with fail
      refine HNN.out.mono ?_
      rintro e w2 ⟨rfl, n2, k2⟩
      have N2 := Lib.hid n2
      have K2 : Hid (∀ S, Keeps S W w2) := Lib.hid (fun S => (K1.out S).trans (k2 S))
      have T2 := Lib.hid (T1.out.keeps (k2 (fun _ => False)) (fun z => z) (fun z => z))
      have HNL := Lib.hid (show TW < w1.heap.size from T1.out.ltW)
      generalize w1.heap.size = N at *
      clear n2 k2 HNN
      have HE1 := Lib.hid (fun gv => ta.tadd_err T TW 64 (List.replicate 64 0) gv w2 64 1 T2.out (by omega))
      have HE2 := Lib.hid (fun gv => ta.tadd_err T TW 64 (List.replicate 64 0) gv w2 (-1) 1 T2.out (by omega))
      have ht3 := ta.tadd_ T TW 64 0 (List.replicate 64 0) .nilIface [] (fun _ => False) w2 63 1 T2.out (GF.nil_ _ _ _ _) (by simp) (fun z => z) (fun z => z) (by omega)
      have i63 : ((63 : Nat) : Int) = 63 := rfl
      have i1 : ((1 : Nat) : Int) = 1 := rfl
      rw [i63, i1] at ht3
      have HT3 := Lib.hid ht3
      clear ht3
      go_wp2_with fail
      refine (HE1.out _).mono ?_
      rintro e w' ⟨rfl, rfl⟩
      go_wp2_with fail
      refine (HE2.out _).mono ?_
      rintro e w' ⟨rfl, rfl⟩
      go_wp2_with fail
      refine HT3.out.mono ?_
      rintro e w3 ⟨rfl, -, -, k3⟩
      have K3 := Lib.hid (show Keeps (· = TW) w2 w3 from k3.mono (fun b _ z => by rcases z with z | z; exact z; exact z.elim))
      have N3 := Lib.hid (N2.out.keeps K3.out (fun b hb e => by subst hb; have := HNL.out; omega))
      generalize (((List.replicate 64 0)[63]?.getD 0 + 1) % W64 : Nat) = tt at *
      clear k3 HE1 HE2 HT3
      have HZV : Hid (hv (List.replicate 67 0) = .agg Z) := Lib.hid (by rw [HZE.out]; rfl)
      have hb1 := below_ (List.replicate 67 0) 2 1 w3 (by simp) (fun y hy => by have := (List.mem_replicate.1 hy).2; omega) (by omega) (by omega)
      rw [HZV.out] at hb1
      have HB1 := Lib.hid hb1
      clear hb1
      go_wp2_with fail
      refine HB1.out.mono ?_
      rintro e w4 ⟨hp4, k4⟩
      have he4 := bad_of hp4 (by unfold BadArg; omega)
      subst he4
      have K4 : Hid (∀ S, Keeps S w3 w4) := Lib.hid k4
      have hb2 := below_ (List.replicate 67 0) 0 0 w4 (by simp) (fun y hy => by have := (List.mem_replicate.1 hy).2; omega) (by omega) (by omega)
      rw [HZV.out] at hb2
      have HB2 := Lib.hid hb2
      clear hb2 k4 hp4 HB1
      go_wp2_with fail
      refine HB2.out.mono ?_
      rintro e w5 ⟨hp5, k5⟩
      have he5 := bad_of hp5 (by unfold BadArg; omega)
      subst he5
      have K5 : Hid (∀ S, Keeps S w3 w5) := Lib.hid (fun S => (K4.out S).trans (k5 S))
      have b8 := Blk.new w5 34 Z
      have hZu : Z.toList = u64s (List.replicate 67 0) := by rw [HZE.out]; rfl
      rw [hZu] at b8
      have c3 := cell_of b8 (j := 3) (by simp)
      have f3 := b8.frozen 3
      have e3 : (((List.replicate 67 0 : List Nat)[3]?.getD 0 : Nat) : Int) = 0 := rfl
      rw [e3] at c3
      have b9 : Blk (w5.alloc (.cells (Z.setIfInBounds 3 (.int .u64 1099511627777)) 34)) w5.heap.size 34 (u64s ((List.replicate 67 0).set 3 1099511627777)) := by
        have := Blk.new w5 34 (Z.setIfInBounds 3 (.int .u64 1099511627777))
        rw [Array.toList_setIfInBounds, hZu] at this
        rwa [show (u64s (List.replicate 67 0)).set 3 (.int .u64 1099511627777) = u64s ((List.replicate 67 0).set 3 1099511627777) from by simp only [u64s, List.map_set]; rfl] at this
      have HLD := Lib.hid (wh.Blk.range b9)
      have hlb : ((List.replicate 67 0 : List Nat).set 3 1099511627777).length = 67 := by simp
      have HSB := Lib.hid (hist_size hlb)
      have k9 : ∀ S, Keeps S w5 (w5.alloc (.cells (Z.setIfInBounds 3 (.int .u64 1099511627777)) 34)) := fun S => (Keeps.refl S w5).alloc _
      have K9 : Hid (∀ S, Keeps S w3 (w5.alloc (.cells (Z.setIfInBounds 3 (.int .u64 1099511627777)) 34))) := Lib.hid (fun S => (K5.out S).trans (k9 S))
      have hb3 := below_ ((List.replicate 67 0).set 3 1099511627777) 1 1 (w5.alloc (.cells (Z.setIfInBounds 3 (.int .u64 1099511627777)) 34)) hlb (fun y hy => by
        rcases List.mem_or_eq_of_mem_set hy with q | q
        · have := (List.mem_replicate.1 q).2; omega
        · omega) (by omega) (by omega)
      unfold hv at hb3
      have HSUM : Hid (1099511627776 < (((List.replicate 67 0 : List Nat).set 3 1099511627777).take 65).sum) := Lib.hid (by decide)
      have HB3 := Lib.hid hb3
      clear hb3 k9 hlb b9 e3 b8 hZu k5 hp5 HB2 K4 K5
      generalize (List.replicate 67 0 : List Nat).set 3 1099511627777 = lb at *
      go_wp2_with (first
        | ((with_reducible show wpList _ _ _ (⟨some 130, _, _, _, _, _⟩ :: _) _ _); refine wpList_load_mid rfl 34 _ rfl w5.heap.size 0 rfl (u64s lb) _ HLD.out Try.underlying34 rfl HSB.out ?_))
      refine HB3.out.mono ?_
      rintro e w6 ⟨hp6, k6⟩
      have he6 := long_of hp6 (by unfold BadArg; omega) HSUM.out
      subst he6
      have K6 : Hid (∀ S, Keeps S w3 w6) := Lib.hid (fun S => (K9.out S).trans (k6 S))
      have HAW := Lib.hid (awake_ w6)
      clear k6 hp6 HB3 c3 f3
      go_wp2_with fail
      refine HAW.out.mono ?_
      rintro e w7 ⟨rfl, k7⟩
      have K7 : Hid (∀ S, Keeps S w3 w7) := Lib.hid (fun S => (K6.out S).trans (k7 S))
      have HMK := Lib.hid (marks_none N w7 _ (N3.out.keeps (K7.out (fun _ => False)) (fun _ _ z => z)))
      clear k7 HAW
      go_wp2_with fail
      refine HMK.out.mono ?_
      rintro e w8 ⟨rfl, rfl⟩
      have hj := join_ none 0 0 w7.heap.size [] w7 ⟨rfl, fun i x hx => by simp at hx⟩ (Nat.le_refl _) (by omega)
      have hjz : hv (joined []) = .agg Z := by rw [HZE.out]; rfl
      rw [hjz] at hj
      have HJ := Lib.hid hj
      have heq : ∀ w, (binOp .eql 34 (.agg Z) (.agg Z)).run Try.prog w = .ok (.bool true) w := fun w => by
        have := hist_eql (List.replicate 67 0) (List.replicate 67 0) (by simp) (by simp) w
        rw [HZE.out]
        unfold zh
        rw [this]; simp
      clear hj hjz HMK
      go_wp2_with fail
      refine HJ.out.mono ?_
      rintro e w9 ⟨rfl, k9⟩
      have K9' : Hid (∀ S, Keeps S w3 w9) := Lib.hid (fun S => (K7.out S).trans (k9 S))
      clear k9 HJ
      go_wp2
      go_ret
      refine ⟨rfl, ?_⟩
      have hne := HNE.out
      have kk : Keeps (· = TW) W w9 := ((K2.out _).trans K3.out).trans (K9'.out _)
      exact (kk.mono (S' := fun _ => False) (fun b hb e => by omega)).below
end Go.Proofs.Ytekglcphdjjmcaa.oc
