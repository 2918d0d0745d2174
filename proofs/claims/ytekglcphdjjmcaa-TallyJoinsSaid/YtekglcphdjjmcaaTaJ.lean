/-
  tally: Join.
-/
import Derived.Test.YtekglcphdjjmcaaJn
import Derived.IntWalk
set_option linter.unusedVariables false
namespace Go.Proofs.Ytekglcphdjjmcaa.th
open Go.RowKit Go.Proofs.Ytekglcphdjjmcaa.oc Go.Proofs.Ytekglcphdjjmcaa.mz
theorem idx_u64 (l : List Nat) (k : Nat) (hl : l.length = 65) (hk : k < 65) (w : World) : (Instr.index 32 (.agg (u64s l).toArray) (.int .i64 (k : Int))).run Try.prog w = .ok (.int .u64 ((l[k]?.getD 0 : Nat) : Int)) w := by
  have h0 : (0 : Int) ≤ (k : Int) ∧ (k : Int) < ((65 : Nat) : Int) := by omega
  have hp := eqa.part_u64 l k (by omega) w
  rw [List.getElem?_eq_getElem (by omega), Option.getD_some]
  simp only [Instr.index, asIntOf, Sem.run_bind, Sem.run_pure, Result.andThen_ok, run_underlying Try.underlying32, h0, and_self, if_true, Try.sizeOf24, Nat.mul_one, Int.toNat_natCast, hp]
theorem arr_info {l : List Nat} (h : l.length = 65) : (Try.prog.info? 32).map (·.size) = some (u64s l).length := by rw [eqa.arr_size, u64s, List.length_map, h]
set_option maxRecDepth 100000 in
set_option maxHeartbeats 8000000 in
theorem join_ (A : Option Addr) (n c B : Nat) (l : List (List Nat)) (w : World) (h : Hs w B A n l) (hB : B ≤ w.heap.size) (hn : n < 1000000000000000000) :
    Calls Try.prog 16 #[.slice A n c] w fun e w' => e = .returned (hv (joined l)) ∧ ∀ S, Keeps S w w' := by
  have HH := Lib.hid h
  have hz := hist_zero
  obtain ⟨Z, hZ⟩ : ∃ Z, Z = zh := ⟨_, rfl⟩
  rw [← hZ] at hz
  have HZ := Lib.hid hZ
  obtain ⟨wA, hwA⟩ : ∃ wA, wA = w.alloc (.cells Z 34) := ⟨_, rfl⟩
  have bA := Blk.new w 34 Z
  rw [← hwA] at bA
  have kA : ∀ S, Keeps S w wA := fun S => by rw [hwA]; exact (Keeps.refl S w).alloc _
  obtain ⟨wB, hwB⟩ : ∃ wB, wB = wA.alloc (.cells Z 34) := ⟨_, rfl⟩
  have bB := Blk.new wA 34 Z
  rw [← hwB] at bB
  have kB : ∀ S, Keeps S wA wB := fun S => by rw [hwB]; exact (Keeps.refl S wA).alloc _
  have bAB := Blk.keeps bA (kB (fun _ => False)) (fun z => z)
  have zA : wA.heap.size = w.heap.size + 1 := by rw [hwA]; show (w.heap.push _).size = _; simp
  have hZl : Z.toList = u64s (joined []) := by rw [hZ]; rfl
  rw [hZl] at bB bAB
  have BB := Lib.hid bB
  have BAB := Lib.hid bAB
  have KA : Hid (∀ S, Keeps S w wB) := Lib.hid (fun S => (kA S).trans (kB S))
  have ZA := Lib.hid (show wA.heap.size = w.heap.size + 1 ∧ B ≤ w.heap.size from ⟨zA, hB⟩)
  have HWA := Lib.hid hwA
  have HWB := Lib.hid hwB
  have hn' : (n : Int) < 1000000000000000000 := by omega
  have hn0 : (0 : Int) ≤ (n : Int) := by omega
  clear bA kA bB kB bAB h zA hZl hwA hwB hZ hB hn
  go_enter Try.func16, Try.ntmps16
  go_wp2_with fail
  rw [← HWA.out, ← HWB.out]
  clear HWA HWB
  generalize hA : wA.heap.size = X at *
  generalize hY : w.heap.size = Y at *
  obtain rfl : X = Y + 1 := ZA.out.1
  go_loopw [10] (fun i wr => ∃ k : Nat, k ≤ n ∧ i = .int .i64 (k : Int) ∧ Blk wr (Y + 1) 34 (u64s (joined (l.take k))) ∧ Blk wr Y 34 (u64s (joined [])) ∧ Keeps (fun b => Y ≤ b) w wr) (fun i _ => n - (intOf i).toNat)
  case atStart => exact ⟨0, Nat.zero_le _, rfl, BB.out, BAB.out, KA.out _⟩
  case round =>
    clear BB BAB KA
    obtain ⟨k, hk, rfl, hb, hb0, hkk⟩ := hrel
    have HB := Lib.hid hb
    have HB0 := Lib.hid hb0
    have HK := Lib.hid hkk
    have k0 : (0 : Int) ≤ (k : Int) := by omega
    by_cases hlt : k < n
    · have hlt' : (k : Int) < (n : Int) := by omega
      obtain ⟨x, hx⟩ : ∃ x, l[k]? = some x := ⟨_, List.getElem?_eq_getElem (by rw [HH.out.1]; exact hlt)⟩
      obtain ⟨x1, x2, b, o, rfl, x4, x5⟩ := (HH.out.keeps hkk (fun b hb z => by have := ZA.out.2; omega)).2 k x hx
      have HX := Lib.hid (And.intro hx x1)
      have HLD := Lib.hid x5
      have hszx := hist_size x1
      have HSX := Lib.hid hszx
      have b8 := Blk.new wr 34 Z
      have hZl : Z.toList.length = 67 := by rw [HZ.out]; rfl
      have hxl : (u64s x).length = 67 := by rw [u64s, List.length_map, x1]
      have HTH : Hid ((wr.alloc (.cells Z 34)).there wr.heap.size 0 (u64s x).toArray.size ∧ (Try.prog.info? 34).map (·.size) = some (u64s x).toArray.size ∧ ((u64s x).toArray).all (·.oneCell') = true) := Lib.hid ⟨by have := wh.Blk.thereAll b8; rw [hZl] at this; rw [show (u64s x).toArray.size = 67 from by rw [List.size_toArray, hxl]]; exact this, by rw [List.size_toArray]; exact hszx, wh.u64_ones _⟩
      have b9 : Blk ((wr.alloc (.cells Z 34)).setCells wr.heap.size 0 (u64s x)) wr.heap.size 34 (u64s x) := wh.Blk.setAll b8 _ (by rw [hZl, hxl])
      have b9r : ((wr.alloc (.cells Z 34)).setCells wr.heap.size 0 (u64s x)).rangeAt wr.heap.size 0 (u64s (x.take 65)) := fun j v hv => wh.Blk.range b9 j v (by
        rw [show u64s (x.take 65) = (u64s x).take 65 from by simp [u64s], List.getElem?_take] at hv
        split at hv
        · exact hv
        · cases hv)
      have HLD2 := Lib.hid b9r
      have HSA := Lib.hid (arr_info (l := x.take 65) (by rw [List.length_take, x1]; rfl))
      have k8 : Keeps (fun _ => False) wr (wr.alloc (.cells Z 34)) := (Keeps.refl _ wr).alloc _
      have k9 := wh.keeps_setCells wr.heap.size (u64s x) (wr.alloc (.cells Z 34)) 0
      have hXlt : Y + 1 < wr.heap.size := hb.lt
      have B9 := Lib.hid b9
      have K9 := Lib.hid (k8.mono (S' := (· = wr.heap.size)) (fun _ _ z => z.elim) |>.trans k9)
      have HLT := Lib.hid hXlt
      clear b9r hb hb0 hkk hx x5 hszx b8 hZl hxl b9 k8 k9 hXlt
      obtain ⟨q, hq⟩ : ∃ q, o + k * 67 = q := ⟨_, rfl⟩
      rw [hq] at HLD
      go_wp2_with (first
        | (refine wpList_store_mid rfl 34 _ _ rfl wr.heap.size 0 (u64s x).toArray rfl rfl HTH.out.1 HTH.out.2.1 HTH.out.2.2 ?_; rw [List.toList_toArray])
        | ((with_reducible show wpList _ _ _ (⟨some 15, _, _, _, _, _⟩ :: _) _ _); refine wpList_load_mid rfl 32 _ rfl wr.heap.size 0 rfl (u64s (x.take 65)) _ HLD2.out Try.underlying32 rfl HSA.out ?_)
        | ((with_reducible show wpList _ _ _ (⟨some 13, _, _, _, _, _⟩ :: _) _ _); refine wpList_load_mid rfl 34 _ rfl b q rfl (u64s x) _ HLD.out Try.underlying34 rfl HSX.out ?_))
      clear HTH
      have hV0 : Y + 1 < wr.heap.size := HLT.out
      have k1 : Keeps (fun b => Y ≤ b) wr ((wr.alloc (.cells Z 34)).setCells wr.heap.size 0 (u64s x)) := K9.out.mono (fun b _ e => by omega)
      have bb1 : Blk ((wr.alloc (.cells Z 34)).setCells wr.heap.size 0 (u64s x)) (Y + 1) 34 (u64s (part (joined (l.take k)) x 0)) := by rw [part_zero]; exact Blk.keeps HB.out K9.out (fun e => by omega)
      have bb0 : Blk ((wr.alloc (.cells Z 34)).setCells wr.heap.size 0 (u64s x)) Y 34 (u64s (joined [])) := Blk.keeps HB0.out K9.out (fun e => by omega)
      have BB1 := Lib.hid bb1
      have BB0 := Lib.hid bb0
      have KK1 := Lib.hid (HK.out.trans k1)
      clear hV0 k1 bb1 bb0 K9 HLD2 HSA HLD HSX HB HB0 hz
      generalize hV : wr.heap.size = V at *
      generalize (wr.alloc (.cells Z 34)).setCells V 0 (u64s x) = ws at *
      have HAL : Hid ((joined (l.take k)).length = 67) := Lib.hid (joined_len _)
      have HJ : Hid (joined (l.take (k + 1)) = jn (joined (l.take k)) x) := Lib.hid (by rw [List.take_add_one, HX.out.1]; exact joined_snoc _ _)
      generalize joined (l.take k) = a at *
      go_loopw [16] (fun i wj => ∃ j : Nat, j ≤ 65 ∧ i = .int .i64 (j : Int) ∧ Blk wj (Y + 1) 34 (u64s (part a x j)) ∧ Blk wj V 34 (u64s x) ∧ Blk wj Y 34 (u64s (joined [])) ∧ Keeps (fun b => Y ≤ b) w wj) (fun i _ => 65 - (intOf i).toNat)
      case atStart => exact ⟨0, Nat.zero_le _, rfl, BB1.out, B9.out, BB0.out, KK1.out⟩
      case round =>
        clear BB1 B9 BB0 KK1
        obtain ⟨j, hj, rfl, d1, d2, d3, d4⟩ := hrel
        have D1 := Lib.hid d1
        have D2 := Lib.hid d2
        have D3 := Lib.hid d3
        have D4 := Lib.hid d4
        have HVL := HLT.out
        have j0 : (0 : Int) ≤ (j : Int) := by omega
        by_cases hlt2 : j < 65
        · have hlt2' : (j : Int) < 65 := by omega
          have hidx := idx_u64 (x.take 65) j (by rw [List.length_take, HX.out.2]; rfl) hlt2
          have hxj : (x.take 65)[j]?.getD 0 = x[j]?.getD 0 := by rw [List.getElem?_take, if_pos hlt2]
          rw [hxj] at hidx
          have c1 := part_cell d1 HAL.out (show j < 67 by omega)
          have f1 := d1.frozen j
          have HE := Lib.hid (jw_sum (a := a) (b := x) (show j < 66 by omega))
          clear d1 d2 d3 d4 hxj
          go_wp2_with fail
          go_roundw
          case rel => exact ⟨j + 1, by omega, by go_num, part_put D1.out HAL.out (by omega) HE.out, Blk.keeps D2.out (Keeps.here _) (show ¬ V = Y + 1 by omega), Blk.keeps D3.out (Keeps.here _) (show ¬ Y = Y + 1 by omega), D4.out.trans ((Keeps.here _).mono (fun b _ e => by subst e; omega))⟩
          case measure => simp [intOf]; omega
        · obtain rfl : j = 65 := by omega
          have c1 := part_cell d1 HAL.out (show 65 < 67 by omega)
          have f1 := d1.frozen 65
          have c2 := cell_of d2 (j := 65) (by rw [HX.out.2]; omega)
          have HE := Lib.hid (jw_sum (a := a) (b := x) (show 65 < 66 by omega))
          have c3 := part_next d1 HAL.out (show 65 ≤ 66 by omega) (by omega)
          have c4 := cell_of d2 (j := 66) (by rw [HX.out.2]; omega)
          have f3 := d1.frozen 66
          generalize a[65]?.getD 0 = a65 at *
          generalize x[65]?.getD 0 = x65 at *
          generalize ha66 : a[66]?.getD 0 = a66 at *
          generalize hx66 : x[66]?.getD 0 = x66 at *
          clear d1 d2 d3 d4
          go_wp2_with fail
          have hz66 : (max (a66 : Int) (x66 : Int)) = (jw a x 66 : Int) := by
            rw [jw, if_neg (by omega), ha66, hx66]; omega
          have p1 := part_put D1.out HAL.out (by omega) HE.out
          have p2 := part_put p1 HAL.out (by omega) hz66
          rw [part_all HAL.out, ← HJ.out] at p2
          have kp : Keeps (· = Y + 1) wr ((wr.setCell ⟨Y + 1, 65, none⟩ (.int .u64 (IntKind.u64.wrap ((a65 : Int) + (x65 : Int))))).setCell ⟨Y + 1, 66, none⟩ (.int .u64 (max (a66 : Int) (x66 : Int)))) := (Keeps.here _).trans (Keeps.here _)
          refine ⟨⟨k + 1, by omega, by go_num, p2, Blk.keeps D3.out kp (show ¬ Y = Y + 1 by omega), D4.out.trans (kp.mono (fun b _ e => by subst e; omega))⟩, by simp [intOf]; omega⟩
    · obtain rfl : k = n := by omega
      have HL5 : Hid (joined (l.take k) = joined l ∧ (joined l).length = 67) := Lib.hid ⟨by rw [List.take_of_length_le (by rw [HH.out.1]; omega)], joined_len _⟩
      rw [HL5.out.1] at hb HB
      have hl5 := HL5.out.2
      have HLD := Lib.hid (wh.Blk.range hb)
      have h0l : (u64s (joined [])).length = 67 := by simp [u64s, joined]
      have hyl : (u64s (joined l)).length = 67 := by rw [u64s, List.length_map, hl5]
      have hth := wh.Blk.thereAll hb0
      rw [h0l, ← hyl] at hth
      have HTH : Hid (wr.there Y 0 (u64s (joined l)).toArray.size ∧ (Try.prog.info? 34).map (·.size) = some (u64s (joined l)).toArray.size ∧ ((u64s (joined l)).toArray).all (·.oneCell') = true) := Lib.hid ⟨by rw [List.size_toArray]; exact hth, by have := hist_size hl5; simpa using this, wh.u64_ones _⟩
      have b6 : Blk (wr.setCells Y 0 (u64s (joined l))) Y 34 (u64s (joined l)) := wh.Blk.setAll hb0 _ (by rw [hyl, h0l])
      have k6 := wh.keeps_setCells Y (u64s (joined l)) wr 0
      have HSZ := Lib.hid (hist_size hl5)
      have K6 := Lib.hid k6
      have B6 := Lib.hid b6
      clear hth hl5 h0l hyl b6 k6 hb hb0 hkk hz
      generalize hY2 : u64s (joined l) = YY at *
      go_wp2_with (first
        | (refine wpList_load_mid rfl 34 _ rfl (Y + 1) 0 rfl YY _ HLD.out Try.underlying34 rfl HSZ.out ?_)
        | (refine wpList_store_mid rfl 34 _ _ rfl Y 0 YY.toArray rfl rfl HTH.out.1 HTH.out.2.1 HTH.out.2.2 ?_))
      refine bodyPost_ret (results_cell_row (p := 2) (ty := 34) (by kernel_rfl) _ _ Y _ _ _ _ (by simp) B6.out Try.underlying34 rfl HTH.out.2.1) rfl ?_
      refine ⟨by rw [show hv (joined l) = .agg YY.toArray from by rw [← hY2]; rfl], fun S => ?_⟩
      have kk := HK.out.trans (K6.out.mono (fun b _ e => by subst e; exact Nat.le_refl _))
      exact (kk.only (fun b hb => by rw [hY]; exact hb)).mono (fun _ _ z => z.elim)
end Go.Proofs.Ytekglcphdjjmcaa.th
