/-
  tally: a histogram's Get under no gate.
-/
import Derived.Test.YtekglcphdjjmcaaThA
import Derived.Test.YtekglcphdjjmcaaWh
import Derived.BigRegion
set_option linter.unusedVariables false
namespace Go.Proofs.Ytekglcphdjjmcaa.th
open Go.RowKit Go.Proofs.Ytekglcphdjjmcaa.oc Go.Proofs.Ytekglcphdjjmcaa.mz Go.Proofs.Ytekglcphdjjmcaa.at_ Go.Proofs.Ytekglcphdjjmcaa.gt Go.Proofs.Ytekglcphdjjmcaa.gw Go.Proofs.Ytekglcphdjjmcaa.tac
def zh : Array Value := (u64s (List.replicate 67 0)).toArray
theorem zh_info : (Try.prog.info? 34).map (fun i => (i.zero, i.size)) = some (some (.agg zh), 67) := by kernel_rfl
theorem hist_zero (w : World) : (zeroValue 34).run Try.prog w = .ok (.agg zh) w := (zero_of_info zh_info).1 w
theorem hist_size {l : List Nat} (h : l.length = 67) : (Try.prog.info? 34).map (·.size) = some (u64s l).length := by rw [(zero_of_info zh_info).2, u64s, List.length_map, h]
/-- a histogram handed on: its 67 words -/
def hv (l : List Nat) : Value := .agg (u64s l).toArray
set_option maxRecDepth 100000 in
set_option maxHeartbeats 4000000 in
theorem hget_ (H W C m : Nat) (ws : List Nat) (w : World) (h : Th w H W C ws m) :
    Calls Try.prog 9 #[.pointer (some ⟨H, 0, none⟩), .nilIface] w fun e w' => e = .returned (.tuple #[hv (ws ++ [m]), .int .i64 0]) ∧ ∀ S, Keeps S w w' := by
  have HN := Lib.hid (fun w h => none_ H W C m ws w h)
  have HH := Lib.hid h
  have hz := hist_zero
  have HP : Hid (H < w.heap.size ∧ W < w.heap.size ∧ C < w.heap.size) := Lib.hid ⟨h.ltH, h.ltW, h.ltC⟩
  obtain ⟨Z, hZ⟩ : ∃ Z, Z = zh := ⟨_, rfl⟩
  rw [← hZ] at hz
  obtain ⟨wA, hwA⟩ : ∃ wA, wA = w.alloc (.cells Z 34) := ⟨_, rfl⟩
  have bA := Blk.new w 34 Z
  rw [← hwA] at bA
  have kA : ∀ S, Keeps S w wA := fun S => by rw [hwA]; exact (Keeps.refl S w).alloc _
  obtain ⟨wB, hwB⟩ : ∃ wB, wB = wA.alloc (.cells Z 34) := ⟨_, rfl⟩
  have bB := Blk.new wA 34 Z
  rw [← hwB] at bB
  have kB : ∀ S, Keeps S wA wB := fun S => by rw [hwB]; exact (Keeps.refl S wA).alloc _
  have bAB := Blk.keeps bA (kB (fun _ => False)) (fun z => z)
  have HNA := Lib.hid (none_ H W C m ws wA (h.keeps (kA (fun _ => False)) (fun z => z) (fun z => z) (fun z => z)))
  have zA : wA.heap.size = w.heap.size + 1 := by rw [hwA]; show (w.heap.push _).size = _; simp
  have hZl : Z.toList = u64s (ta.got ws 67 0) := by rw [hZ, ta.got_zero]; rfl
  rw [hZl] at bB bAB
  have BB := Lib.hid bB
  have BAB := Lib.hid bAB
  have KA : Hid (∀ S, Keeps S w wB) := Lib.hid (fun S => (kA S).trans (kB S))
  have ZA := Lib.hid zA
  have HWA := Lib.hid hwA
  have HWB := Lib.hid hwB
  clear bA kA bB kB bAB h zA hZl hwA hwB hZ
  go_enter Try.func9, Try.ntmps9
  go_wp2_with fail
  rw [← HWA.out]
  refine HNA.out.mono ?_
  rintro e w' ⟨rfl, rfl⟩
  go_wp2_with fail
  rw [← HWB.out]
  clear hz HWA HWB HNA
  generalize hA : wA.heap.size = A at *
  generalize hB : w.heap.size = B at *
  go_loopw [11] (fun i wr => ∃ k : Nat, k ≤ 65 ∧ i = .int .i64 (k : Int) ∧ Blk wr A 34 (u64s (ta.got ws 67 k)) ∧ Blk wr B 34 (u64s (ta.got ws 67 0)) ∧ Keeps (fun b => B ≤ b) w wr) (fun i _ => 65 - (intOf i).toNat)
  case atStart => exact ⟨0, Nat.zero_le _, rfl, BB.out, BAB.out, KA.out _⟩
  case round =>
    clear BB BAB KA
    obtain ⟨k, hk, rfl, hb, hb0, hkk⟩ := hrel
    have hp := HP.out
    have hzz := ZA.out
    have t1 := HH.out.keeps hkk (by omega) (by omega) (by omega)
    have c1 := t1.cell1
    have HB := Lib.hid hb
    have HB0 := Lib.hid hb0
    have HK := Lib.hid hkk
    by_cases hlt : k < 65
    · have hlt' : (k : Int) < 65 := by omega
      have hk0 : (0 : Int) ≤ (k : Int) := by omega
      have HL := Lib.hid (load_ W 66 k 0 ws .nilIface [] (fun _ => False) wr t1.wd t1.len (GF.nil_ _ _ _ _) (by simp) (by omega) (fun z => z))
      have HS := Lib.hid (ta.got_set (n := 67) (show k < ws.length by rw [HH.out.len]; omega) (by omega))
      have HE : Hid ((ta.got ws 67 k).length = 67) := Lib.hid (by simp [ta.got, HH.out.len]; omega)
      clear hb hb0 hkk t1 hp hzz
      go_wp2_with fail
      refine HL.out.mono ?_
      rintro e w2 ⟨rfl, -, k2⟩
      have b2 := Blk.keeps HB.out k2 (fun z => z)
      have b20 := Blk.keeps HB0.out k2 (fun z => z)
      have c2 : w2.cell? ⟨A, k, none⟩ = some (.int .u64 (((ta.got ws 67 k)[k]?.getD 0 : Nat) : Int)) := by
        rw [b2.cell]
        have : (ta.got ws 67 k)[k]? = some ((ta.got ws 67 k)[k]?.getD 0) := by rw [List.getElem?_eq_getElem (by have := HE.out; omega)]; rfl
        rw [u64s, List.getElem?_map, this]; rfl
      have f2 := b2.frozen k
      have B2 := Lib.hid b2
      have B20 := Lib.hid b20
      have K2 := Lib.hid k2
      clear b2 b20 k2 HL
      go_wp2_with fail
      go_roundw
      case rel =>
        have hzz := ZA.out
        have hne : B ≠ A := by omega
        refine ⟨k + 1, by omega, by go_num, ?_, Blk.keeps B20.out (Keeps.here _) hne, (HK.out.trans (K2.out.mono (fun _ _ z => z.elim))).trans ((Keeps.here _).mono (fun b _ e => by subst e; omega))⟩
        have := B2.out.put k (.int .u64 ((ws[k]?.getD 0 : Nat) : Int))
        rwa [show (u64s (ta.got ws 67 k)).set k (.int .u64 ((ws[k]?.getD 0 : Nat) : Int)) = u64s (ta.got ws 67 (k + 1)) from by rw [← HS.out]; simp [u64s, List.map_set]] at this
      case measure => simp [intOf]; omega
    · obtain rfl : k = 65 := by omega
      have HL := Lib.hid (load_ W 66 65 0 ws .nilIface [] (fun _ => False) wr t1.wd t1.len (GF.nil_ _ _ _ _) (by simp) (by omega) (fun z => z))
      have i65 : ((65 : Nat) : Int) = 65 := rfl
      rw [i65] at HL
      have HS := Lib.hid (ta.got_set (n := 67) (k := 65) (show 65 < ws.length by rw [HH.out.len]; omega) (by omega))
      have HE : Hid ((ta.got ws 67 65).length = 67 ∧ (ta.got ws 67 66).length = 67 ∧ (ta.got ws 67 66).set 66 m = ws ++ [m]) := Lib.hid ⟨by simp [ta.got, HH.out.len], by simp [ta.got, HH.out.len], by
        have hl := HH.out.len
        unfold ta.got
        rw [List.take_of_length_le (by omega), List.set_append_right _ _ (by omega), hl]
        rfl⟩
      clear hb hb0 hkk t1 hp hzz i65
      go_wp2_with fail
      refine HL.out.mono ?_
      rintro e w2 ⟨rfl, -, k2⟩
      have b2 := Blk.keeps HB.out k2 (fun z => z)
      have b20 := Blk.keeps HB0.out k2 (fun z => z)
      have c2 : w2.cell? ⟨A, 65, none⟩ = some (.int .u64 (((ta.got ws 67 65)[65]?.getD 0 : Nat) : Int)) := by
        rw [b2.cell]
        have : (ta.got ws 67 65)[65]? = some ((ta.got ws 67 65)[65]?.getD 0) := by rw [List.getElem?_eq_getElem (by have := HE.out.1; omega)]; rfl
        rw [u64s, List.getElem?_map, this]; rfl
      have f2 := b2.frozen 65
      have B2 := Lib.hid b2
      have B20 := Lib.hid b20
      have K2 := Lib.hid (HK.out.trans (k2.mono (fun _ _ z => z.elim)))
      clear b2 b20 k2 HL
      go_wp2_with fail
      obtain ⟨w3, hw3⟩ : ∃ w3, w3 = w2.setCell ⟨A, 65, none⟩ (.int .u64 ((ws[65]?.getD 0 : Nat) : Int)) := ⟨_, rfl⟩
      rw [← hw3]
      have hzz := ZA.out
      have hp := HP.out
      have k3 : Keeps (fun b => B ≤ b) w w3 := by rw [hw3]; exact K2.out.trans ((Keeps.here _).mono (fun b _ e => by subst e; omega))
      have b3 : Blk w3 A 34 (u64s (ta.got ws 67 66)) := by
        have := B2.out.put 65 (.int .u64 ((ws[65]?.getD 0 : Nat) : Int))
        rw [hw3]
        rwa [show (u64s (ta.got ws 67 65)).set 65 (.int .u64 ((ws[65]?.getD 0 : Nat) : Int)) = u64s (ta.got ws 67 66) from by rw [← HS.out]; simp [u64s, List.map_set]] at this
      have b30 : Blk w3 B 34 (u64s (ta.got ws 67 0)) := by rw [hw3]; exact Blk.keeps B20.out (Keeps.here _) (show ¬ B = A by omega)
      have t3 := HH.out.keeps k3 (by omega) (by omega) (by omega)
      have c3 := t3.cell2
      have HG := Lib.hid (cnt_get C m .nilIface w3.drew [] (fun _ => False) (t3.cnt.keeps (Keeps.refl (fun _ => False) w3).drew (fun z => z)) (.inl rfl) (by simp) (fun z => z))
      have c4 : w3.cell? ⟨A, 66, none⟩ = some (.int .u64 (((ta.got ws 67 66)[66]?.getD 0 : Nat) : Int)) := by
        rw [b3.cell]
        have : (ta.got ws 67 66)[66]? = some ((ta.got ws 67 66)[66]?.getD 0) := by rw [List.getElem?_eq_getElem (by have := HE.out.2.1; omega)]; rfl
        rw [u64s, List.getElem?_map, this]; rfl
      have f4 := b3.frozen 66
      have B3 := Lib.hid b3
      have B3D := Lib.hid (Blk.keeps b3 (Keeps.refl (fun _ => False) w3).drew (fun z => z))
      have c4d : w3.drew.cell? ⟨A, 66, none⟩ = some (.int .u64 (((ta.got ws 67 66)[66]?.getD 0 : Nat) : Int)) := c4
      have C4D := Lib.hid c4d
      have B30 := Lib.hid b30
      have K3 := Lib.hid k3
      have HAS := Lib.hid as_nil
      clear c4d c4 hzz hp k3 b3 b30 t3 hw3 c1 c2 f2 B2 B20 K2
      go_region_law (first
        | (go_simp; go_at_call 26; refine (HAS.out _ _).mono ?_; rintro e w' ⟨rfl, rfl⟩)
        | (go_simp; go_at_call 25; refine HG.out.mono ?_; rintro e w4 ⟨rfl, -, k4⟩; have K4 := Lib.hid k4; have c5 := k4.cell C4D.out (fun z => z); have f5 := (Blk.keeps B3D.out k4 (fun z => z)).frozen 66; clear k4))
      all_goals (
        obtain ⟨w5, hw5⟩ : ∃ w5, w5 = w4.setCell ⟨A, 66, none⟩ (.int .u64 (m : Int)) := ⟨_, rfl⟩
        rw [← hw5]
        have hzz := ZA.out
        have k45 : Keeps (fun b => B ≤ b) w4 w5 := by rw [hw5]; exact (Keeps.here _).mono (fun b _ e => by subst e; omega)
        have k5 : Keeps (fun b => B ≤ b) w w5 := (K3.out.trans ((Keeps.refl _ w3).drew.trans (K4.out.mono (fun _ _ z => z.elim)))).trans k45
        have b5 : Blk w5 A 34 (u64s (ws ++ [m])) := by
          have := (Blk.keeps B3D.out K4.out (fun z => z)).put 66 (.int .u64 (m : Int))
          rw [hw5]
          rwa [show (u64s (ta.got ws 67 66)).set 66 (.int .u64 (m : Int)) = u64s (ws ++ [m]) from by rw [← HE.out.2.2]; simp [u64s, List.map_set]] at this
        have b50 : Blk w5 B 34 (u64s (ta.got ws 67 0)) := by
          rw [hw5]
          exact Blk.keeps (Blk.keeps (Blk.keeps B30.out (Keeps.refl (fun _ => False) w3).drew (fun z => z)) K4.out (fun z => z)) (Keeps.here _) (show ¬ B = A by omega)
        have hl5 : (ws ++ [m]).length = 67 := by simp [HH.out.len]
        have HLD := Lib.hid (wh.Blk.range b5)
        have h0l : (u64s (ta.got ws 67 0)).length = 67 := by rw [ta.u64s_len67]
        have hyl : (u64s (ws ++ [m])).length = 67 := by simp [u64s, HH.out.len]
        have hth := wh.Blk.thereAll b50
        rw [h0l, ← hyl] at hth
        have HTH : Hid (w5.there B 0 (u64s (ws ++ [m])).toArray.size ∧ (Try.prog.info? 34).map (·.size) = some (u64s (ws ++ [m])).toArray.size ∧ ((u64s (ws ++ [m])).toArray).all (·.oneCell') = true) := Lib.hid ⟨by simpa using hth, by have := hist_size hl5; simpa using this, wh.u64_ones _⟩
        have b6 : Blk (w5.setCells B 0 (u64s (ws ++ [m]))) B 34 (u64s (ws ++ [m])) := wh.Blk.setAll b50 _ (by rw [hyl, h0l])
        have k6 := wh.keeps_setCells B (u64s (ws ++ [m])) w5 0
        have HSZ := Lib.hid (hist_size hl5)
        have K5 := Lib.hid k5
        have B6 := Lib.hid b6
        have K6 := Lib.hid k6
        clear hth hw5 hzz k45 k5 b5 b50 hl5 h0l hyl b6 k6 c3 c5 f5 f4 HG HAS B3 B3D C4D B30 K3 K4
        generalize hY : u64s (ws ++ [m]) = Y at *
        go_wp2_with (first
          | (refine wpList_load_mid rfl 34 _ rfl A 0 rfl Y _ HLD.out Try.underlying34 rfl HSZ.out ?_)
          | (refine wpList_store_mid rfl 34 _ _ rfl B 0 Y.toArray rfl rfl HTH.out.1 HTH.out.2.1 HTH.out.2.2 ?_))
        refine bodyPost_ret (wh.ret_cell (p := 4) (u := 5) (ty := 34) (by kernel_rfl) _ _ _ B _ _ _ (by rfl) B6.out Try.underlying34 rfl HSZ.out) rfl ?_
        refine ⟨by rw [show hv (ws ++ [m]) = .agg Y.toArray from by rw [← hY]; rfl]; rfl, fun S => ?_⟩
        have kk := K5.out.trans (K6.out.mono (fun b _ e => by subst e; exact Nat.le_refl _))
        exact (kk.only (fun b hb => by omega)).mono (fun _ _ z => z.elim))
end Go.Proofs.Ytekglcphdjjmcaa.th
