/-
  tally's law: the reference's Join.
-/
import Derived.Test.YtekglcphdjjmcaaTaJ
import Derived.BigRegion
set_option linter.unusedVariables false
namespace Go.Proofs.Ytekglcphdjjmcaa.th
open Go.RowKit Go.Proofs.Ytekglcphdjjmcaa.oc Go.Proofs.Ytekglcphdjjmcaa.mz
theorem part_same {a b : List Nat} {k : Nat} (h : a.length = 67) (hk : k < 67) (he : jw a b k = a[k]?.getD 0) : part a b (k + 1) = part a b k := by
  rw [← part_set h hk, he]
  have hl := part_len (b := b) h (show k ≤ 67 by omega)
  have e := part_at (b := b) h (show k ≤ 67 by omega)
  rw [← e, List.getElem?_eq_getElem (by omega), Option.getD_some]
  exact List.set_getElem_self (by omega)
set_option maxRecDepth 100000 in
set_option maxHeartbeats 8000000 in
theorem rjoin_ (A : Option Addr) (n c B : Nat) (l : List (List Nat)) (w : World) (h : Hs w B A n l) (hB : B ≤ w.heap.size) (hn : n < 1000000000000000000) :
    Calls Try.prog 19 #[.slice A n c] w fun e w' => e = .returned (hv (joined l)) ∧ ∀ S, Keeps S w w' := by
  have HH := Lib.hid h
  have hz := hist_zero
  obtain ⟨Z, hZ⟩ : ∃ Z, Z = zh := ⟨_, rfl⟩
  rw [← hZ] at hz
  have HZ := Lib.hid hZ
  obtain ⟨wA, hwA⟩ : ∃ wA, wA = w.alloc (.cells Z 34) := ⟨_, rfl⟩
  have bA := Blk.new w 34 Z
  rw [← hwA] at bA
  have kA : ∀ S, Keeps S w wA := fun S => by rw [hwA]; exact (Keeps.refl S w).alloc _
  obtain ⟨wB, hwB⟩ : ∃ wB, wB = wA.alloc (.cells Z 34) := ⟨_, rfl⟩
  have bB := Blk.new wA 34 Z
  rw [← hwB] at bB
  have kB : ∀ S, Keeps S wA wB := fun S => by rw [hwB]; exact (Keeps.refl S wA).alloc _
  have bAB := Blk.keeps bA (kB (fun _ => False)) (fun z => z)
  have zA : wA.heap.size = w.heap.size + 1 := by rw [hwA]; show (w.heap.push _).size = _; simp
  have hZl : Z.toList = u64s (joined []) := by rw [hZ]; rfl
  rw [hZl] at bB bAB
  have BB := Lib.hid bB
  have BAB := Lib.hid bAB
  have KA : Hid (∀ S, Keeps S w wB) := Lib.hid (fun S => (kA S).trans (kB S))
  have ZA := Lib.hid (show wA.heap.size = w.heap.size + 1 ∧ B ≤ w.heap.size from ⟨zA, hB⟩)
  have HWA := Lib.hid hwA
  have HWB := Lib.hid hwB
  have hn' : (n : Int) < 1000000000000000000 := by omega
  have hn0 : (0 : Int) ≤ (n : Int) := by omega
  clear bA kA bB kB bAB h zA hZl hwA hwB hZ hB hn
  go_enter Try.func19, Try.ntmps19
  go_wp2_with fail
  rw [← HWA.out, ← HWB.out]
  clear HWA HWB
  generalize hA : wA.heap.size = X at *
  generalize hY : w.heap.size = Y at *
  obtain rfl : X = Y + 1 := ZA.out.1
  go_loopw [4] (fun i wr => ∃ k : Nat, k ≤ n ∧ i = .int .i64 (k : Int) ∧ Blk wr (Y + 1) 34 (u64s (joined (l.take k))) ∧ Blk wr Y 34 (u64s (joined [])) ∧ Keeps (fun b => Y ≤ b) w wr) (fun i _ => n - (intOf i).toNat)
  case atStart => exact ⟨0, Nat.zero_le _, rfl, BB.out, BAB.out, KA.out _⟩
  case round =>
    clear BB BAB KA
    obtain ⟨k, hk, rfl, hb, hb0, hkk⟩ := hrel
    have HB := Lib.hid hb
    have HB0 := Lib.hid hb0
    have HK := Lib.hid hkk
    have k0 : (0 : Int) ≤ (k : Int) := by omega
    by_cases hlt : k < n
    · have hlt' : (k : Int) < (n : Int) := by omega
      obtain ⟨x, hx⟩ : ∃ x, l[k]? = some x := ⟨_, List.getElem?_eq_getElem (by rw [HH.out.1]; exact hlt)⟩
      obtain ⟨x1, x2, b, o, rfl, x4, x5⟩ := HH.out.2 k x hx
      have HX := Lib.hid (And.intro hx x1)
      obtain ⟨q, hq⟩ : ∃ q, o + k * 67 = q := ⟨_, rfl⟩
      rw [hq] at x5
      have HLD := Lib.hid x5
      have HBY := Lib.hid (show b < Y from by have := ZA.out.2; omega)
      have HAL : Hid ((joined (l.take k)).length = 67) := Lib.hid (joined_len _)
      have HJ : Hid (joined (l.take (k + 1)) = jn (joined (l.take k)) x) := Lib.hid (by rw [List.take_add_one, HX.out.1]; exact joined_snoc _ _)
      have BB1 := Lib.hid (show Blk wr (Y + 1) 34 (u64s (part (joined (l.take k)) x 0)) from by rw [part_zero]; exact hb)
      clear hb hb0 hkk hx x5 HB hz
      generalize joined (l.take k) = a at *
      go_wp2_with fail
      go_loopw [5] (fun i wj => ∃ j : Nat, j ≤ 65 ∧ i = .int .i64 (j : Int) ∧ Blk wj (Y + 1) 34 (u64s (part a x j)) ∧ Blk wj Y 34 (u64s (joined [])) ∧ Keeps (fun b => Y ≤ b) w wj) (fun i _ => 65 - (intOf i).toNat)
      case atStart => exact ⟨0, Nat.zero_le _, rfl, BB1.out, HB0.out, HK.out⟩
      case round =>
        clear BB1 HB0
        obtain ⟨j, hj, rfl, d1, d3, d4⟩ := hrel
        have D1 := Lib.hid d1
        have D3 := Lib.hid d3
        have D4 := Lib.hid d4
        have j0 : (0 : Int) ≤ (j : Int) := by omega
        have rd : ∀ i, i < 67 → wr.cell? ⟨b, q + i, none⟩ = some (.int .u64 ((x[i]?.getD 0 : Nat) : Int)) := fun i hi => by
          have e : (u64s x)[i]? = some (.int .u64 ((x[i]?.getD 0 : Nat) : Int)) := by
            have : x[i]? = some (x[i]?.getD 0) := by rw [List.getElem?_eq_getElem (by omega)]; rfl
            rw [u64s, List.getElem?_map, this]; rfl
          exact Keeps.cell d4 (HLD.out i _ e) (fun z => by have := HBY.out; omega)
        by_cases hlt2 : j < 65
        · have hlt2' : (j : Int) < 65 := by omega
          have c1 := part_cell d1 HAL.out (show j < 67 by omega)
          have c2 := rd j (by omega)
          have f1 := d1.frozen j
          have HE := Lib.hid (jw_sum (a := a) (b := x) (show j < 66 by omega))
          clear d1 d3 d4 rd
          go_wp2_with fail
          go_region
          go_wp2_with fail
          go_roundw
          case rel => exact ⟨j + 1, by omega, by go_num, part_put D1.out.drew HAL.out (by omega) HE.out, Blk.keeps D3.out.drew (Keeps.here _) (show ¬ Y = Y + 1 by omega), (D4.out.drew).trans ((Keeps.here _).mono (fun b _ e => by subst e; omega))⟩
          case measure => simp [intOf]; omega
        · obtain rfl : j = 65 := by omega
          have c1 := part_cell d1 HAL.out (show 65 < 67 by omega)
          have f1 := d1.frozen 65
          have c2 := rd 65 (by omega)
          have HE := Lib.hid (jw_sum (a := a) (b := x) (show 65 < 66 by omega))
          have HR6 := Lib.hid (rd 66 (by omega))
          have HM66 : Hid (jw a x 66 = max (a[66]?.getD 0) (x[66]?.getD 0)) := Lib.hid (by rw [jw, if_neg (by omega)])
          generalize a[65]?.getD 0 = a65 at *
          generalize x[65]?.getD 0 = x65 at *
          clear d1 d3 d4 rd
          go_wp2_with fail
          go_region
          have p1 := part_put D1.out.drew HAL.out (by omega) HE.out
          have kp1 : Keeps (· = Y + 1) wr (wr.setCell ⟨Y + 1, 65, none⟩ (.int .u64 (IntKind.u64.wrap ((a65 : Int) + (x65 : Int))))).drew := (Keeps.here _).drew
          replace p1 : Blk (wr.setCell ⟨Y + 1, 65, none⟩ (.int .u64 (IntKind.u64.wrap ((a65 : Int) + (x65 : Int))))).drew (Y + 1) 34 (u64s (part a x 66)) := p1
          have c6 := kp1.cell HR6.out (show ¬ b = Y + 1 by have := HBY.out; omega)
          generalize (wr.setCell ⟨Y + 1, 65, none⟩ (.int .u64 (IntKind.u64.wrap ((a65 : Int) + (x65 : Int))))).drew = w1 at *
          have c3 := part_cell p1 HAL.out (show 66 < 67 by omega)
          have f3 := p1.frozen 66
          have P1 := Lib.hid p1
          have KP1 := Lib.hid kp1
          generalize ha66 : a[66]?.getD 0 = a66 at *
          generalize x[66]?.getD 0 = x66 at *
          clear c1 c2 f1 p1 kp1
          go_wp2_with fail
          by_cases hgt : a66 < x66
          · have hgt' : (a66 : Int) < (x66 : Int) := by omega
            go_region
            go_wp2_with fail
            have p2 := part_put P1.out HAL.out (by omega) (show (x66 : Int) = (jw a x 66 : Int) by rw [HM66.out]; omega)
            rw [part_all HAL.out, ← HJ.out] at p2
            have kp : Keeps (· = Y + 1) w1 (w1.setCell ⟨Y + 1, 66, none⟩ (.int .u64 (x66 : Int))).drew := (Keeps.here _).drew
            exact ⟨⟨k + 1, by omega, by go_num, p2.drew, Blk.keeps (Blk.keeps D3.out KP1.out (show ¬ Y = Y + 1 by omega)) kp (show ¬ Y = Y + 1 by omega), (D4.out.trans (KP1.out.mono (fun b _ e => by subst e; omega))).trans (kp.mono (fun b _ e => by subst e; omega))⟩, by simp [intOf]; omega⟩
          · have hgt' : ¬ (a66 : Int) < (x66 : Int) := by omega
            go_region
            go_wp2_with fail
            have hs := part_same (b := x) HAL.out (show 66 < 67 by omega) (by rw [HM66.out, ha66]; omega)
            have p2 := P1.out
            rw [← hs, part_all HAL.out, ← HJ.out] at p2
            exact ⟨⟨k + 1, by omega, by go_num, p2.drew, (Blk.keeps D3.out KP1.out (show ¬ Y = Y + 1 by omega)).drew, (D4.out.trans (KP1.out.mono (fun b _ e => by subst e; omega))).drew⟩, by simp [intOf]; omega⟩
    · obtain rfl : k = n := by omega
      have HL5 : Hid (joined (l.take k) = joined l ∧ (joined l).length = 67) := Lib.hid ⟨by rw [List.take_of_length_le (by rw [HH.out.1]; omega)], joined_len _⟩
      rw [HL5.out.1] at hb HB
      have hl5 := HL5.out.2
      have HLD := Lib.hid (wh.Blk.range hb)
      have h0l : (u64s (joined [])).length = 67 := by simp [u64s, joined]
      have hyl : (u64s (joined l)).length = 67 := by rw [u64s, List.length_map, hl5]
      have hth := wh.Blk.thereAll hb0
      rw [h0l, ← hyl] at hth
      have HTH : Hid (wr.there Y 0 (u64s (joined l)).toArray.size ∧ (Try.prog.info? 34).map (·.size) = some (u64s (joined l)).toArray.size ∧ ((u64s (joined l)).toArray).all (·.oneCell') = true) := Lib.hid ⟨by rw [List.size_toArray]; exact hth, by have := hist_size hl5; simpa using this, wh.u64_ones _⟩
      have b6 : Blk (wr.setCells Y 0 (u64s (joined l))) Y 34 (u64s (joined l)) := wh.Blk.setAll hb0 _ (by rw [hyl, h0l])
      have k6 := wh.keeps_setCells Y (u64s (joined l)) wr 0
      have HSZ := Lib.hid (hist_size hl5)
      have K6 := Lib.hid k6
      have B6 := Lib.hid b6
      clear hth hl5 h0l hyl b6 k6 hb hb0 hkk hz
      generalize hY2 : u64s (joined l) = YY at *
      go_wp2_with (first
        | (refine wpList_load_mid rfl 34 _ rfl (Y + 1) 0 rfl YY _ HLD.out Try.underlying34 rfl HSZ.out ?_)
        | (refine wpList_store_mid rfl 34 _ _ rfl Y 0 YY.toArray rfl rfl HTH.out.1 HTH.out.2.1 HTH.out.2.2 ?_))
      refine bodyPost_ret (results_cell_row (p := 2) (ty := 34) (by kernel_rfl) _ _ Y _ _ _ _ (by simp) B6.out Try.underlying34 rfl HTH.out.2.1) rfl ?_
      refine ⟨by rw [show hv (joined l) = .agg YY.toArray from by rw [← hY2]; rfl], fun S => ?_⟩
      have kk := HK.out.trans (K6.out.mono (fun b _ e => by subst e; exact Nat.le_refl _))
      exact (kk.only (fun b hb => by rw [hY]; exact hb)).mono (fun _ _ z => z.elim)
end Go.Proofs.Ytekglcphdjjmcaa.th
