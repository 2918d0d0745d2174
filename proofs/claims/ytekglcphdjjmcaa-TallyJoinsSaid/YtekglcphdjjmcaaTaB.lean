/-
  tally: total, Below.
-/
import Derived.Test.YtekglcphdjjmcaaBl
import Derived.Test.YtekglcphdjjmcaaTaJ
import Derived.BigRegion
set_option linter.unusedVariables false
namespace Go.Proofs.Ytekglcphdjjmcaa.th
open Go.RowKit Go.Proofs.Ytekglcphdjjmcaa.oc Go.Proofs.Ytekglcphdjjmcaa.mz
/-- what total answers -/
def TotAns (c : List Nat) (e : Ending) : Prop := (c.sum ≤ 1099511627776 ∧ e = .returned (.tuple #[.int .u64 (c.sum : Int), .bool true])) ∨ (1099511627776 < c.sum ∧ e = .returned (.tuple #[.int .u64 0, .bool false]))
theorem keeps_box (S : Nat → Prop) (w : World) (o : Obj) : Keeps S w (w.alloc o) := (Keeps.refl S w).alloc o
set_option maxRecDepth 100000 in
set_option maxHeartbeats 8000000 in
theorem total_ (c : List Nat) (w : World) (hc : c.length = 65) (hlt : ∀ y ∈ c, y < 18446744073709551616) :
    Calls Try.prog 29 #[.agg (u64s c).toArray] w fun e w' => TotAns c e ∧ ∀ S, Keeps S w w' := by
  have b1 := Blk.new w 32 (u64s c).toArray
  obtain ⟨w1, hw1⟩ : ∃ w1, w1 = w.alloc (.cells (u64s c).toArray 32) := ⟨_, rfl⟩
  rw [← hw1] at b1
  have hrg := wh.Blk.range b1
  rw [List.toList_toArray] at hrg
  have HLD := Lib.hid hrg
  have K1 : Hid (∀ S, Keeps S w w1) := Lib.hid (fun S => by rw [hw1]; exact keeps_box S w _)
  have HSA := Lib.hid (arr_info hc)
  have HW := Lib.hid hw1
  have HC := Lib.hid (And.intro hc hlt)
  clear hw1 b1 hrg hc hlt
  go_enter Try.func29, Try.ntmps29
  go_wp2_with (first
    | ((with_reducible show wpList _ _ _ (⟨some 7, _, _, _, _, _⟩ :: _) _ _); rw [← HW.out]; refine wpList_load_mid rfl 32 _ rfl w.heap.size 0 rfl (u64s c) _ HLD.out Try.underlying32 rfl HSA.out ?_))
  go_loopw [8, 4] (fun i s wr => ∃ k : Nat, k ≤ 65 ∧ i = .int .i64 (k : Int) ∧ s = .int .u64 (((c.take k).sum : Nat) : Int) ∧ (c.take k).sum ≤ 1099511627776 ∧ w1 = wr) (fun i _ _ => 65 - (intOf i).toNat)
  case atStart => exact ⟨0, Nat.zero_le _, rfl, rfl, Nat.zero_le _, rfl⟩
  case round =>
    obtain ⟨k, hk, rfl, rfl, hs, rfl⟩ := hrel
    have k0 : (0 : Int) ≤ (k : Int) := by omega
    by_cases hlt : k < 65
    · have hlt' : (k : Int) < 65 := by omega
      have hidx := idx_u64 c k HC.out.1 hlt
      have hsum := sum_take_succ (c := c) (k := k) (by rw [HC.out.1]; exact hlt)
      have hle := sum_take_le c (k + 1)
      have HS := Lib.hid (And.intro hsum hle)
      clear hsum hle
      generalize hck : c[k]?.getD 0 = ck at *
      generalize hsk : (c.take k).sum = sk at *
      have hsk' : (sk : Int) ≤ 1099511627776 := by omega
      have hsk0 : (0 : Int) ≤ (sk : Int) := by omega
      have hck64 : (ck : Int) < 18446744073709551616 := by
        have := HC.out.2 (c[k]'(by rw [HC.out.1]; exact hlt)) (List.getElem_mem _)
        rw [List.getElem?_eq_getElem (by rw [HC.out.1]; exact hlt), Option.getD_some] at hck
        omega
      have hw : IntKind.u64.wrap (1099511627776 - (sk : Int)) = 1099511627776 - (sk : Int) := by rw [wrap_u64]; omega
      by_cases hgt : 1099511627776 - sk < ck
      · have hgt' : 1099511627776 - (sk : Int) < (ck : Int) := by omega
        have HG := Lib.hid hgt
        clear hgt hs hsk
        go_wp2_with fail
        go_ret2
        exact ⟨.inr ⟨by have := HS.out; have := HG.out; omega, rfl⟩, K1.out⟩
      · have hgt' : ¬ 1099511627776 - (sk : Int) < (ck : Int) := by omega
        have hw2 : IntKind.u64.wrap ((sk : Int) + (ck : Int)) = ((sk + ck : Nat) : Int) := by rw [wrap_u64]; omega
        have HG := Lib.hid hgt
        clear hgt hs hsk
        go_wp2_with fail
        have hS := HS.out
        have hG := HG.out
        exact ⟨⟨k + 1, by omega, by go_num, by rw [hS.1]; rfl, by omega, trivial⟩, by simp [intOf]; omega⟩
    · obtain rfl : k = 65 := by omega
      have e65 : c.take 65 = c := List.take_of_length_le (by rw [HC.out.1]; omega)
      rw [e65] at hs
      rw [e65]
      have HS := Lib.hid hs
      clear hs e65
      generalize hsm : c.sum = sm at *
      go_wp2_with fail
      go_ret2
      exact ⟨.inl ⟨by rw [hsm]; exact HS.out, by rw [hsm]; rfl⟩, K1.out⟩
theorem zarr_info : (Try.prog.info? 32).map (fun i => (i.zero, i.size)) = some (some (.agg (u64s (List.replicate 65 0)).toArray), 65) := by kernel_rfl
theorem arr_zero (w : World) : (zeroValue 32).run Try.prog w = .ok (.agg (u64s (List.replicate 65 0)).toArray) w := (zero_of_info zarr_info).1 w
theorem arr_eql (xs ys : List Nat) (hx : xs.length = 65) (hy : ys.length = 65) (w : World) : (binOp .eql 32 (.agg (u64s xs).toArray) (.agg (u64s ys).toArray)).run Try.prog w = .ok (.bool (xs == ys)) w := by
  rw [run_eql_struct, eqa.arr_eq' xs ys hx hy w]; rfl
/-- what the head of Below's loop finds -/
def BelR (c : List Nat) (need : Nat) (w3 : World) (i s : Value) (wr : World) : Prop := ∃ k : Nat, k < 65 ∧ i = .int .i64 (k : Int) ∧ s = .int .u64 (upto c k : Int) ∧ (∀ j, j < k → upto c j < need) ∧ w3 = wr
/-- what Below answers -/
def BelPost (c : List Nat) (part of : Nat) (e : Ending) : Prop := ∃ v n : Nat, e = .returned (.tuple #[.int .u64 (v : Int), .int .i64 (n : Int)]) ∧ BelAns c part of v n
set_option maxRecDepth 100000 in
set_option maxHeartbeats 8000000 in
theorem below_ (x : List Nat) (part of : Nat) (w : World) (hx : x.length = 67) (hxl : ∀ y ∈ x, y < 18446744073709551616) (hp : part < 18446744073709551616) (ho : of < 18446744073709551616) :
    Calls Try.prog 13 #[hv x, .int .u64 (part : Int), .int .u64 (of : Int)] w fun e w' => BelPost (x.take 65) part of e ∧ ∀ S, Keeps S w w' := by
  unfold hv
  obtain ⟨w1, hw1⟩ : ∃ w1, w1 = w.alloc (.cells (u64s x).toArray 34) := ⟨_, rfl⟩
  have b1 := Blk.new w 34 (u64s x).toArray
  rw [← hw1, List.toList_toArray] at b1
  have k1 : ∀ S, Keeps S w w1 := fun S => by rw [hw1]; exact keeps_box S w _
  have hbad : BadArg part of ∨ ¬ BadArg part of := Classical.em _
  have HC := Lib.hid (show (x.take 65).length = 65 ∧ (∀ y ∈ x.take 65, y < 18446744073709551616) ∧ (∀ k, k < 65 → (x.take 65)[k]?.getD 0 = x[k]?.getD 0) from ⟨by rw [List.length_take, hx]; rfl, fun y hy => hxl y (List.mem_of_mem_take hy), fun k hk => by rw [List.getElem?_take, if_pos hk]⟩)
  have HX := Lib.hid (And.intro hx hxl)
  have HW := Lib.hid hw1
  have B1 := Lib.hid b1
  have K1 : Hid (∀ S, Keeps S w w1) := Lib.hid k1
  clear hw1 b1 k1 hx hxl
  rcases hbad with hbad | hbad
  · have HB := Lib.hid hbad
    have hcases : of = 0 ∨ (¬ of = 0 ∧ 1048576 < of) ∨ (¬ of = 0 ∧ ¬ 1048576 < of ∧ of < part) := by unfold BadArg at hbad; omega
    clear hbad
    go_enter Try.func13, Try.ntmps13
    rcases hcases with h | ⟨h1, h2⟩ | ⟨h1, h2, h3⟩
    · subst h
      go_wp2_with fail
      go_ret2
      exact ⟨⟨0, 2, rfl, .inl ⟨HB.out, rfl, rfl⟩⟩, by rw [← HW.out]; exact K1.out⟩
    · have i1 : ¬ (of : Int) = 0 := by omega
      have i2 : (1048576 : Int) < (of : Int) := by omega
      clear h1 h2
      go_wp2_with fail
      go_ret2
      exact ⟨⟨0, 2, rfl, .inl ⟨HB.out, rfl, rfl⟩⟩, by rw [← HW.out]; exact K1.out⟩
    · have i1 : ¬ (of : Int) = 0 := by omega
      have i2 : ¬ (1048576 : Int) < (of : Int) := by omega
      have i3 : (of : Int) < (part : Int) := by omega
      clear h1 h2 h3
      go_wp2_with fail
      go_ret2
      exact ⟨⟨0, 2, rfl, .inl ⟨HB.out, rfl, rfl⟩⟩, by rw [← HW.out]; exact K1.out⟩
  · have HB := Lib.hid hbad
    have hcc : ¬ of = 0 ∧ ¬ 1048576 < of ∧ ¬ of < part := by unfold BadArg at hbad; omega
    have i1 : ¬ (of : Int) = 0 := by omega
    have i2 : ¬ (1048576 : Int) < (of : Int) := by omega
    have i3 : ¬ (of : Int) < (part : Int) := by omega
    have HO := Lib.hid hcc
    clear hbad hcc
    have hz := arr_zero
    obtain ⟨Z, hZ⟩ : ∃ Z, Z = List.replicate 65 0 := ⟨_, rfl⟩
    have heq := arr_eql (x.take 65) (List.replicate 65 0) HC.out.1 (by simp)
    rw [← hZ] at hz heq
    have bz := Blk.new w1 32 (u64s Z).toArray
    rw [List.toList_toArray] at bz
    have HLZ := Lib.hid (wh.Blk.range bz)
    have HSZ := Lib.hid (arr_info (l := Z) (by rw [hZ]; simp))
    have k2 := keeps_box (fun _ => False) w1 (.cells (u64s Z).toArray 32)
    have b2 := Blk.keeps B1.out k2 (fun z => z)
    have b2r : (w1.alloc (.cells (u64s Z).toArray 32)).rangeAt w.heap.size 0 (u64s (x.take 65)) := fun j v hv => wh.Blk.range b2 j v (by
      rw [show u64s (x.take 65) = (u64s x).take 65 from by simp [u64s], List.getElem?_take] at hv
      split at hv
      · exact hv
      · cases hv)
    have HL2 := Lib.hid b2r
    have HSX := Lib.hid (arr_info HC.out.1)
    have B2 := Lib.hid b2
    have HZ := Lib.hid hZ
    have K2 : Hid (∀ S, Keeps S w (w1.alloc (.cells (u64s Z).toArray 32))) := Lib.hid (fun S => (K1.out S).trans (keeps_box S w1 _))
    clear bz k2 b2 b2r hZ
    rw [HW.out] at HLZ HL2 B2 K2
    have hz1 : (w.alloc (.cells (u64s x).toArray 34)).heap.size = w.heap.size + 1 := by show (w.heap.push _).size = _; simp
    rw [hz1] at HLZ
    clear hz1 HW B1 K1
    have HT := Lib.hid (total_ (x.take 65) ((w.alloc (.cells (u64s x).toArray 34)).alloc (.cells (u64s Z).toArray 32)) HC.out.1 HC.out.2.1)
    rcases Classical.em (x.take 65 = Z) with hq | hq
    · have hqt : (x.take 65 == Z) = true := by rw [hq]; simp
      rw [hqt] at heq
      have HQ := Lib.hid hq
      clear hq hqt HT
      generalize hzv : u64s Z = ZZ at *
      generalize hcv : u64s (x.take 65) = CC at *
      go_enter Try.func13, Try.ntmps13
      go_wp2_with (first
        | ((with_reducible show wpList _ _ _ (⟨some 26, _, _, _, _, _⟩ :: _) _ _); refine wpList_load_mid rfl 32 _ rfl w.heap.size 0 rfl CC _ HL2.out Try.underlying32 rfl HSX.out ?_)
        | ((with_reducible show wpList _ _ _ (⟨some 27, _, _, _, _, _⟩ :: _) _ _); refine wpList_load_mid rfl 32 _ rfl (w.heap.size + 1) 0 rfl ZZ _ HLZ.out Try.underlying32 rfl HSZ.out ?_))
      go_ret2
      have hs0 : (x.take 65).sum = 0 := zero_sum (HQ.out.trans HZ.out)
      refine ⟨⟨0, 0, rfl, .inr (.inr ⟨HB.out, by omega, rfl, 0, ?_, rfl⟩)⟩, K2.out⟩
      rw [hs0, need_zero (by have := HO.out; omega)]
      exact isK_zero _
    · have hqt : (x.take 65 == Z) = false := by simpa using hq
      rw [hqt] at heq
      clear hq hqt
      generalize hzv : u64s Z = ZZ at *
      generalize hcv : u64s (x.take 65) = CC at *
      go_enter Try.func13, Try.ntmps13
      go_wp2_with (first
        | ((with_reducible show wpList _ _ _ (⟨some 26, _, _, _, _, _⟩ :: _) _ _); refine wpList_load_mid rfl 32 _ rfl w.heap.size 0 rfl CC _ HL2.out Try.underlying32 rfl HSX.out ?_)
        | ((with_reducible show wpList _ _ _ (⟨some 31, _, _, _, _, _⟩ :: _) _ _); refine wpList_load_mid rfl 32 _ rfl w.heap.size 0 rfl CC _ HL2.out Try.underlying32 rfl HSX.out ?_)
        | ((with_reducible show wpList _ _ _ (⟨some 27, _, _, _, _, _⟩ :: _) _ _); refine wpList_load_mid rfl 32 _ rfl (w.heap.size + 1) 0 rfl ZZ _ HLZ.out Try.underlying32 rfl HSZ.out ?_))
      refine HT.out.mono ?_
      rintro e w3 ⟨ht, k3⟩
      have K3 : Hid (∀ S, Keeps S w w3) := Lib.hid (fun S => (K2.out S).trans (k3 S))
      have B3 := Lib.hid (Blk.keeps B2.out (k3 (fun _ => False)) (fun z => z))
      clear k3 HT hz heq HLZ HL2 HSX HSZ K2 B2
      rcases ht with ⟨hsm, rfl⟩ | ⟨hsm, rfl⟩
      · have HSM := Lib.hid hsm
        have hmul : (x.take 65).sum * part ≤ 1099511627776 * 1048576 := Nat.mul_le_mul hsm (by have := HO.out; omega)
        have HN : Hid (needOf (x.take 65).sum part of = ((x.take 65).sum * part + of - 1) / of ∧ needOf (x.take 65).sum part of ≤ (x.take 65).sum) := Lib.hid ⟨rfl, need_le HB.out⟩
        have hmc : ((x.take 65).sum : Int) * (part : Int) = (((x.take 65).sum * part : Nat) : Int) := by rw [Int.natCast_mul]
        generalize hneed : needOf (x.take 65).sum part of = need at *
        generalize hst : (x.take 65).sum * part = t at *
        generalize hs0 : (x.take 65).sum = sm at *
        have ht2 : t ≤ 1152921504606846976 := by omega
        have hof0 := HO.out
        have hw1 : IntKind.u64.wrap (t : Int) = (t : Int) := by rw [wrap_u64]; omega
        have hw2 : IntKind.u64.wrap ((t : Int) + (of : Int)) = (t : Int) + (of : Int) := by rw [wrap_u64]; omega
        have hw3 : IntKind.u64.wrap ((t : Int) + (of : Int) - 1) = (t : Int) + (of : Int) - 1 := by rw [wrap_u64]; omega
        have hnq : ((t : Int) + (of : Int) - 1).tdiv (of : Int) = (need : Int) := by
          rw [Int.tdiv_eq_ediv_of_nonneg (by omega), HN.out.1, Int.natCast_ediv, show ((t + of - 1 : Nat) : Int) = (t : Int) + (of : Int) - 1 by omega]
        have hofp : (0 : Int) < (of : Int) := by omega
        have hnn : (0 : Int) ≤ (t : Int) + (of : Int) - 1 := by omega
        have hw4 : IntKind.u64.wrap (need : Int) = (need : Int) := by rw [wrap_u64]; have := HN.out.2; omega
        have c0 := cell_of B3.out (j := 0) (by rw [HX.out.1]; omega)
        have HU : Hid (∀ k, k < 65 → upto (x.take 65) k ≤ sm) := Lib.hid (fun k _ => by rw [← hs0]; exact upto_le _ k)
        have HUL : Hid (upto (x.take 65) 64 = sm) := Lib.hid (by rw [← hs0]; exact upto_last HC.out.1)
        have HUS : Hid (∀ k, k + 1 < 65 → upto (x.take 65) (k + 1) = upto (x.take 65) k + x[k + 1]?.getD 0) := Lib.hid (fun k hk => by rw [upto_succ (by rw [HC.out.1]; exact hk), HC.out.2.2 (k + 1) hk])
        have HU0 : Hid (x[0]?.getD 0 = upto (x.take 65) 0) := Lib.hid (by rw [← HC.out.2.2 0 (by omega)]; unfold upto; rw [sum_take_succ (by rw [HC.out.1]; omega)]; simp)
        have HST := Lib.hid hs0
        have HNN := Lib.hid hneed
        clear hsm hmul ht2 hof0 hs0
        generalize hcc : x.take 65 = c at *
        generalize hV : w.heap.size = V at *
        rw [HU0.out] at c0
        go_wp2_with fail
        go_region
        go_wp2_with fail
        clear hw1 hw2 hw3 hw4 hnq hofp hnn hmc hst hneed hp ho i1 i2 i3 c0
        go_loopw [12, 13] (BelR c need w3.drew) (fun i _ _ => 65 - (intOf i).toNat)
        case atStart => exact ⟨0, by omega, rfl, rfl, fun j hj => by omega, rfl⟩
        case round =>
          obtain ⟨k, hk, rfl, rfl, hall, rfl⟩ := hrel
          have HAL := Lib.hid hall
          have k0 : (0 : Int) ≤ (k : Int) := by omega
          clear hall
          by_cases hlt : upto c k < need
          · have hk1 : k + 1 < 65 := by
              rcases Nat.lt_or_ge (k + 1) 65 with q | q
              · exact q
              · have e : k = 64 := by omega
                rw [e, HUL.out] at hlt
                have := HN.out.2
                omega
            have hlt' : (upto c k : Int) < (need : Int) := by omega
            have ck : w3.drew.cell? ⟨V, k + 1, none⟩ = some (.int .u64 ((x[k + 1]?.getD 0 : Nat) : Int)) := cell_of B3.out.drew (j := k + 1) (by rw [HX.out.1]; omega)
            have hsum : IntKind.u64.wrap ((upto c k : Int) + ((x[k + 1]?.getD 0 : Nat) : Int)) = (upto c (k + 1) : Int) := by
              rw [wrap_u64, HUS.out k hk1]
              have h1 := HU.out (k + 1) hk1
              rw [HUS.out k hk1] at h1
              have := HSM.out
              omega
            have HLT := Lib.hid hlt
            have hwk : wrap64 ((k : Int) + 1) = ((k + 1 : Nat) : Int) := by unfold wrap64; omega
            have HAL2 : Hid (∀ j, j < k + 1 → upto c j < need) := Lib.hid (fun j hj => by
              rcases Nat.lt_or_ge j k with q | q
              · exact HAL.out j q
              · obtain rfl : j = k := by omega
                exact hlt)
            have HUK : Hid (∀ y : Nat, y = upto c (k + 1) → y = upto c (k + 1)) := Lib.hid (fun _ h => h)
            obtain ⟨k1, hk1e⟩ : ∃ k1, k1 = k + 1 := ⟨_, rfl⟩
            rw [← hk1e] at ck hsum hwk HAL2 hk1
            have HK1 := Lib.hid (And.intro hk1e hk1)
            have hk1' : (k1 : Int) < 65 := by omega
            have hk10 : (0 : Int) ≤ (k1 : Int) := by omega
            generalize x[k1]?.getD 0 = xk at *
            generalize hu1 : upto c k1 = u1 at *
            clear hlt hk1e hk1 hk
            go_wp2_with fail
            have h1 := HK1.out
            rw [hwk]
            exact ⟨⟨k1, h1.2, rfl, by rw [hu1], HAL2.out, rfl⟩, by simp [intOf]; omega⟩
          · have hlt' : ¬ (upto c k : Int) < (need : Int) := by omega
            have hpk : IntKind.u64.wrap (IntKind.u64.wrap ((2 : Int) ^ k) - 1) = ((2 ^ k - 1 : Nat) : Int) := by
              have e1 : ((2 : Int) ^ k) = ((1 * 2 ^ k : Nat) : Int) := by rw [Nat.one_mul, Int.natCast_pow]; rfl
              have e2 := wrap_sub ((1 * 2 ^ k) % W64) 1 (by decide)
              have e3 := pow_of ⟨k, hk⟩
              rw [e1, wrapN]
              have e4 : ((1 : Nat) : Int) = 1 := rfl
              rw [e4] at e2
              rw [e2, W64_eq, e3]
            have HPK := Lib.hid hpk
            clear hpk
            go_wp2_with fail
            go_ret2
            refine ⟨⟨2 ^ k - 1, 0, ?_, .inr (.inr ⟨HB.out, by rw [HST.out]; exact HSM.out, rfl, k, ?_, rfl⟩)⟩, fun S => (K3.out S).drew⟩
            · rw [← HPK.out]; rfl
            · rw [HST.out, HNN.out]; exact ⟨hk, HAL.out, by omega⟩
      · go_wp2_with fail
        go_ret2
        exact ⟨⟨0, 4, rfl, .inr (.inl ⟨HB.out, hsm, rfl, rfl⟩)⟩, K3.out⟩
end Go.Proofs.Ytekglcphdjjmcaa.th
