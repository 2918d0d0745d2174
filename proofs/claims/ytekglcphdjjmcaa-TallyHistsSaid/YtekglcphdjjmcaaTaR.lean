/-
  tally's law: the reference's Below.
-/
import Derived.Test.YtekglcphdjjmcaaTaB
set_option linter.unusedVariables false
namespace Go.Proofs.Ytekglcphdjjmcaa.th
open Go.RowKit Go.Proofs.Ytekglcphdjjmcaa.oc Go.Proofs.Ytekglcphdjjmcaa.mz
/-- what the head of the first loop finds -/
def SumR (c : List Nat) (w1 : World) (i s : Value) (wr : World) : Prop := ∃ k : Nat, k ≤ 65 ∧ i = .int .i64 (k : Int) ∧ s = .int .u64 (((c.take k).sum : Nat) : Int) ∧ (c.take k).sum ≤ 1099511627776 ∧ w1 = wr
/-- what the head of the second loop finds -/
def LevR (c : List Nat) (need : Nat) (w1 : World) (m s i : Value) (wr : World) : Prop := ∃ k : Nat, k < 65 ∧ m = .int .u64 ((2 ^ k - 1 : Nat) : Int) ∧ s = .int .u64 (((c.take k).sum : Nat) : Int) ∧ i = .int .i64 (k : Int) ∧ (∀ j, j < k → upto c j < need) ∧ w1 = wr
set_option maxRecDepth 100000 in
set_option maxHeartbeats 8000000 in
theorem rbelow_ (x : List Nat) (part of : Nat) (w : World) (hx : x.length = 67) (hxl : ∀ y ∈ x, y < 18446744073709551616) (hp : part < 18446744073709551616) (ho : of < 18446744073709551616) :
    Calls Try.prog 20 #[hv x, .int .u64 (part : Int), .int .u64 (of : Int)] w fun e w' => BelPost (x.take 65) part of e ∧ ∀ S, Keeps S w w' := by
  unfold hv
  obtain ⟨w1, hw1⟩ : ∃ w1, w1 = w.alloc (.cells (u64s x).toArray 34) := ⟨_, rfl⟩
  have b1 := Blk.new w 34 (u64s x).toArray
  rw [← hw1, List.toList_toArray] at b1
  have k1 : ∀ S, Keeps S w w1 := fun S => by rw [hw1]; exact keeps_box S w _
  have hbad : BadArg part of ∨ ¬ BadArg part of := Classical.em _
  have HC := Lib.hid (show (x.take 65).length = 65 ∧ (∀ y ∈ x.take 65, y < 18446744073709551616) ∧ (∀ k, k < 65 → (x.take 65)[k]?.getD 0 = x[k]?.getD 0) from ⟨by rw [List.length_take, hx]; rfl, fun y hy => hxl y (List.mem_of_mem_take hy), fun k hk => by rw [List.getElem?_take, if_pos hk]⟩)
  have HX := Lib.hid (And.intro hx hxl)
  have HW := Lib.hid hw1
  have B1 := Lib.hid b1
  have K1 : Hid (∀ S, Keeps S w w1) := Lib.hid k1
  clear hw1 b1 k1 hx hxl
  rcases hbad with hbad | hbad
  · have HB := Lib.hid hbad
    have hcases : of = 0 ∨ (¬ of = 0 ∧ 1048576 < of) ∨ (¬ of = 0 ∧ ¬ 1048576 < of ∧ of < part) := by unfold BadArg at hbad; omega
    clear hbad
    go_enter Try.func20, Try.ntmps20
    rcases hcases with h | ⟨h1, h2⟩ | ⟨h1, h2, h3⟩
    · subst h
      go_wp2_with fail
      go_ret2
      exact ⟨⟨0, 2, rfl, .inl ⟨HB.out, rfl, rfl⟩⟩, by rw [← HW.out]; exact K1.out⟩
    · have i1 : ¬ (of : Int) = 0 := by omega
      have i2 : (1048576 : Int) < (of : Int) := by omega
      clear h1 h2
      go_wp2_with fail
      go_ret2
      exact ⟨⟨0, 2, rfl, .inl ⟨HB.out, rfl, rfl⟩⟩, by rw [← HW.out]; exact K1.out⟩
    · have i1 : ¬ (of : Int) = 0 := by omega
      have i2 : ¬ (1048576 : Int) < (of : Int) := by omega
      have i3 : (of : Int) < (part : Int) := by omega
      clear h1 h2 h3
      go_wp2_with fail
      go_ret2
      exact ⟨⟨0, 2, rfl, .inl ⟨HB.out, rfl, rfl⟩⟩, by rw [← HW.out]; exact K1.out⟩
  · have HB := Lib.hid hbad
    have hcc : ¬ of = 0 ∧ ¬ 1048576 < of ∧ ¬ of < part := by unfold BadArg at hbad; omega
    have i1 : ¬ (of : Int) = 0 := by omega
    have i2 : ¬ (1048576 : Int) < (of : Int) := by omega
    have i3 : ¬ (of : Int) < (part : Int) := by omega
    have HO := Lib.hid hcc
    clear hbad hcc hp ho
    go_enter Try.func20, Try.ntmps20
    go_wp2_with fail
    rw [← HW.out]
    generalize hcc : x.take 65 = c at *
    generalize hV : w.heap.size = V at *
    clear i2 i3 i1
    go_loopw [9, 8] (SumR c w1) (fun i _ _ => 65 - (intOf i).toNat)
    case atStart => exact ⟨0, Nat.zero_le _, rfl, rfl, Nat.zero_le _, rfl⟩
    case round =>
      obtain ⟨k, hk, rfl, rfl, hs, rfl⟩ := hrel
      have k0 : (0 : Int) ≤ (k : Int) := by omega
      by_cases hlt : k < 65
      · have hlt' : (k : Int) < 65 := by omega
        have ck := cell_of B1.out (j := k) (by rw [HX.out.1]; omega)
        have hsum := sum_take_succ (c := c) (k := k) (by rw [HC.out.1]; exact hlt)
        have hle := sum_take_le c (k + 1)
        rw [HC.out.2.2 k hlt] at hsum
        have HS := Lib.hid (And.intro hsum hle)
        have hck64 : (x[k]?.getD 0 : Int) < 18446744073709551616 := by
          have hkx : k < x.length := by rw [HX.out.1]; omega
          have := HX.out.2 (x[k]'hkx) (List.getElem_mem _)
          rw [List.getElem?_eq_getElem hkx, Option.getD_some]
          omega
        clear hsum hle
        generalize hck : x[k]?.getD 0 = cx at *
        generalize hsk : (c.take k).sum = sk at *
        have hsk0 : (0 : Int) ≤ (sk : Int) := by omega
        have HSK := Lib.hid hs
        have hcx : (cx : Int) ≤ 1099511627776 ∨ (1099511627776 : Int) < (cx : Int) := by omega
        rcases hcx with hcx | hcx
        · have hcx' : ¬ (1099511627776 : Int) < (cx : Int) := by omega
          have hw2 : IntKind.u64.wrap ((sk : Int) + (cx : Int)) = ((sk + cx : Nat) : Int) := by rw [wrap_u64]; omega
          obtain ⟨z, hz⟩ : ∃ z, z = sk + cx := ⟨_, rfl⟩
          rw [← hz] at hw2
          have HZ := Lib.hid hz
          clear hz hs hck hsk
          by_cases hgt : 1099511627776 < z
          · have hgt' : (1099511627776 : Int) < (z : Int) := by omega
            have HG := Lib.hid hgt
            clear hgt
            go_wp2_with fail
            go_ret2
            exact ⟨⟨0, 4, rfl, .inr (.inl ⟨HB.out, by have h1 := HS.out; have h2 := HG.out; have h3 := HZ.out; first | omega | (rw [hcc]; omega), rfl, rfl⟩)⟩, K1.out⟩
          · have hgt' : ¬ (1099511627776 : Int) < (z : Int) := by omega
            have HG := Lib.hid hgt
            clear hgt
            go_wp2_with fail
            have h1 := HS.out
            have h2 := HZ.out
            have h3 := HG.out
            exact ⟨⟨k + 1, by omega, by go_num, by rw [h1.1, h2], by omega, rfl⟩, by simp [intOf]; omega⟩
        · have hcx' : (1099511627776 : Int) < (cx : Int) := by omega
          have HG := Lib.hid hcx
          clear hs hck hsk hcx
          go_wp2_with fail
          go_ret2
          exact ⟨⟨0, 4, rfl, .inr (.inl ⟨HB.out, by have h1 := HS.out; have h2 := HG.out; first | omega | (rw [hcc]; omega), rfl, rfl⟩)⟩, K1.out⟩
      · obtain rfl : k = 65 := by omega
        rw [List.take_of_length_le (by rw [HC.out.1]; omega)] at hs
        rw [List.take_of_length_le (show c.length ≤ 65 by rw [HC.out.1]; omega)]
        have HSM := Lib.hid hs
        have hmul : c.sum * part ≤ 1099511627776 * 1048576 := Nat.mul_le_mul hs (by have := HO.out; omega)
        have HN : Hid (needOf c.sum part of = c.sum * part / of + (if c.sum * part % of = 0 then 0 else 1) ∧ needOf c.sum part of ≤ c.sum) := Lib.hid ⟨need_ref (by have := HO.out; omega), need_le HB.out⟩
        have hmc : (c.sum : Int) * (part : Int) = ((c.sum * part : Nat) : Int) := by rw [Int.natCast_mul]
        have HU : Hid (∀ k, k < 65 → upto c k ≤ c.sum) := Lib.hid (fun k _ => upto_le _ k)
        have HUL : Hid (upto c 64 = c.sum) := Lib.hid (upto_last HC.out.1)
        generalize hneed : needOf c.sum part of = need at *
        generalize hst : c.sum * part = t at *
        generalize hs0 : c.sum = sm at *
        have HST := Lib.hid hs0
        have HNN := Lib.hid hneed
        have hof := HO.out
        have ht2 : t ≤ 1152921504606846976 := by omega
        have hw1 : IntKind.u64.wrap (t : Int) = (t : Int) := by rw [wrap_u64]; omega
        have hd : (t : Int).tdiv (of : Int) = ((t / of : Nat) : Int) := by rw [Int.tdiv_eq_ediv_of_nonneg (by omega), Int.natCast_ediv]
        have hm : (t : Int).tmod (of : Int) = ((t % of : Nat) : Int) := by rw [Int.tmod_eq_emod_of_nonneg (by omega), Int.natCast_emod]
        have hq : t / of ≤ t := Nat.div_le_self _ _
        have hr : t % of < of := Nat.mod_lt _ (by omega)
        have i1 : ¬ (of : Int) = 0 := by omega
        generalize t / of = q at *
        generalize t % of = r at *
        have hw2 : IntKind.u64.wrap (q : Int) = (q : Int) := by rw [wrap_u64]; omega
        have hw3 : IntKind.u64.wrap (r : Int) = (r : Int) := by rw [wrap_u64]; omega
        have hw4 : IntKind.u64.wrap ((q : Int) + 1) = ((q + 1 : Nat) : Int) := by rw [wrap_u64]; omega
        have hr0 : r = 0 ∨ ¬ r = 0 := by omega
        clear hmul ht2 hs hof hneed hs0
        rcases hr0 with hr0 | hr0
        · subst hr0
          have hne : need = q := by rw [HN.out.1]; simp
          subst hne
          go_wp2_with fail
          clear hw1 hd hm hq hr i1 hw2 hw3 hw4 hmc hst
          go_loopw [11, 12, 13] (LevR c need w1) (fun _ _ i _ => 65 - (intOf i).toNat)
          case atStart => exact ⟨0, by omega, rfl, by simp, rfl, fun j hj => by omega, rfl⟩
          case round =>
            obtain ⟨k, hk, rfl, rfl, rfl, hall, rfl⟩ := hrel
            have HAL := Lib.hid hall
            have k0 : (0 : Int) ≤ (k : Int) := by omega
            have k65 : (k : Int) < 65 := by omega
            have ck := cell_of B1.out (j := k) (by rw [HX.out.1]; omega)
            have hsum : upto c k = (c.take k).sum + x[k]?.getD 0 := by rw [← HC.out.2.2 k hk]; exact sum_take_succ (by rw [HC.out.1]; exact hk)
            have hup := HU.out k hk
            have hsm := HSM.out
            have hpl := pow_small ⟨k, hk⟩
            have HPT : Hid (k < 64 → IntKind.u64.wrap (IntKind.u64.wrap (2 * ((2 ^ k - 1 : Nat) : Int)) + 1) = ((2 ^ (k + 1) - 1 : Nat) : Int)) := Lib.hid (fun h => by
              have e := pow_twice ⟨k, h⟩
              have e1 : (2 : Int) * ((2 ^ k - 1 : Nat) : Int) = ((2 * (2 ^ k - 1) : Nat) : Int) := by rw [Int.natCast_mul]; rfl
              have e2 := wrap_add ((2 * (2 ^ k - 1)) % W64) 1
              have e3 : ((1 : Nat) : Int) = 1 := rfl
              rw [e3] at e2
              rw [e1, wrapN, e2, W64_eq, e])
            have hw : IntKind.u64.wrap (((c.take k).sum : Int) + ((x[k]?.getD 0 : Nat) : Int)) = (upto c k : Int) := by rw [wrap_u64]; omega
            clear hall hpl
            generalize x[k]?.getD 0 = cx at *
            have HSK := Lib.hid (show upto c k = (c.take (k + 1)).sum from rfl)
            have HUK := Lib.hid hup
            clear hsum hup hsm
            generalize (c.take k).sum = sk at *
            generalize hm : 2 ^ k - 1 = m at *
            have HM := Lib.hid hm
            clear hm
            by_cases hge : need ≤ upto c k
            · have hge' : (need : Int) ≤ (upto c k : Int) := by omega
              have HG := Lib.hid hge
              clear hge
              go_wp2_with fail
              go_ret2
              exact ⟨⟨m, 0, rfl, .inr (.inr ⟨HB.out, by rw [hcc, HST.out]; exact HSM.out, rfl, k, by rw [hcc, HST.out, HNN.out]; exact ⟨hk, HAL.out, HG.out⟩, HM.out.symm⟩)⟩, K1.out⟩
            · have hge' : ¬ (need : Int) ≤ (upto c k : Int) := by omega
              have hk64 : k < 64 := by
                rcases Nat.lt_or_ge k 64 with q | q
                · exact q
                · obtain rfl : k = 64 := by omega
                  rw [HUL.out] at hge
                  have := HN.out.2
                  omega
              have hw5 := HPT.out hk64
              have HAL2 : Hid (∀ j, j < k + 1 → upto c j < need) := Lib.hid (fun j hj => by
                rcases Nat.lt_or_ge j k with q | q
                · exact HAL.out j q
                · obtain rfl : j = k := by omega
                  omega)
              clear hge HPT
              go_wp2_with fail
              exact ⟨⟨k + 1, by omega, rfl, by rw [HSK.out], by go_num, HAL2.out, rfl⟩, by simp [intOf]; omega⟩
        · have hr0' : ¬ (r : Int) = 0 := by omega
          have hne : need = q + 1 := by rw [HN.out.1, if_neg hr0]
          rw [← hne] at hw4
          go_wp2_with fail
          clear hw1 hd hm hq hr i1 hw2 hw3 hw4 hmc hst
          go_loopw [11, 12, 13] (LevR c need w1) (fun _ _ i _ => 65 - (intOf i).toNat)
          case atStart => exact ⟨0, by omega, rfl, by simp, rfl, fun j hj => by omega, rfl⟩
          case round =>
            obtain ⟨k, hk, rfl, rfl, rfl, hall, rfl⟩ := hrel
            have HAL := Lib.hid hall
            have k0 : (0 : Int) ≤ (k : Int) := by omega
            have k65 : (k : Int) < 65 := by omega
            have ck := cell_of B1.out (j := k) (by rw [HX.out.1]; omega)
            have hsum : upto c k = (c.take k).sum + x[k]?.getD 0 := by rw [← HC.out.2.2 k hk]; exact sum_take_succ (by rw [HC.out.1]; exact hk)
            have hup := HU.out k hk
            have hsm := HSM.out
            have hpl := pow_small ⟨k, hk⟩
            have HPT : Hid (k < 64 → IntKind.u64.wrap (IntKind.u64.wrap (2 * ((2 ^ k - 1 : Nat) : Int)) + 1) = ((2 ^ (k + 1) - 1 : Nat) : Int)) := Lib.hid (fun h => by
              have e := pow_twice ⟨k, h⟩
              have e1 : (2 : Int) * ((2 ^ k - 1 : Nat) : Int) = ((2 * (2 ^ k - 1) : Nat) : Int) := by rw [Int.natCast_mul]; rfl
              have e2 := wrap_add ((2 * (2 ^ k - 1)) % W64) 1
              have e3 : ((1 : Nat) : Int) = 1 := rfl
              rw [e3] at e2
              rw [e1, wrapN, e2, W64_eq, e])
            have hw : IntKind.u64.wrap (((c.take k).sum : Int) + ((x[k]?.getD 0 : Nat) : Int)) = (upto c k : Int) := by rw [wrap_u64]; omega
            clear hall hpl
            generalize x[k]?.getD 0 = cx at *
            have HSK := Lib.hid (show upto c k = (c.take (k + 1)).sum from rfl)
            have HUK := Lib.hid hup
            clear hsum hup hsm
            generalize (c.take k).sum = sk at *
            generalize hm : 2 ^ k - 1 = m at *
            have HM := Lib.hid hm
            clear hm
            by_cases hge : need ≤ upto c k
            · have hge' : (need : Int) ≤ (upto c k : Int) := by omega
              have HG := Lib.hid hge
              clear hge
              go_wp2_with fail
              go_ret2
              exact ⟨⟨m, 0, rfl, .inr (.inr ⟨HB.out, by rw [hcc, HST.out]; exact HSM.out, rfl, k, by rw [hcc, HST.out, HNN.out]; exact ⟨hk, HAL.out, HG.out⟩, HM.out.symm⟩)⟩, K1.out⟩
            · have hge' : ¬ (need : Int) ≤ (upto c k : Int) := by omega
              have hk64 : k < 64 := by
                rcases Nat.lt_or_ge k 64 with q | q
                · exact q
                · obtain rfl : k = 64 := by omega
                  rw [HUL.out] at hge
                  have := HN.out.2
                  omega
              have hw5 := HPT.out hk64
              have HAL2 : Hid (∀ j, j < k + 1 → upto c j < need) := Lib.hid (fun j hj => by
                rcases Nat.lt_or_ge j k with q | q
                · exact HAL.out j q
                · obtain rfl : j = k := by omega
                  omega)
              clear hge HPT
              go_wp2_with fail
              exact ⟨⟨k + 1, by omega, rfl, by rw [HSK.out], by go_num, HAL2.out, rfl⟩, by simp [intOf]; omega⟩
end Go.Proofs.Ytekglcphdjjmcaa.th
