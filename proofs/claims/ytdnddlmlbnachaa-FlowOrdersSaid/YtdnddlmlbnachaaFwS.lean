/-
  patchbayref17: Bytes, Hash.
-/
import Derived.Test.YtdnddlmlbnachaaFwR
set_option linter.unusedVariables false
set_option linter.unusedSimpArgs false
namespace Go.Proofs.Ytdnddlmlbnachaa.fw
open Go.RowKit Go.Proofs.Ytdnddlmlbnachaa.oc Go.Proofs.Ytdnddlmlbnachaa.mz Go.Proofs.Ytdnddlmlbnachaa.pf Go.Proofs.Ytdnddlmlbnachaa.wh Go.Proofs.Ytdnddlmlbnachaa.qk Go.Proofs.Ytdnddlmlbnachaa.bys
section
variable (w : World)
set_option maxRecDepth 100000 in
set_option maxHeartbeats 2000000 in
theorem rbytes_ (k : Ky) (hk : k.Wf) : Calls Try.prog 17 #[kv k] w fun e w' => ∃ v, e = .returned v ∧ By w w' v (kby k) := by
  obtain ⟨w1, hw1, k1, b1, s1⟩ := box1 w (kvc k) 31
  have f1 : KF w1 w.heap.size 0 k := KF.of_range hk (Blk.range b1)
  have HZS := Lib.hid (ad_sz hk.s)
  have HZD := Lib.hid (ad_sz hk.d)
  have HA : Hid (Calls Try.prog 31 #[.slice none 0 0, av k.src] w1 fun e w' => ∃ v', e = .returned v' ∧ By w1 w' v' (aby k.src)) := Lib.hid (raddr_ w1 w1 (.slice none 0 0) [] (By.nil_ (fun S => Keeps.refl S w1)) (by simp) k.src hk.s)
  have HB := fun w v h => Lib.hid (raddr_ w1 w v (aby k.src) h (by rw [aby_len hk.s]; omega) k.dst hk.d)
  have lS := aby_len hk.s
  have lD := aby_len hk.d
  have hsp := hk.sl
  have hdp := hk.dl
  have HK := Lib.hid hk
  have HW := Lib.hid hw1
  have K1 : Hid (∀ S, Keeps S w w1) := Lib.hid k1
  have HS := Lib.hid s1
  have HF := Lib.hid f1
  have HL := Lib.hid (And.intro lS lD)
  unfold av at HA HB
  unfold kv
  have hkb : kby k = (aby k.src ++ aby k.dst) ++ [k.pr, k.sp / 256, k.sp % 256, k.dp / 256, k.dp % 256] := by
    unfold kby
    rw [be_two, be_two, Nat.mod_eq_of_lt (show k.sp / 256 < 256 by omega), Nat.mod_eq_of_lt (show k.dp / 256 < 256 by omega)]
    simp
  rw [hkb]
  clear hw1 k1 b1 s1 f1 lS lD hkb hk
  generalize kvc k = C at *
  go_enter Try.func17, Try.ntmps17
  go_wp2_with (first
    | (with_reducible rw [← HW.out]; refine wpList_load_mid rfl 24 _ rfl w.heap.size 0 rfl (adc k.src) _ HF.out.src Try.underlying24 rfl HZS.out ?_))
  refine HA.out.mono ?_
  rintro e w2 ⟨v1, rfl, y1⟩
  have HB1 := HB w2 v1 y1
  have HF2 := Lib.hid (HF.out.keeps HK.out (y1.keep (fun _ => False)) (fun z => z))
  clear y1 HB HA
  go_wp2_with (first
    | (refine wpList_load_mid rfl 24 _ rfl w.heap.size 17 rfl (adc k.dst) _ HF2.out.dst Try.underlying24 rfl HZD.out ?_))
  refine HB1.out.mono ?_
  rintro e w3 ⟨v2, rfl, y2⟩
  have HF3 := Lib.hid (HF.out.keeps HK.out (y2.keep (fun _ => False)) (fun z => z))
  have x34 := HF3.out.pr
  have x35 := HF3.out.sp
  have x36 := HF3.out.dp
  rw [Nat.zero_add] at x34 x35 x36
  have Y2 := Lib.hid (y2.base K1.out)
  have HLL := Lib.hid (show (aby k.src ++ aby k.dst).length = 34 from by rw [List.length_append, HL.out.1, HL.out.2])
  have RD := Lib.hid (five_rd w3 k.pr (k.sp / 256) (k.sp % 256) (k.dp / 256) (k.dp % 256))
  have q1 : (Int.tdiv (k.sp : Int) 256) = ((k.sp / 256 : Nat) : Int) := by rw [Int.tdiv_eq_ediv_of_nonneg (by omega)]; omega
  have q2 : (Int.tmod (k.sp : Int) 256) = ((k.sp % 256 : Nat) : Int) := by rw [Int.tmod_eq_emod_of_nonneg (by omega)]; omega
  have q3 : (Int.tdiv (k.dp : Int) 256) = ((k.dp / 256 : Nat) : Int) := by rw [Int.tdiv_eq_ediv_of_nonneg (by omega)]; omega
  have q4 : (Int.tmod (k.dp : Int) 256) = ((k.dp % 256 : Nat) : Int) := by rw [Int.tmod_eq_emod_of_nonneg (by omega)]; omega
  clear y2 HB1 HF2 HF3
  go_wp2_with (at_builtin; refine By.wpList_append rfl _ _ rfl (Y2.out.alloc _) rfl (some ⟨w3.heap.size, 0, none⟩) 5 5 _ [k.pr, k.sp / 256, k.sp % 256, k.dp / 256, k.dp % 256] rfl rfl RD.out (by rw [HLL.out]; omega) ?_; intro v4 w4 y4 k4; have Y4 := Lib.hid y4; clear y4 k4)
  try rw [Exit.noGoto_ret]
  go_ret
  exact ⟨_, rfl, Y4.out⟩
set_option maxRecDepth 100000 in
set_option maxHeartbeats 2000000 in
theorem rhash_ (k : Ky) (hk : k.Wf) : Calls Try.prog 19 #[kv k] w fun e w' => e = .returned (.int .u64 (khash k : Nat)) ∧ ∀ S, Keeps S w w' := by
  obtain ⟨w1, hw1, k1, b1, s1⟩ := box1 w (kvc k) 31
  have HRG := Lib.hid (Blk.range b1)
  have HSZ := Lib.hid (key_sz hk)
  have HB := fun w => Lib.hid (rbytes_ w k hk)
  have HL := Lib.hid (kby_len hk)
  have hs := kby_small hk
  have HW := Lib.hid hw1
  have K1 : Hid (∀ S, Keeps S w w1) := Lib.hid k1
  unfold kv at HB ⊢
  unfold khash
  clear hw1 k1 b1 s1 hk
  generalize kvc k = C at *
  generalize kby k = bs at *
  go_enter Try.func19, Try.ntmps19
  go_wp2_with (first
    | (with_reducible rw [← HW.out]; refine wpList_load_mid rfl 31 _ rfl w.heap.size 0 rfl C _ HRG.out Try.underlying31 rfl HSZ.out ?_))
  refine (HB _).out.mono ?_
  rintro e w2 ⟨v1, rfl, y1⟩
  obtain ⟨A, c, rfl, hr⟩ := y1.rd
  rw [HL.out]
  have K2 : Hid (∀ S, Keeps S w w2) := Lib.hid (fun S => (K1.out S).trans (y1.keep S))
  clear y1 HB HSZ HRG
  go_wp2_with fail
  go_loop [3, 5] (fun t i => ∃ k : Nat, k ≤ 39 ∧ i = .int .i64 k ∧ t = .int .u64 (fnv (bs.take k) : Nat)) (fun _ i => 39 - (intOf i).toNat)
  case atStart => exact ⟨0, Nat.zero_le _, rfl, rfl⟩
  case round =>
    obtain ⟨k, hk, rfl, rfl⟩ := hrel
    by_cases hlt : k < 39
    · have hx := getq (bs := bs) (k := k) (by rw [HL.out]; exact hlt)
      obtain ⟨b, o, rfl, hb, hc⟩ := hr.byte hx
      have hx8 := hs.at_ hx
      have hsn : fnv (bs.take (k + 1)) = hstep (fnv (bs.take k)) (bs.getD k 0) := by rw [take_snoc hx, fnv_snoc]
      have ht := fnv_lt (bs.take k)
      have HN := Lib.hid hsn
      clear hsn hx
      generalize fnv (bs.take k) = q at *
      generalize bs.getD k 0 = x at *
      have ex := u64_xor_nat q x ht (by omega)
      go_wp2
      go_round
      case rel => exact ⟨k + 1, by omega, by go_num, by rw [HN.out, ← hstep_int]⟩
      case measure => simp [intOf]; omega
    · go_wp2
      go_ret
      exact ⟨ret_int (by rw [List.take_of_length_le (by rw [HL.out]; omega)]), K2.out⟩
end
end Go.Proofs.Ytdnddlmlbnachaa.fw
