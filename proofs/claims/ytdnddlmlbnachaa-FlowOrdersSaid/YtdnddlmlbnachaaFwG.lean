/-
  flow.Back; the document's own Back.
-/
import Derived.Test.YtdnddlmlbnachaaFwF
set_option linter.unusedVariables false
set_option linter.unusedSimpArgs false
namespace Go.Proofs.Ytdnddlmlbnachaa.fw
open Go.RowKit Go.Proofs.Ytdnddlmlbnachaa.oc Go.Proofs.Ytdnddlmlbnachaa.mz Go.Proofs.Ytdnddlmlbnachaa.pf Go.Proofs.Ytdnddlmlbnachaa.wh Go.Proofs.Ytdnddlmlbnachaa.qk Go.Proofs.Ytdnddlmlbnachaa.bys
theorem close_key (w : World) (k : Ky) (hk : k.Wf) (w5 : World) (b1 : Blk w5 (w.heap.size + 1) 31 [.bool false, .int .u8 0, .int .u8 0, .int .u8 0, .int .u8 0, .int .u8 0, .int .u8 0, .int .u8 0, .int .u8 0, .int .u8 0, .int .u8 0, .int .u8 0, .int .u8 0, .int .u8 0, .int .u8 0, .int .u8 0, .int .u8 0, .bool false, .int .u8 0, .int .u8 0, .int .u8 0, .int .u8 0, .int .u8 0, .int .u8 0, .int .u8 0, .int .u8 0, .int .u8 0, .int .u8 0, .int .u8 0, .int .u8 0, .int .u8 0, .int .u8 0, .int .u8 0, .int .u8 0, .int .u8 0, .int .u16 0, .int .u16 0]) (kk : Keeps (fun x => w.heap.size ≤ x) w w5) : w5.there (w.heap.size + 1) 0 (kvc k).toArray.size ∧ Blk (w5.setCells (w.heap.size + 1) 0 (kvc k)) (w.heap.size + 1) 31 (kvc k) ∧ ∀ S, Keeps S w (w5.setCells (w.heap.size + 1) 0 (kvc k)) := of_close w k hk w w5 b1 kk
section
variable (w : World)
set_option maxRecDepth 100000 in
set_option maxHeartbeats 4000000 in
theorem pback_ (k : Ky) (hk : k.Wf) : Calls Try.prog 12 #[kv k] w fun e w' => e = .returned (kv (kback k)) ∧ ∀ S, Keeps S w w' := by
  obtain ⟨w1, hw1, k1, b0, b1, s1⟩ := box2 w (kvc k) [.bool false, .int .u8 0, .int .u8 0, .int .u8 0, .int .u8 0, .int .u8 0, .int .u8 0, .int .u8 0, .int .u8 0, .int .u8 0, .int .u8 0, .int .u8 0, .int .u8 0, .int .u8 0, .int .u8 0, .int .u8 0, .int .u8 0, .bool false, .int .u8 0, .int .u8 0, .int .u8 0, .int .u8 0, .int .u8 0, .int .u8 0, .int .u8 0, .int .u8 0, .int .u8 0, .int .u8 0, .int .u8 0, .int .u8 0, .int .u8 0, .int .u8 0, .int .u8 0, .int .u8 0, .int .u8 0, .int .u16 0, .int .u16 0] 31 31
  have f1 : KF w1 w.heap.size 0 k := KF.of_range hk (Blk.range b0)
  have lS := adc_len hk.s
  have lD := adc_len hk.d
  obtain ⟨t2, b2, k2⟩ := over_mid b0 0 (adc k.dst) (by rw [lD, kvc_len hk]; omega)
  have e2 : (kvc k).take 0 ++ adc k.dst ++ (kvc k).drop (0 + (adc k.dst).length) = kvc ⟨k.dst, k.dst, k.pr, k.sp, k.dp⟩ := by
    rw [lD, List.take_zero, List.nil_append]
    show adc k.dst ++ (adc k.src ++ _).drop (0 + 17) = _
    rw [Nat.zero_add, List.drop_left' lS]; rfl
  rw [e2] at b2
  obtain ⟨w2, hw2⟩ : ∃ w2, w2 = w1.setCells w.heap.size 0 (adc k.dst) := ⟨_, rfl⟩
  rw [← hw2] at b2 k2
  have hk2 : (⟨k.dst, k.dst, k.pr, k.sp, k.dp⟩ : Ky).Wf := ⟨hk.d, hk.d, hk.p, hk.sl, hk.dl⟩
  obtain ⟨t3, b3, k3⟩ := over_mid b2 17 (adc k.src) (by rw [lS, kvc_len hk2]; omega)
  have e3 : (kvc ⟨k.dst, k.dst, k.pr, k.sp, k.dp⟩).take 17 ++ adc k.src ++ (kvc ⟨k.dst, k.dst, k.pr, k.sp, k.dp⟩).drop (17 + (adc k.src).length) = kvc ⟨k.dst, k.src, k.pr, k.sp, k.dp⟩ := by
    rw [kvc_src hk2, lS, kvc_rest hk2, List.append_assoc]; rfl
  rw [e3] at b3
  obtain ⟨w3, hw3⟩ : ∃ w3, w3 = w2.setCells w.heap.size 17 (adc k.src) := ⟨_, rfl⟩
  rw [← hw3] at b3 k3
  have hk3 : (⟨k.dst, k.src, k.pr, k.sp, k.dp⟩ : Ky).Wf := ⟨hk.d, hk.s, hk.p, hk.sl, hk.dl⟩
  have x35 := b3.cell 35
  rw [kvc_sp hk3] at x35
  have x36 := b3.cell 36
  rw [kvc_dp hk3] at x36
  have z35 := b3.frozen 35
  have b4 := b3.put 35 (.int .u16 (k.dp : Int))
  rw [show (kvc ⟨k.dst, k.src, k.pr, k.sp, k.dp⟩).set 35 (.int .u16 (k.dp : Int)) = kvc ⟨k.dst, k.src, k.pr, k.dp, k.dp⟩ from kvc_set_sp hk3 k.dp] at b4
  have hk4 : (⟨k.dst, k.src, k.pr, k.dp, k.dp⟩ : Ky).Wf := ⟨hk.d, hk.s, hk.p, hk.dl, hk.dl⟩
  have k4 : Keeps (· = w.heap.size) w3 (w3.setCell ⟨w.heap.size, 35, none⟩ (.int .u16 (k.dp : Int))) := (Keeps.refl (· = w.heap.size) w3).setCell (p := ⟨w.heap.size, 35, none⟩) (.inl rfl) _
  have y36 := b4.cell 36
  rw [kvc_dp hk4] at y36
  have z36 := b4.frozen 36
  have b5 := b4.put 36 (.int .u16 (k.sp : Int))
  rw [show (kvc ⟨k.dst, k.src, k.pr, k.dp, k.dp⟩).set 36 (.int .u16 (k.sp : Int)) = kvc (kback k) from kvc_set_dp hk4 k.sp] at b5
  have k5 : Keeps (· = w.heap.size) (w3.setCell ⟨w.heap.size, 35, none⟩ (.int .u16 (k.dp : Int))) ((w3.setCell ⟨w.heap.size, 35, none⟩ (.int .u16 (k.dp : Int))).setCell ⟨w.heap.size, 36, none⟩ (.int .u16 (k.sp : Int))) := (Keeps.refl (· = w.heap.size) _).setCell (p := ⟨w.heap.size, 36, none⟩) (.inl rfl) _
  have kk : Keeps (· = w.heap.size) w1 _ := ((k2.trans k3).trans k4).trans k5
  have b15 := Blk.keeps b1 kk (by omega)
  obtain ⟨t6, b6, kk6⟩ := close_key w (kback k) hk.back _ b15 ((k1 _).trans (kk.mono (fun x _ e => by omega)))
  have HRG := Lib.hid (Blk.range b5)
  have HF := Lib.hid f1
  have HZS := Lib.hid (ad_sz hk.s)
  have HZD := Lib.hid (ad_sz hk.d)
  have HZS' := Lib.hid (show (Try.prog.info? 24).map (·.size) = some (adc k.src).toArray.size from by rw [List.size_toArray]; exact ad_sz hk.s)
  have HZD' := Lib.hid (show (Try.prog.info? 24).map (·.size) = some (adc k.dst).toArray.size from by rw [List.size_toArray]; exact ad_sz hk.d)
  have HOS := Lib.hid (all_oneCell_toArray (adc_one k.src))
  have HOD := Lib.hid (all_oneCell_toArray (adc_one k.dst))
  have HZK := Lib.hid (key_sz hk.back)
  have HZT := Lib.hid (show (Try.prog.info? 31).map (·.size) = some (kvc (kback k)).toArray.size from by rw [List.size_toArray]; exact key_sz hk.back)
  have HOK := Lib.hid (all_oneCell_toArray (kvc_one (kback k)))
  have HW1 := Lib.hid hw1
  have HW2 := Lib.hid hw2
  have HW3 := Lib.hid hw3
  have HT2 := Lib.hid t2
  have HT3 := Lib.hid t3
  have HT6 := Lib.hid t6
  have HB6 := Lib.hid b6
  have HK6 := Lib.hid kk6
  unfold kv
  clear hw1 k1 b0 b1 s1 f1 lS lD t2 b2 k2 e2 hw2 hk2 t3 b3 e3 k3 hw3 hk3 b4 hk4 k4 b5 k5 kk b15 t6 b6 kk6 hk
  generalize kvc k = C at *
  go_enter Try.func12, Try.ntmps12
  go_wp2_with (first
    | ((try with_reducible rw [← HW1.out]); refine wpList_load_mid rfl 24 _ rfl w.heap.size 17 rfl (adc k.dst) _ HF.out.dst Try.underlying24 rfl HZD.out ?_)
    | (refine wpList_load_mid rfl 24 _ rfl w.heap.size 0 rfl (adc k.src) _ HF.out.src Try.underlying24 rfl HZS.out ?_)
    | (refine' wpList_store_mid rfl 24 _ _ rfl w.heap.size 0 (adc k.dst).toArray ?hx rfl ?ht HZD'.out HOD.out ?_; (case hx => rfl); (case ht => exact HT2.out); rw [← HW2.out])
    | (refine' wpList_store_mid rfl 24 _ _ rfl w.heap.size 17 (adc k.src).toArray ?hx rfl ?ht HZS'.out HOS.out ?_; (case hx => rfl); (case ht => exact HT3.out); rw [← HW3.out])
    | (refine wpList_load_mid rfl 31 _ rfl w.heap.size 0 rfl (kvc (kback k)) _ HRG.out Try.underlying31 rfl HZK.out ?_)
    | (refine' wpList_store_mid rfl 31 _ _ rfl (w.heap.size + 1) 0 (kvc (kback k)).toArray ?hx rfl ?ht HZT.out HOK.out ?_; (case hx => rfl); (case ht => exact HT6.out)))
  try rw [Exit.noGoto_ret]
  refine bodyPost_ret (results_cell_row (p := 2) (ty := 31) (by kernel_rfl) _ _ (w.heap.size + 1) _ _ _ _ (by rfl) HB6.out Try.underlying31 rfl HZT.out) rfl ?_
  exact ⟨rfl, HK6.out⟩
set_option maxRecDepth 100000 in
set_option maxHeartbeats 4000000 in
theorem rback_ (k : Ky) (hk : k.Wf) : Calls Try.prog 13 #[kv k] w fun e w' => e = .returned (kv (kback k)) ∧ ∀ S, Keeps S w w' := by
  obtain ⟨w1, hw1, k1, b0, b1, s1⟩ := box2 w (kvc k) [.bool false, .int .u8 0, .int .u8 0, .int .u8 0, .int .u8 0, .int .u8 0, .int .u8 0, .int .u8 0, .int .u8 0, .int .u8 0, .int .u8 0, .int .u8 0, .int .u8 0, .int .u8 0, .int .u8 0, .int .u8 0, .int .u8 0, .bool false, .int .u8 0, .int .u8 0, .int .u8 0, .int .u8 0, .int .u8 0, .int .u8 0, .int .u8 0, .int .u8 0, .int .u8 0, .int .u8 0, .int .u8 0, .int .u8 0, .int .u8 0, .int .u8 0, .int .u8 0, .int .u8 0, .int .u8 0, .int .u16 0, .int .u16 0] 31 31
  have f1 : KF w1 w.heap.size 0 k := KF.of_range hk (Blk.range b0)
  have x34 := f1.pr
  have x35 := f1.sp
  have x36 := f1.dp
  rw [Nat.zero_add] at x34 x35 x36
  obtain ⟨t6, b6, kk6⟩ := close_key w (kback k) hk.back w1 b1 (k1 _)
  have HF := Lib.hid f1
  have HZS := Lib.hid (ad_sz hk.s)
  have HZD := Lib.hid (ad_sz hk.d)
  have HZT := Lib.hid (show (Try.prog.info? 31).map (·.size) = some (kvc (kback k)).toArray.size from by rw [List.size_toArray]; exact key_sz hk.back)
  have HOK := Lib.hid (all_oneCell_toArray (kvc_one (kback k)))
  have HBT : Hid (Try.prog.built 31 [(0, .agg (adc k.dst).toArray), (1, .agg (adc k.src).toArray), (2, .int .u8 (k.pr : Int)), (3, .int .u16 (k.dp : Int)), (4, .int .u16 (k.sp : Int))] = some (kvc (kback k)).toArray) := Lib.hid (built5 hk.back)
  have HW1 := Lib.hid hw1
  have HT6 := Lib.hid t6
  have HB6 := Lib.hid b6
  have HK6 := Lib.hid kk6
  unfold kv
  clear hw1 k1 b0 b1 s1 f1 t6 b6 kk6 hk
  rw [HW1.out] at x34 x35 x36
  generalize kvc k = C at *
  go_enter Try.func13, Try.ntmps13
  go_wp2_with (first
    | (refine wpList_load_mid rfl 24 _ rfl w.heap.size 17 rfl (adc k.dst) _ (HW1.out ▸ HF.out.dst) Try.underlying24 rfl HZD.out ?_)
    | (refine wpList_load_mid rfl 24 _ rfl w.heap.size 0 rfl (adc k.src) _ (HW1.out ▸ HF.out.src) Try.underlying24 rfl HZS.out ?_)
    | ((with_reducible show wpList _ _ _ (⟨some 13, _, _, _, _, _⟩ :: _) _ _); refine' wpList_build rfl 31 _ rfl [(0, .agg (adc k.dst).toArray), (1, .agg (adc k.src).toArray), (2, .int .u8 (k.pr : Int)), (3, .int .u16 (k.dp : Int)), (4, .int .u16 (k.sp : Int))] ?hp _ HBT.out ?_; (case hp => rfl))
    | ((try with_reducible rw [← HW1.out]); refine' wpList_store_mid rfl 31 _ _ rfl (w.heap.size + 1) 0 (kvc (kback k)).toArray ?hx rfl ?ht HZT.out HOK.out ?_; (case hx => rfl); (case ht => exact HT6.out)))
  try rw [Exit.noGoto_ret]
  refine bodyPost_ret (results_cell_row (p := 2) (ty := 31) (by kernel_rfl) _ _ (w.heap.size + 1) _ _ _ _ (by rfl) HB6.out Try.underlying31 rfl HZT.out) rfl ?_
  exact ⟨rfl, HK6.out⟩
end
end Go.Proofs.Ytdnddlmlbnachaa.fw

