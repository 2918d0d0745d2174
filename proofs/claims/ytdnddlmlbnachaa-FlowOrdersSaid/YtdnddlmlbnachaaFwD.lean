/-
  flow: Bytes, Hash.
-/
import Derived.Test.YtdnddlmlbnachaaFwC
set_option linter.unusedVariables false
set_option linter.unusedSimpArgs false
namespace Go.Proofs.Ytdnddlmlbnachaa.fw
open Go.RowKit Go.Proofs.Ytdnddlmlbnachaa.oc Go.Proofs.Ytdnddlmlbnachaa.mz Go.Proofs.Ytdnddlmlbnachaa.pf Go.Proofs.Ytdnddlmlbnachaa.wh Go.Proofs.Ytdnddlmlbnachaa.qk Go.Proofs.Ytdnddlmlbnachaa.bys
theorem keeps_of_below {w w' : World} (h : Below w.heap.size w w') (S : Nat → Prop) : Keeps S w w' := ⟨h.size, fun b hb _ => h.block b hb, h.os, h.tape, h.output⟩
theorem one_rd (w : World) (x : Nat) : Rd (w.alloc (.cells #[.int .u8 (x : Int)] 5)) (w.heap.size + 1) (some ⟨w.heap.size, 0, none⟩) (by_ [x]) := by
  have := (Blk.new w 5 #[.int .u8 (x : Int)]).rd
  simpa [by_] using this
section
variable (w : World)
set_option maxRecDepth 100000 in
set_option maxHeartbeats 2000000 in
theorem bytes_ (k : Ky) (hk : k.Wf) : Calls Try.prog 15 #[kv k] w fun e w' => ∃ v, e = .returned v ∧ By w w' v (kby k) := by
  obtain ⟨w1, hw1, k1, b1, s1⟩ := box1 w (kvc k) 31
  have f1 : KF w1 w.heap.size 0 k := KF.of_range hk (Blk.range b1)
  have HZS := Lib.hid (ad_sz hk.s)
  have HZD := Lib.hid (ad_sz hk.d)
  have HA := fun w => Lib.hid (addrbytes_ w k.src hk.s)
  have HB := fun w => Lib.hid (addrbytes_ w k.dst hk.d)
  have lS := aby_len hk.s
  have lD := aby_len hk.d
  have hsp := hk.sl
  have hdp := hk.dl
  have HK := Lib.hid hk
  have HW := Lib.hid hw1
  have K1 : Hid (∀ S, Keeps S w w1) := Lib.hid k1
  have HS := Lib.hid s1
  have HF := Lib.hid f1
  have HL := Lib.hid (And.intro lS lD)
  unfold av at HA HB
  unfold kv
  have hkb : kby k = aby k.src ++ aby k.dst ++ [k.pr] ++ be 2 k.sp ++ be 2 k.dp := rfl
  rw [hkb]
  clear hw1 k1 b1 s1 f1 lS lD hkb hk
  generalize kvc k = C at *
  go_enter Try.func15, Try.ntmps15
  go_wp2_with (first
    | (with_reducible rw [← HW.out]; refine wpList_load_mid rfl 24 _ rfl w.heap.size 0 rfl (adc k.src) _ HF.out.src Try.underlying24 rfl HZS.out ?_))
  refine (HA _).out.mono ?_
  rintro e w2 ⟨v1, rfl, y1⟩
  have Y1 := Lib.hid y1
  have HF2 := Lib.hid (HF.out.keeps HK.out (y1.keep (fun _ => False)) (fun z => z))
  have HX1 := Lib.hid (y1.apart (X := w.heap.size) (by rw [HS.out]; omega))
  clear y1
  go_wp2_with (first
    | (refine wpList_load_mid rfl 24 _ rfl w.heap.size 17 rfl (adc k.dst) _ HF2.out.dst Try.underlying24 rfl HZD.out ?_))
  refine (HB _).out.mono ?_
  rintro e w3 ⟨v2, rfl, y2⟩
  obtain ⟨A2, c2, rfl, r2⟩ := y2.rd
  rw [HL.out.2]
  have Y1' := Lib.hid (Y1.out.grown y2.keep)
  have HF3 := Lib.hid (HF2.out.keeps HK.out (y2.keep (fun _ => False)) (fun z => z))
  have R2 := Lib.hid r2
  clear y2 r2
  go_wp2_with (first
    | (at_builtin; refine By.wpList_append rfl _ _ rfl Y1'.out rfl A2 17 c2 _ (aby k.dst) rfl HL.out.2 R2.out (by rw [HL.out.1]; omega) ?_; intro v4 w4 y4 k4; have Y4 := Lib.hid y4; have HF4 := Lib.hid (HF3.out.keeps HK.out k4 HX1.out); have x4 := HF4.out.pr; rw [Nat.zero_add] at x4; have HX4 := Lib.hid (Y4.out.apart (X := w.heap.size) (by rw [HS.out]; omega)); have HLL := Lib.hid (show (aby k.src ++ aby k.dst).length = 34 from by rw [List.length_append, HL.out.1, HL.out.2]); have RD := Lib.hid (one_rd w4 k.pr); clear y4 k4)
    | (at_builtin; refine By.wpList_append rfl _ _ rfl (Y4.out.alloc _) rfl (some ⟨w4.heap.size, 0, none⟩) 1 1 _ [k.pr] rfl rfl RD.out (by rw [HLL.out]; omega) ?_; intro v5 w5 y5 k5; have Y5 := Lib.hid y5; have HF5 := Lib.hid ((HF4.out.keeps HK.out ((Keeps.refl (fun _ => False) w4).alloc _) (fun z => z)).keeps HK.out k5 HX4.out); have x5 := HF5.out.sp; rw [Nat.zero_add] at x5; clear y5 k5))
  have hL5 : (aby k.src ++ aby k.dst ++ [k.pr]).length = 35 := by rw [List.length_append, HLL.out]; rfl
  have kk5 := Y5.out.keep
  obtain ⟨A5, c5, rfl, r5⟩ := Y5.out.rd
  rw [hL5]
  have HP5 := Lib.hid (put16_any A5 (aby k.src ++ aby k.dst ++ [k.pr]) 35 c5 _ k.sp w5 hL5 (by omega) hsp r5 (Nat.le_refl _))
  have KK5 : Hid (∀ S, Keeps S w1 w5) := Lib.hid kk5
  clear x4 RD Y4 Y5 HF4 r5 kk5
  go_wp2_with fail
  refine HP5.out.mono ?_
  rintro e w6 ⟨rfl, b6, l6⟩
  have HF6 := Lib.hid (HF5.out.keeps HK.out (keeps_of_below l6 (fun _ => False)) (fun z => z))
  have x6 := HF6.out.dp
  rw [Nat.zero_add] at x6
  have HP6 := Lib.hid (put16_any (some ⟨w5.heap.size, 0, none⟩) (aby k.src ++ aby k.dst ++ [k.pr] ++ be 2 k.sp) 37 37 _ k.dp w6 (by rw [List.length_append, hL5, be_length]) (by omega) hdp b6.rd b6.lt)
  have KK6 : Hid (∀ S, Keeps S w w6) := Lib.hid (fun S => ((K1.out S).trans (KK5.out S)).trans (keeps_of_below l6 S))
  have HL5 := Lib.hid hL5
  clear x5 b6 l6 hL5
  go_wp2_with fail
  refine HP6.out.mono ?_
  rintro e w7 ⟨rfl, b7, l7⟩
  have KK7 : Hid (∀ S, Keeps S w w7) := Lib.hid (fun S => (KK6.out S).trans (keeps_of_below l7 S))
  have B7 := Lib.hid b7
  clear x6 b7 l7
  go_wp2
  try rw [Exit.noGoto_ret]
  go_ret
  exact ⟨_, rfl, By.of_blk B7.out (by rw [List.length_append, List.length_append, HL5.out, be_length, be_length]) (KK6.out (fun _ => False)).size (by omega) KK7.out⟩
set_option maxRecDepth 100000 in
set_option maxHeartbeats 2000000 in
theorem hash_ (k : Ky) (hk : k.Wf) : Calls Try.prog 18 #[kv k] w fun e w' => e = .returned (.int .u64 (khash k : Nat)) ∧ ∀ S, Keeps S w w' := by
  obtain ⟨w1, hw1, k1, b1, s1⟩ := box1 w (kvc k) 31
  have HRG := Lib.hid (Blk.range b1)
  have HSZ := Lib.hid (key_sz hk)
  have HB := fun w => Lib.hid (bytes_ w k hk)
  have HL := Lib.hid (kby_len hk)
  have HSM := Lib.hid (kby_small hk)
  have HW := Lib.hid hw1
  have K1 : Hid (∀ S, Keeps S w w1) := Lib.hid k1
  unfold kv at HB ⊢
  unfold khash
  clear hw1 k1 b1 s1 hk
  generalize kvc k = C at *
  generalize kby k = bs at *
  go_enter Try.func18, Try.ntmps18
  go_wp2_with (first
    | (with_reducible rw [← HW.out]; refine wpList_load_mid rfl 31 _ rfl w.heap.size 0 rfl C _ HRG.out Try.underlying31 rfl HSZ.out ?_))
  refine (HB _).out.mono ?_
  rintro e w2 ⟨v1, rfl, y1⟩
  obtain ⟨A, c, rfl, r1⟩ := y1.rd
  rw [HL.out]
  have K2 : Hid (∀ S, Keeps S w w2) := Lib.hid (fun S => (K1.out S).trans (y1.keep S))
  have hpt : Pt (w2.alloc (.cells #[.slice A 39 c] 27)) (w2.heap.size + 1) (some ⟨w2.heap.size, 0, none⟩) [bs] := fun j b hj => by
    have hB := Blk.new w2 27 #[.slice A 39 c]
    obtain ⟨rfl, hbb⟩ : j = 0 ∧ b = bs := by
      cases j with
      | zero => simpa using hj.symm
      | succ j => simp at hj
    rw [hbb]
    refine ⟨w2.heap.size, 0, A, c, rfl, by omega, ?_, (r1.alloc (Nat.le_refl _) _).more (by omega)⟩
    rw [hB.cell, HL.out]; rfl
  have HH := Lib.hid (hash_any (some ⟨w2.heap.size, 0, none⟩) [bs] 1 1 _ (w2.alloc (.cells #[.slice A 39 c] 27)) rfl (by omega) (by rw [show ([bs] : List (List Nat)).flatten = bs from by simp, HL.out]; omega) (fun b hb => by rw [List.mem_singleton.1 hb]; exact HSM.out) hpt)
  rw [show ([bs] : List (List Nat)).flatten = bs from by simp] at HH
  clear hpt r1 y1
  go_wp2_with fail
  refine HH.out.mono ?_
  rintro e w3 ⟨rfl, rfl⟩
  go_wp2
  try rw [Exit.noGoto_ret]
  go_ret
  exact ⟨rfl, fun S => (K2.out S).alloc _⟩
end
end Go.Proofs.Ytdnddlmlbnachaa.fw
