/-
  patchbayref16.Fit, walked.
-/
import Derived.Test.YtidengmcbppcoaaPlM
set_option linter.unusedVariables false
set_option linter.unusedSimpArgs false
namespace Go.Proofs.Ytidengmcbppcoaa.pk
open Go.RowKit Go.Proofs.Ytidengmcbppcoaa.oc Go.Proofs.Ytidengmcbppcoaa.mz Go.Proofs.Ytidengmcbppcoaa.pf Go.Proofs.Ytidengmcbppcoaa.wh Go.Proofs.Ytidengmcbppcoaa.qk Go.Proofs.Ytidengmcbppcoaa.bys
/-- what Make answers -/
noncomputable def mk (h : Hd) : List Nat := if chkE h = 0 then make h else []
/-- with a TTL one less -/
def less (h : Hd) : Hd := ⟨h.src, h.dst, h.pr, h.sp, h.dp, h.ttl - 1, h.cls, h.id, h.fl, h.seq, h.dat⟩
/-- what Older answers -/
noncomputable def old (l : List Nat) : List Nat × Int := if (rdd l).2.2 ≠ 0 then ([], (rdd l).2.2) else if (rdd l).1.ttl = 0 then ([], 3) else (mk (less (rdd l).1), chkE (less (rdd l).1))
theorem less_wf {h : Hd} (hw : h.Wf) : (less h).Wf := ⟨hw.s, hw.d, hw.p, hw.sl, hw.dl, Nat.lt_of_le_of_lt (Nat.sub_le _ _) hw.t, hw.c, hw.i, hw.f, hw.q, hw.b⟩
theorem rdd_dat_le (l : List Nat) {n : Nat} (hl : l.length = n) : (rdd l).1.dat.length ≤ 2048 := by
  have hr : ∀ (h : Hd) (m : List Nat), (rdR h m).1.dat.length ≤ m.length := fun h m => by
    unfold rdR
    split
    · unfold rdT
      repeat' split
      all_goals first | exact Nat.zero_le _ | (show (m.drop 20).length ≤ _; rw [List.length_drop]; omega)
    · split
      · unfold rdU
        repeat' split
        all_goals first | exact Nat.zero_le _ | (show (m.drop 8).length ≤ _; rw [List.length_drop]; omega)
      · exact Nat.le_refl _
  unfold rdd
  split
  · exact Nat.zero_le _
  · rename_i he
    split
    · exact Nat.zero_le _
    · refine Nat.le_trans (hr _ _) ?_
      have := (rdF_ok (Classical.not_not.1 he)).2.2.1
      unfold resto
      rw [List.length_take, List.length_drop]
      omega
section
variable (w : World)
theorem make_ (h : Hd) (A : Option Addr) (n c : Nat) (hw : h.Wf) (hl : h.dat.length = n) (hn : n ≤ 140737480000000) (hr : Rd w w.heap.size A (by_ h.dat)) :
    Calls Try.prog 16 #[hvv h (.slice A n c)] w fun e w' => ∃ v, e = .returned (.tuple #[v, .int .i64 (chkE h)]) ∧ By w w' v (mk h) := by
  by_cases hc : chkE h = 0
  · rw [show mk h = make h from if_pos hc, hc]
    rcases p_cases h.pr with e | e | ⟨h6, h7⟩
    · exact make_sum w h A n c hw hl hn hr hc (.inl e)
    · exact make_sum w h A n c hw hl hn hr hc (.inr e)
    · exact make_bare w h A n c hw hl hn hr hc ⟨h6, h7⟩
  · rw [show mk h = [] from if_neg hc]
    exact (make_no w h A n c hw hl hn hr hc).mono fun e w' ⟨he, k⟩ => ⟨.slice none 0 0, he, By.nil_ k⟩
def OA (w w' : World) (e : Ending) (x : List Nat × Int) : Prop := ∃ v, e = .returned (.tuple #[v, .int .i64 x.2]) ∧ By w w' v x.1
set_option maxRecDepth 100000 in
set_option maxHeartbeats 2000000 in
theorem old_e (A : Option Addr) (n c B : Nat) (l : List Nat) (hl : l.length = n) (hn : n ≤ 140737488355328) (hc : n ≤ c) (hc9 : c ≤ 9223372036854775807) (hs : Small l) (hr : Rd w B A (by_ l)) (hB : B ≤ w.heap.size) (he : (rdd l).2.2 ≠ 0) :
    Calls Try.prog 27 #[.slice A n c] w fun e w' => OA w w' e ([], (rdd l).2.2) := by
  have HRD := Lib.hid (read_ w A n c B l hl hn hc hc9 hs hr hB)
  have hxw := rdd_wf hs
  have hlen := rdd_dat_le l hl
  unfold RA at HRD
  obtain ⟨X, hX⟩ : ∃ X, X = rdd l := ⟨_, rfl⟩
  rw [← hX] at HRD hxw he hlen
  try rw [← hX]
  unfold OA
  have d1 : (X.2.2 != 0) = true := bne_iff_ne.2 he
  have HXW := Lib.hid hxw
  have HLE := Lib.hid hlen
  clear hX hxw hs hr hB hl hc hc9 hlen he
  go_enter Try.func27, Try.ntmps27
  go_wp2_with fail
  refine HRD.out.mono ?_
  rintro e w2 ⟨v, rfl, y⟩
  obtain ⟨A3, c3, rfl, r3⟩ := y.rd
  obtain ⟨m, hm⟩ : ∃ m, X.1.dat.length = m := ⟨_, rfl⟩
  rw [hm] at y ⊢
  obtain ⟨wz, hwz, kz, bz, sz⟩ := box1 w2 zhd 29
  dsimp only [zhd] at hwz
  obtain ⟨t3, b3, k3⟩ := p_store bz (cs := hcs X.1 (.slice A3 m c3)) (by rw [hcs_len HXW.out]; rfl)
  obtain ⟨w3, hw3⟩ : ∃ w3, w3 = wz.setCells w2.heap.size 0 (hcs X.1 (.slice A3 m c3)) := ⟨_, rfl⟩
  rw [← hw3] at b3 k3
  have k23 : ∀ S, Keeps S w2 w3 := keeps_own kz k3 (Nat.le_refl _)
  have HT3 := Lib.hid t3
  have HWZ := Lib.hid hwz
  have HW3 := Lib.hid hw3
  have HSZ := Lib.hid (hd_sz HXW.out (.slice A3 m c3))
  have HSO := Lib.hid (all_oneCell_toArray (hcs_one (h := X.1) (v := .slice A3 m c3) rfl))
  have KW3 : Hid (∀ S, Keeps S w w3) := Lib.hid (fun S => (y.keep S).trans (k23 S))
  have R3 : Hid (Rd w3 w2.heap.size A3 (by_ X.1.dat)) := Lib.hid (rd_old r3 (k23 _))
  have HM := Lib.hid hm
  have g37 := (HF.of_blk HXW.out b3).ttl
  have f37 : w3.frozen? ⟨w2.heap.size, 37, none⟩ = false := b3.frozen 37
  have HB3 := Lib.hid b3
  clear hwz kz bz sz t3 b3 k3 hw3 k23 r3 y hm
  go_wp2_with ((with_reducible show wpList _ _ _ (⟨none, .store _ (.tmp 4) _, _, _, _, _⟩ :: _) _ _); (try with_reducible rw [← HWZ.out]); refine' wpList_store_mid rfl 29 _ _ rfl w2.heap.size 0 (hcs X.1 (.slice A3 m c3)).toArray ?hx rfl ?ht HSZ.out HSO.out ?_; (case hx => rfl); (case ht => exact HT3.out); rw [← HW3.out])
  try rw [Exit.noGoto_ret]
  go_ret2
  exact ⟨_, rfl, By.nil_ KW3.out⟩
set_option maxRecDepth 100000 in
set_option maxHeartbeats 2000000 in
theorem old_t (A : Option Addr) (n c B : Nat) (l : List Nat) (hl : l.length = n) (hn : n ≤ 140737488355328) (hc : n ≤ c) (hc9 : c ≤ 9223372036854775807) (hs : Small l) (hr : Rd w B A (by_ l)) (hB : B ≤ w.heap.size) (he : (rdd l).2.2 = 0) (ht : (rdd l).1.ttl = 0) :
    Calls Try.prog 27 #[.slice A n c] w fun e w' => OA w w' e ([], 3) := by
  have HRD := Lib.hid (read_ w A n c B l hl hn hc hc9 hs hr hB)
  have hxw := rdd_wf hs
  have hlen := rdd_dat_le l hl
  unfold RA at HRD
  obtain ⟨X, hX⟩ : ∃ X, X = rdd l := ⟨_, rfl⟩
  rw [← hX] at HRD hxw he hlen ht
  try rw [← hX]
  unfold OA
  have d1 : (X.2.2 != 0) = false := by rw [he]; rfl
  have HXW := Lib.hid hxw
  have HLE := Lib.hid hlen
  clear hX hxw hs hr hB hl hc hc9 hlen he
  go_enter Try.func27, Try.ntmps27
  go_wp2_with fail
  refine HRD.out.mono ?_
  rintro e w2 ⟨v, rfl, y⟩
  obtain ⟨A3, c3, rfl, r3⟩ := y.rd
  obtain ⟨m, hm⟩ : ∃ m, X.1.dat.length = m := ⟨_, rfl⟩
  rw [hm] at y ⊢
  obtain ⟨wz, hwz, kz, bz, sz⟩ := box1 w2 zhd 29
  dsimp only [zhd] at hwz
  obtain ⟨t3, b3, k3⟩ := p_store bz (cs := hcs X.1 (.slice A3 m c3)) (by rw [hcs_len HXW.out]; rfl)
  obtain ⟨w3, hw3⟩ : ∃ w3, w3 = wz.setCells w2.heap.size 0 (hcs X.1 (.slice A3 m c3)) := ⟨_, rfl⟩
  rw [← hw3] at b3 k3
  have k23 : ∀ S, Keeps S w2 w3 := keeps_own kz k3 (Nat.le_refl _)
  have HT3 := Lib.hid t3
  have HWZ := Lib.hid hwz
  have HW3 := Lib.hid hw3
  have HSZ := Lib.hid (hd_sz HXW.out (.slice A3 m c3))
  have HSO := Lib.hid (all_oneCell_toArray (hcs_one (h := X.1) (v := .slice A3 m c3) rfl))
  have KW3 : Hid (∀ S, Keeps S w w3) := Lib.hid (fun S => (y.keep S).trans (k23 S))
  have R3 : Hid (Rd w3 w2.heap.size A3 (by_ X.1.dat)) := Lib.hid (rd_old r3 (k23 _))
  have HM := Lib.hid hm
  have g37 := (HF.of_blk HXW.out b3).ttl
  have f37 : w3.frozen? ⟨w2.heap.size, 37, none⟩ = false := b3.frozen 37
  have HB3 := Lib.hid b3
  rw [ht] at g37
  clear hwz kz bz sz t3 b3 k3 hw3 k23 r3 y hm ht
  go_wp2_with ((with_reducible show wpList _ _ _ (⟨none, .store _ (.tmp 4) _, _, _, _, _⟩ :: _) _ _); (try with_reducible rw [← HWZ.out]); refine' wpList_store_mid rfl 29 _ _ rfl w2.heap.size 0 (hcs X.1 (.slice A3 m c3)).toArray ?hx rfl ?ht HSZ.out HSO.out ?_; (case hx => rfl); (case ht => exact HT3.out); rw [← HW3.out])
  try rw [Exit.noGoto_ret]
  go_ret2
  exact ⟨_, rfl, By.nil_ KW3.out⟩
set_option maxRecDepth 100000 in
set_option maxHeartbeats 2000000 in
theorem old_ok (A : Option Addr) (n c B : Nat) (l : List Nat) (hl : l.length = n) (hn : n ≤ 140737488355328) (hc : n ≤ c) (hc9 : c ≤ 9223372036854775807) (hs : Small l) (hr : Rd w B A (by_ l)) (hB : B ≤ w.heap.size) (he : (rdd l).2.2 = 0) (ht : (rdd l).1.ttl ≠ 0) :
    Calls Try.prog 27 #[.slice A n c] w fun e w' => OA w w' e (mk (less (rdd l).1), chkE (less (rdd l).1)) := by
  have HRD := Lib.hid (read_ w A n c B l hl hn hc hc9 hs hr hB)
  have hxw := rdd_wf hs
  have hlen := rdd_dat_le l hl
  unfold RA at HRD
  obtain ⟨X, hX⟩ : ∃ X, X = rdd l := ⟨_, rfl⟩
  rw [← hX] at HRD hxw he hlen ht
  try rw [← hX]
  unfold OA
  have d1 : (X.2.2 != 0) = false := by rw [he]; rfl
  have HXW := Lib.hid hxw
  have HLE := Lib.hid hlen
  clear hX hxw hs hr hB hl hc hc9 hlen he
  go_enter Try.func27, Try.ntmps27
  go_wp2_with fail
  refine HRD.out.mono ?_
  rintro e w2 ⟨v, rfl, y⟩
  obtain ⟨A3, c3, rfl, r3⟩ := y.rd
  obtain ⟨m, hm⟩ : ∃ m, X.1.dat.length = m := ⟨_, rfl⟩
  rw [hm] at y ⊢
  obtain ⟨wz, hwz, kz, bz, sz⟩ := box1 w2 zhd 29
  dsimp only [zhd] at hwz
  obtain ⟨t3, b3, k3⟩ := p_store bz (cs := hcs X.1 (.slice A3 m c3)) (by rw [hcs_len HXW.out]; rfl)
  obtain ⟨w3, hw3⟩ : ∃ w3, w3 = wz.setCells w2.heap.size 0 (hcs X.1 (.slice A3 m c3)) := ⟨_, rfl⟩
  rw [← hw3] at b3 k3
  have k23 : ∀ S, Keeps S w2 w3 := keeps_own kz k3 (Nat.le_refl _)
  have HT3 := Lib.hid t3
  have HWZ := Lib.hid hwz
  have HW3 := Lib.hid hw3
  have HSZ := Lib.hid (hd_sz HXW.out (.slice A3 m c3))
  have HSO := Lib.hid (all_oneCell_toArray (hcs_one (h := X.1) (v := .slice A3 m c3) rfl))
  have KW3 : Hid (∀ S, Keeps S w w3) := Lib.hid (fun S => (y.keep S).trans (k23 S))
  have R3 : Hid (Rd w3 w2.heap.size A3 (by_ X.1.dat)) := Lib.hid (rd_old r3 (k23 _))
  have HM := Lib.hid hm
  have g37 := (HF.of_blk HXW.out b3).ttl
  have f37 : w3.frozen? ⟨w2.heap.size, 37, none⟩ = false := b3.frozen 37
  have HB3 := Lib.hid b3
  obtain ⟨tt, htt⟩ : ∃ tt, tt = X.1.ttl := ⟨_, rfl⟩
  have ht9 := HXW.out.t
  rw [← htt] at g37 ht ht9
  have d2 : ((tt : Int) == 0) = false := beq_eq_false_iff_ne.2 (by omega)
  obtain ⟨t1, ht1⟩ : ∃ t1, t1 = tt - 1 := ⟨_, rfl⟩
  have e1 : IntKind.u8.wrap ((tt : Int) - 1) = (t1 : Int) := by rw [IntKind.wrap_u8]; omega
  have e2 : ((tt : Int) - 1) % 256 = (t1 : Int) := by omega
  have b4 := st_ttl b3 HXW.out.s HXW.out.d t1
  have p4 := keeps_put (G := w2.heap.size) (Keeps.refl _ w3) 37 (.int .u8 (t1 : Int))
  obtain ⟨w4, hw4⟩ : ∃ w4, w4 = w3.setCell ⟨w2.heap.size, 37, none⟩ (.int .u8 (t1 : Int)) := ⟨_, rfl⟩
  rw [← hw4] at b4 p4
  have g4 : Blk w4 w2.heap.size 29 (hcs (less X.1) (.slice A3 m c3)) := by
    subst ht1 htt
    exact b4
  have kw4 : ∀ S, Keeps S w w4 := keeps_own KW3.out p4 (y.keep (fun _ => False)).size
  have r4 : Rd w4 w4.heap.size A3 (by_ (less X.1).dat) := (rd_put R3.out p4 (Nat.le_refl _)).more (by have := p4.size; have := b3.lt; omega)
  have HG4 := Lib.hid g4
  have HW4 := Lib.hid hw4
  have HSL := Lib.hid (hd_sz (less_wf HXW.out) (.slice A3 m c3))
  have HMK := Lib.hid (make_ w4 (less X.1) A3 m c3 (less_wf HXW.out) HM.out (by have := HLE.out; have := HM.out; omega) r4)
  have KW4 := Lib.hid kw4
  unfold hvv at HMK
  clear hw4 b4 p4 g4 kw4 r4 ht htt ht1
  clear hwz kz bz sz t3 b3 k3 hw3 k23 r3 y hm
  generalize hcs (less X.1) (.slice A3 m c3) = CL at *
  go_wp2_with (first
    | ((with_reducible show wpList _ _ _ (⟨none, .store _ (.tmp 4) _, _, _, _, _⟩ :: _) _ _); (try with_reducible rw [← HWZ.out]); refine' wpList_store_mid rfl 29 _ _ rfl w2.heap.size 0 (hcs X.1 (.slice A3 m c3)).toArray ?hx rfl ?ht HSZ.out HSO.out ?_; (case hx => rfl); (case ht => exact HT3.out); rw [← HW3.out])
    | ((with_reducible show wpList _ _ _ (⟨some 23, _, _, _, _, _⟩ :: _) _ _); (try rw [← HW4.out]); refine wpList_load_mid rfl 29 _ rfl w2.heap.size 0 rfl CL _ (Blk.range HG4.out) Try.underlying29 rfl HSL.out ?_))
  refine HMK.out.mono ?_
  rintro e w5 ⟨v5, rfl, y5⟩
  have Y5 := Lib.hid (y5.base KW4.out)
  clear y5
  go_wp2
  try rw [Exit.noGoto_ret]
  go_ret2
  exact ⟨v5, rfl, Y5.out⟩
theorem older_ (A : Option Addr) (n c B : Nat) (l : List Nat) (hl : l.length = n) (hn : n ≤ 140737488355328) (hc : n ≤ c) (hc9 : c ≤ 9223372036854775807) (hs : Small l) (hr : Rd w B A (by_ l)) (hB : B ≤ w.heap.size) : Calls Try.prog 27 #[.slice A n c] w fun e w' => OA w w' e (old l) := by
  unfold old
  split
  · rename_i he; exact old_e w A n c B l hl hn hc hc9 hs hr hB he
  · rename_i he
    split
    · rename_i ht; exact old_t w A n c B l hl hn hc hc9 hs hr hB (Classical.not_not.1 he) ht
    · rename_i ht; exact old_ok w A n c B l hl hn hc hc9 hs hr hB (Classical.not_not.1 he) ht
end
end Go.Proofs.Ytidengmcbppcoaa.pk
set_option linter.unusedVariables false
set_option linter.unusedSimpArgs false
namespace Go.Proofs.Ytidengmcbppcoaa.pk
open Go.RowKit Go.Proofs.Ytidengmcbppcoaa.oc Go.Proofs.Ytidengmcbppcoaa.mz Go.Proofs.Ytidengmcbppcoaa.pf Go.Proofs.Ytidengmcbppcoaa.wh Go.Proofs.Ytidengmcbppcoaa.qk Go.Proofs.Ytidengmcbppcoaa.bys
theorem st_shift (b : List Nat) : ∀ (s : Nat) (p : Bool), (b.foldl (fun s x => (s.1 + (if s.2 then x * 256 else x), !s.2)) (s, p)).1 = s + (b.foldl (fun s x => (s.1 + (if s.2 then x * 256 else x), !s.2)) (0, p)).1 := by
  induction b with
  | nil => intro s p; rfl
  | cons x r ih =>
    intro s p
    rw [List.foldl_cons, List.foldl_cons, ih (s + _), ih (0 + _)]
    simp only
    omega
theorem tot_append {a : List Nat} (h : a.length % 2 = 0) (b : List Nat) : tot (a ++ b) = tot a + tot b := by
  have e : st a = (tot a, true) := by
    have := st_even h
    unfold tot
    rw [← this]
  have e2 : st (a ++ b) = b.foldl (fun s x => (s.1 + (if s.2 then x * 256 else x), !s.2)) (st a) := by unfold st; rw [List.foldl_append]
  have e3 : tot (a ++ b) = (b.foldl (fun s x => (s.1 + (if s.2 then x * 256 else x), !s.2)) (st a)).1 := by rw [← e2]; rfl
  rw [e3, e, st_shift]
  rfl
/-- what stands behind the front -/
def bod (h : Hd) : List Nat := if sat h.pr = 0 then mid h ++ h.dat else fillp (mid h ++ h.dat) (sat h.pr) (sumv h (mid h ++ h.dat))
theorem bod_len (h : Hd) : (bod h).length = mids h.pr + h.dat.length := by
  unfold bod
  split
  · rw [List.length_append, mid_len]
  · unfold fillp; rw [List.length_set, List.length_set, List.length_append, mid_len]
theorem make_eq (h : Hd) : make h = front h (bod h).length ++ bod h := by
  unfold make
  rw [bod_len, mid_len]
  rfl
theorem be2 (v : Nat) : be 2 v = [v / 256 % 256, v % 256] := by simp [be]
theorem be4 (v : Nat) : be 4 v = [v / 16777216 % 256, v / 65536 % 256, v / 256 % 256, v % 256] := by simp [be]
theorem num_two (a b : Nat) : num [a, b] = a * 256 + b := by simp [num]
theorem num_four (a b c d : Nat) : num [a, b, c, d] = ((a * 256 + b) * 256 + c) * 256 + d := by simp [num]
theorem sumv_len {h : Hd} {l m : List Nat} (hl : l.length = m.length) (h1 : l.take (sat h.pr) = m.take (sat h.pr)) (h2 : l.drop (sat h.pr + 2) = m.drop (sat h.pr + 2)) : sumv h l = sumv h m := by
  have e : psum h l = psum h m := by unfold psum; rw [hl, h1, h2]
  unfold sumv
  rw [e]
theorem rest_tcp {h : Hd} (hw : h.Wf) (hp : h.pr = 6) : rdT (hfr h.src h.dst h.pr h.ttl h.cls h.id) (bod h) = (h, 0) := by
  obtain ⟨s, hs⟩ : ∃ s, s = sumv h (mid h ++ h.dat) := ⟨_, rfl⟩
  have hs9 : s < 65536 := by rw [hs]; exact sumv_lt _ _
  have eM : mid h = [h.sp / 256 % 256, h.sp % 256, h.dp / 256 % 256, h.dp % 256, h.seq / 16777216 % 256, h.seq / 65536 % 256, h.seq / 256 % 256, h.seq % 256, 0, 0, 0, 0, 80, h.fl, 255, 255, 0, 0, 0, 0] := by rw [mid6 hp, be2, be2, be4]; rfl
  have eB : bod h = h.sp / 256 % 256 :: h.sp % 256 :: h.dp / 256 % 256 :: h.dp % 256 :: h.seq / 16777216 % 256 :: h.seq / 65536 % 256 :: h.seq / 256 % 256 :: h.seq % 256 :: 0 :: 0 :: 0 :: 0 :: 80 :: h.fl :: 255 :: 255 :: s / 256 :: s % 256 :: 0 :: 0 :: h.dat := by
    unfold bod
    rw [← hs, hp, if_neg (by decide), eM]
    rfl
  have hk : kt (hfr h.src h.dst h.pr h.ttl h.cls h.id) (bod h) = h := by
    rw [eB]
    have h1 := hw.sl; have h2 := hw.dl; have h3 := hw.q
    refine Hd.eq_of rfl rfl rfl ?_ ?_ rfl rfl rfl rfl ?_ rfl
    · show num [h.sp / 256 % 256, h.sp % 256] = h.sp; rw [num_two]; omega
    · show num [h.dp / 256 % 256, h.dp % 256] = h.dp; rw [num_two]; omega
    · show num [h.seq / 16777216 % 256, h.seq / 65536 % 256, h.seq / 256 % 256, h.seq % 256] = h.seq; rw [num_four]; omega
  have hsum : sumv h (bod h) = s := by
    rw [hs]
    refine sumv_len ?_ ?_ ?_
    · rw [bod_len, List.length_append, mid_len]
    · rw [eB, hp, eM]; rfl
    · rw [eB, hp, eM]; rfl
  unfold rdT
  rw [hk, hsum, if_neg (by rw [bod_len, hp]; show ¬ 20 + _ < 20; omega), if_neg (by rw [eB, eM]; exact fun z => z rfl), if_neg (by rw [eB, eM]; exact fun z => z rfl), if_neg ?_]
  intro z
  apply z
  rw [eB]
  show num [s / 256, s % 256] = s
  rw [num_two]; omega
theorem rest_udp {h : Hd} (hw : h.Wf) (hp : h.pr = 17) (hf : h.fl = 0) (hq : h.seq = 0) (hl : h.dat.length ≤ 2048) : rdU (hfr h.src h.dst h.pr h.ttl h.cls h.id) (bod h) = (h, 0) := by
  obtain ⟨s, hs⟩ : ∃ s, s = sumv h (mid h ++ h.dat) := ⟨_, rfl⟩
  have hs9 : s < 65536 := by rw [hs]; exact sumv_lt _ _
  obtain ⟨n, hn⟩ : ∃ n, n = (8 + h.dat.length) % 65536 := ⟨_, rfl⟩
  have eM : mid h = [h.sp / 256 % 256, h.sp % 256, h.dp / 256 % 256, h.dp % 256, n / 256 % 256, n % 256, 0, 0] := by rw [mid17 hp, be2, be2, ← hn, be2]; rfl
  have eB : bod h = h.sp / 256 % 256 :: h.sp % 256 :: h.dp / 256 % 256 :: h.dp % 256 :: n / 256 % 256 :: n % 256 :: s / 256 :: s % 256 :: h.dat := by
    unfold bod
    rw [← hs, hp, if_neg (by decide), eM]
    rfl
  have hk : ku (hfr h.src h.dst h.pr h.ttl h.cls h.id) (bod h) = h := by
    rw [eB]
    have h1 := hw.sl; have h2 := hw.dl
    refine Hd.eq_of rfl rfl rfl ?_ ?_ rfl rfl rfl hf.symm hq.symm rfl
    · show num [h.sp / 256 % 256, h.sp % 256] = h.sp; rw [num_two]; omega
    · show num [h.dp / 256 % 256, h.dp % 256] = h.dp; rw [num_two]; omega
  have hsum : sumv h (bod h) = s := by
    rw [hs]
    refine sumv_len ?_ ?_ ?_
    · rw [bod_len, List.length_append, mid_len]
    · rw [eB, hp, eM]; rfl
    · rw [eB, hp, eM]; rfl
  unfold rdU
  rw [hk, hsum, if_neg (by rw [bod_len, hp]; show ¬ 8 + _ < 8; omega), if_neg (by rw [eB, eM]; exact fun z => z rfl), if_neg ?_]
  intro z
  apply z
  rw [eB]
  show num [s / 256, s % 256] = s
  rw [num_two]; omega
theorem rest_back {h : Hd} (hw : h.Wf) (hc : chkE h = 0) : rdR (hfr h.src h.dst h.pr h.ttl h.cls h.id) (bod h) = (h, 0) := by
  have hm := chk_may hc
  have hl := chk_ok hc
  unfold rdR
  rcases p_cases h.pr with e | e | ⟨h6, h7⟩
  · rw [if_pos (show (hfr h.src h.dst h.pr h.ttl h.cls h.id).pr = 6 from e)]
    exact rest_tcp hw e
  · rw [if_neg (show ¬ (hfr h.src h.dst h.pr h.ttl h.cls h.id).pr = 6 from fun z => by have : h.pr = 6 := z; omega), if_pos (show (hfr h.src h.dst h.pr h.ttl h.cls h.id).pr = 17 from e)]
    have := hm.f (by omega)
    exact rest_udp hw e this.1 this.2 (by omega)
  · rw [if_neg (show ¬ (hfr h.src h.dst h.pr h.ttl h.cls h.id).pr = 6 from h6), if_neg (show ¬ (hfr h.src h.dst h.pr h.ttl h.cls h.id).pr = 17 from h7)]
    have hf := hm.f h6
    have hp := hm.p (midsN h6 h7)
    have e : bod h = h.dat := by
      unfold bod
      rw [satN h6 h7, if_pos rfl, midN h6 h7]; rfl
    rw [e]
    have : kn (hfr h.src h.dst h.pr h.ttl h.cls h.id) h.dat = h := Hd.eq_of rfl rfl rfl hp.1.symm hp.2.symm rfl rfl rfl hf.1.symm hf.2.symm rfl
    rw [this]
/-- an address of IPv4 that may be: its four bytes -/
theorem ok4 {a : Ad} (ha : a.Wf) (h4 : a.v6 = false) (ho : okA a) : ∃ x0 x1 x2 x3, a = ⟨false, [x0, x1, x2, x3, 0, 0, 0, 0, 0, 0, 0, 0, 0, 0, 0, 0]⟩ := by
  obtain ⟨v, l⟩ := a
  obtain ⟨q0, q1, q2, q3, q4, q5, q6, q7, q8, q9, q10, q11, q12, q13, q14, q15, rfl⟩ := sixteen_ ha.len
  dsimp only at h4
  subst h4
  have z : ∀ i, 4 ≤ i → i < 16 → byt ⟨false, [q0, q1, q2, q3, q4, q5, q6, q7, q8, q9, q10, q11, q12, q13, q14, q15]⟩ i = 0 := fun i h1 h2 => ho i (by show 32 / 8 ≤ i; omega) h2
  have z4 : q4 = 0 := z 4 (by decide) (by decide)
  have z5 : q5 = 0 := z 5 (by decide) (by decide)
  have z6 : q6 = 0 := z 6 (by decide) (by decide)
  have z7 : q7 = 0 := z 7 (by decide) (by decide)
  have z8 : q8 = 0 := z 8 (by decide) (by decide)
  have z9 : q9 = 0 := z 9 (by decide) (by decide)
  have z10 : q10 = 0 := z 10 (by decide) (by decide)
  have z11 : q11 = 0 := z 11 (by decide) (by decide)
  have z12 : q12 = 0 := z 12 (by decide) (by decide)
  have z13 : q13 = 0 := z 13 (by decide) (by decide)
  have z14 : q14 = 0 := z 14 (by decide) (by decide)
  have z15 : q15 = 0 := z 15 (by decide) (by decide)
  subst z4 z5 z6 z7 z8 z9 z10 z11 z12 z13 z14 z15
  exact ⟨q0, q1, q2, q3, rfl⟩
theorem front_four_back {h : Hd} (hw : h.Wf) (hc : chkE h = 0) (h4 : h.src.v6 = false) (beh : List Nat) : rdF (make h ++ beh) = (hfr h.src h.dst h.pr h.ttl h.cls h.id, 20 + (bod h).length, 0) ∧ (make h ++ beh).drop 20 = bod h ++ beh := by
  have hm := chk_may hc
  have hk := chk_ok hc
  have hkl : (bod h).length ≤ 2028 := by
    rw [bod_len]
    unfold fsz at hk
    rw [if_neg (by rw [h4]; decide)] at hk
    omega
  obtain ⟨s0, s1, s2, s3, es⟩ := ok4 hw.s h4 hm.a
  obtain ⟨d0, d1, d2, d3, ed⟩ := ok4 hw.d (hm.v ▸ h4) hm.b
  obtain ⟨t, ht⟩ : ∃ t, t = 20 + (bod h).length := ⟨_, rfl⟩
  obtain ⟨cs, hcs⟩ : ∃ cs, cs = csum (four0 h (bod h).length) := ⟨_, rfl⟩
  have hcs9 := csum_le (four0 h (bod h).length)
  rw [← hcs] at hcs9
  have hid := hm.j h4
  have e0 : four0 h (bod h).length = [69, h.cls, t / 256, t % 256, h.id / 256, h.id % 256, 64, 0, h.ttl, h.pr, 0, 0, s0, s1, s2, s3, d0, d1, d2, d3] := by
    unfold four0
    rw [es, ed, ← ht, be2, be2]
    rw [show t % 65536 = t from by omega, show h.id % 65536 = h.id from by omega, show t / 256 % 256 = t / 256 from by omega, show h.id / 256 % 256 = h.id / 256 from by omega]
    rfl
  have eF : front h (bod h).length = [69, h.cls, t / 256, t % 256, h.id / 256, h.id % 256, 64, 0, h.ttl, h.pr, cs / 256, cs % 256, s0, s1, s2, s3, d0, d1, d2, d3] := by
    unfold front
    rw [if_neg (by rw [h4]; decide), ← hcs, e0]
    rfl
  have eL : make h ++ beh = 69 :: h.cls :: t / 256 :: t % 256 :: h.id / 256 :: h.id % 256 :: 64 :: 0 :: h.ttl :: h.pr :: cs / 256 :: cs % 256 :: s0 :: s1 :: s2 :: s3 :: d0 :: d1 :: d2 :: d3 :: (bod h ++ beh) := by
    rw [make_eq, eF]; rfl
  have eS : csum ((make h ++ beh).take 10 ++ ((make h ++ beh).drop 12).take 8) = cs := by
    rw [eL, hcs, e0]
    apply csum_tot
    show tot ([69, h.cls, t / 256, t % 256, h.id / 256, h.id % 256, 64, 0, h.ttl, h.pr] ++ [s0, s1, s2, s3, d0, d1, d2, d3]) = tot ([69, h.cls, t / 256, t % 256, h.id / 256, h.id % 256, 64, 0, h.ttl, h.pr] ++ ([0, 0] ++ [s0, s1, s2, s3, d0, d1, d2, d3]))
    rw [tot_append (by simp), tot_append (by simp), tot_append (a := [0, 0]) (by simp)]
    rw [show tot [0, 0] = 0 from rfl, Nat.zero_add]
  have hlen : (make h ++ beh).length = t + beh.length := by rw [eL]; simp; omega
  refine ⟨?_, by rw [eL]; rfl⟩
  have g0 : (make h ++ beh).getD 0 0 = 69 := by rw [eL]; rfl
  have n6 : num2 (make h ++ beh) 6 = 16384 := by rw [eL]; rfl
  have n2 : num2 (make h ++ beh) 2 = t := by
    rw [eL]; show num [t / 256, t % 256] = t; rw [num_two]; omega
  have n10 : num2 (make h ++ beh) 10 = cs := by
    rw [eL]; show num [cs / 256, cs % 256] = cs; rw [num_two]; omega
  have n4 : num2 (make h ++ beh) 4 = h.id := by
    rw [eL]; show num [h.id / 256, h.id % 256] = h.id; rw [num_two]; omega
  have hh : hd4 (make h ++ beh) = hfr h.src h.dst h.pr h.ttl h.cls h.id := by
    unfold hd4
    rw [n4, eL, es, ed]
    rfl
  have hz : sizeE (make h ++ beh).length t 20 = 0 := by
    unfold sizeE
    rw [if_neg (by omega), if_neg (by omega)]
  unfold rdF
  rw [if_neg (by omega), g0, if_pos (by decide)]
  unfold rd4
  rw [if_neg (by omega), g0, if_neg (by decide), n6, if_neg (by decide), n2, hz, if_neg (by decide), n10, eS, if_neg (fun z => z rfl), hh, ← ht]
theorem front_six_back {h : Hd} (hw : h.Wf) (hc : chkE h = 0) (h6 : h.src.v6 = true) (beh : List Nat) : rdF (make h ++ beh) = (hfr h.src h.dst h.pr h.ttl h.cls h.id, 40 + (bod h).length, 0) ∧ (make h ++ beh).drop 40 = bod h ++ beh := by
  have hm := chk_may hc
  have hk := chk_ok hc
  have hkl : (bod h).length ≤ 2008 := by
    rw [bod_len]
    unfold fsz at hk
    rw [if_pos h6] at hk
    omega
  have hcl := hw.c
  have hid := hm.i
  obtain ⟨k, hk2⟩ : ∃ k, k = (bod h).length := ⟨_, rfl⟩
  have es : h.src = ⟨true, h.src.B⟩ := by rw [← h6]
  have ed : h.dst = ⟨true, h.dst.B⟩ := by rw [← h6, hm.v]
  obtain ⟨q0, q1, q2, q3, q4, q5, q6, q7, q8, q9, q10, q11, q12, q13, q14, q15, eq⟩ := sixteen_ hw.s.len
  obtain ⟨r0, r1, r2, r3, r4, r5, r6, r7, r8, r9, r10, r11, r12, r13, r14, r15, er⟩ := sixteen_ hw.d.len
  obtain ⟨W, hW⟩ : ∃ W, W = word6 h := ⟨_, rfl⟩
  have hW9 : W = (1536 + h.cls) * 1048576 + h.id := hW
  have eL : make h ++ beh = W / 16777216 % 256 :: W / 65536 % 256 :: W / 256 % 256 :: W % 256 :: k / 256 % 256 :: k % 256 :: h.pr :: h.ttl :: q0 :: q1 :: q2 :: q3 :: q4 :: q5 :: q6 :: q7 :: q8 :: q9 :: q10 :: q11 :: q12 :: q13 :: q14 :: q15 :: r0 :: r1 :: r2 :: r3 :: r4 :: r5 :: r6 :: r7 :: r8 :: r9 :: r10 :: r11 :: r12 :: r13 :: r14 :: r15 :: (bod h ++ beh) := by
    rw [make_eq]
    unfold front six
    rw [if_pos h6, ← hk2, ← hW, be4, be2, eq, er, show k % 65536 = k from by omega]
    rfl
  have hlen : (make h ++ beh).length = 40 + k + beh.length := by rw [eL]; simp; omega
  refine ⟨?_, by rw [eL]; rfl⟩
  have g0 : (make h ++ beh).getD 0 0 / 16 = 6 := by
    rw [eL]; show W / 16777216 % 256 / 16 = 6; omega
  have n4 : num2 (make h ++ beh) 4 = k := by
    rw [eL]; show num [k / 256 % 256, k % 256] = k; rw [num_two]; omega
  have n0 : num4 (make h ++ beh) 0 = W := by
    rw [eL]; show num [W / 16777216 % 256, W / 65536 % 256, W / 256 % 256, W % 256] = W; rw [num_four]; omega
  have hh : hd6 (make h ++ beh) = hfr h.src h.dst h.pr h.ttl h.cls h.id := by
    unfold hd6
    rw [n0, show W / 1048576 % 256 = h.cls from by omega, show W % 1048576 = h.id from by omega, es, ed, eL, eq, er]
    rfl
  have hz : sizeE (make h ++ beh).length (40 + k) 40 = 0 := by
    unfold sizeE
    rw [if_neg (by omega), if_neg (by omega)]
  unfold rdF
  rw [if_neg (by omega), g0, if_neg (by decide), if_pos rfl]
  unfold rd6
  rw [if_neg (by omega), n4, hz, if_neg (by decide), hh, ← hk2]
theorem front_length (h : Hd) (hw : h.Wf) (k : Nat) : (front h k).length = fsz h := by
  unfold front fsz
  split
  · simp [six, be_length, hw.s.len, hw.d.len]
  · unfold fillp; rw [List.length_set, List.length_set, four0_len h hw]
/-- there and back -/
theorem read_make {h : Hd} (hw : h.Wf) (hc : chkE h = 0) (beh : List Nat) : rdd (make h ++ beh) = (h, (make h).length, 0) := by
  obtain ⟨f, hf⟩ : ∃ f, f = fsz h := ⟨_, rfl⟩
  have key : rdF (make h ++ beh) = (hfr h.src h.dst h.pr h.ttl h.cls h.id, f + (bod h).length, 0) ∧ (make h ++ beh).drop f = bod h ++ beh := by
    unfold fsz at hf
    cases hv : h.src.v6 with
    | true => rw [hv] at hf; rw [hf]; exact front_six_back hw hc hv beh
    | false => rw [hv] at hf; rw [hf]; exact front_four_back hw hc hv beh
  have hfs : fsz (hfr h.src h.dst h.pr h.ttl h.cls h.id) = f := by rw [hf]; rfl
  have hr : resto (make h ++ beh) = bod h := by
    unfold resto
    rw [key.1]
    dsimp only
    rw [hfs, key.2, Nat.add_sub_cancel_left, List.take_left]
  have hl : (make h).length = f + (bod h).length := by
    have h1 := congrArg List.length key.2
    rw [List.length_drop, List.length_append, List.length_append] at h1
    have h2 : f ≤ (make h).length := by
      rw [make_eq, List.length_append, hf]
      have : (front h (bod h).length).length = fsz h := front_length h hw _
      omega
    omega
  unfold rdd
  rw [hr, key.1]
  dsimp only
  rw [rest_back hw hc]
  rw [if_neg (fun z => z rfl), if_neg (fun z => z rfl), hl]
end Go.Proofs.Ytidengmcbppcoaa.pk
set_option linter.unusedVariables false
set_option linter.unusedSimpArgs false
namespace Go.Proofs.Ytidengmcbppcoaa.pk
open Go.RowKit Go.Proofs.Ytidengmcbppcoaa.oc Go.Proofs.Ytidengmcbppcoaa.mz Go.Proofs.Ytidengmcbppcoaa.pf Go.Proofs.Ytidengmcbppcoaa.wh Go.Proofs.Ytidengmcbppcoaa.qk Go.Proofs.Ytidengmcbppcoaa.bys
/-- the bytes from the fourth up to the k-th are laid to 0 -/
def zrB (k : Nat) (B : List Nat) : List Nat := B.take 4 ++ List.replicate (k - 4) 0 ++ B.drop k
theorem zrB_len {k : Nat} {B : List Nat} (hB : B.length = 16) (h4 : 4 ≤ k) (h16 : k ≤ 16) : (zrB k B).length = 16 := by simp [zrB, hB]; omega
theorem zrB_4 (B : List Nat) : zrB 4 B = B := by simp [zrB]
theorem zrB_16 {B : List Nat} (hB : B.length = 16) : zrB 16 B = B.take 4 ++ z12 := by
  unfold zrB
  rw [List.drop_eq_nil_of_le (by omega), List.append_nil]
  rfl
theorem zrB_sm {k : Nat} {B : List Nat} (h : ∀ x ∈ B, x < 256) : ∀ x ∈ zrB k B, x < 256 := fun x hx => by
  unfold zrB at hx
  rcases List.mem_append.1 hx with q | q
  · rcases List.mem_append.1 q with q | q
    · exact h x (List.mem_of_mem_take q)
    · rw [(List.mem_replicate.1 q).2]; decide
  · exact h x (List.mem_of_mem_drop q)
theorem zrB_step {k : Nat} {B : List Nat} (hB : B.length = 16) (h4 : 4 ≤ k) (h16 : k < 16) : (zrB k B).set k 0 = zrB (k + 1) B := by
  have hd : B.drop k = B[k]'(by omega) :: B.drop (k + 1) := List.drop_eq_getElem_cons (by omega)
  have hl : (B.take 4 ++ List.replicate (k - 4) 0).length = k := by simp [hB]; omega
  unfold zrB
  rw [List.set_append_right _ _ (by omega), hl, Nat.sub_self, hd, List.set_cons_zero, show k + 1 - 4 = (k - 4) + 1 from by omega, List.replicate_succ']
  simp
def fitA (v : Bool) (a : Ad) : Ad := if v then ⟨true, a.B⟩ else ⟨false, a.B.take 4 ++ z12⟩
/-- what Fit answers -/
def fit (h : Hd) : Hd := ⟨fitA h.src.v6 h.src, fitA h.src.v6 h.dst, h.pr, if mids h.pr = 0 then 0 else h.sp, if mids h.pr = 0 then 0 else h.dp, h.ttl, h.cls, if h.src.v6 then h.id % 1048576 else h.id % 65536, if h.pr = 6 then h.fl else 0, if h.pr = 6 then h.seq else 0, h.dat.take (2048 - (fsz h + mids h.pr))⟩
theorem fitA_wf {v : Bool} {a : Ad} (h : a.Wf) : (fitA v a).Wf := by
  unfold fitA
  split
  · exact ⟨h.len, h.sm⟩
  · refine ⟨by simp [z12, h.len], fun x hx => ?_⟩
    rcases List.mem_append.1 hx with q | q
    · exact h.sm x (List.mem_of_mem_take q)
    · simp [z12] at q; omega
theorem fit_wf {h : Hd} (hw : h.Wf) : (fit h).Wf := by
  have := hw.i
  refine ⟨fitA_wf hw.s, fitA_wf hw.d, hw.p, ?_, ?_, hw.t, hw.c, ?_, ?_, ?_, fun x hx => hw.b x (List.mem_of_mem_take hx)⟩
  · show (if _ then _ else _) < _; split; omega; exact hw.sl
  · show (if _ then _ else _) < _; split; omega; exact hw.dl
  · show (if h.src.v6 = true then h.id % 1048576 else h.id % 65536) < 4294967296; split <;> omega
  · show (if _ then _ else _) < _; split; exact hw.f; omega
  · show (if _ then _ else _) < _; split; exact hw.q; omega
theorem fitA_ok (v : Bool) (a : Ad) (hw : a.Wf) : okA (fitA v a) := by
  unfold fitA
  cases v with
  | true => intro i h1 h2; have : 128 / 8 ≤ i := h1; omega
  | false =>
    intro i h1 h2
    have h4 : 32 / 8 ≤ i := h1
    show (a.B.take 4 ++ z12)[i]?.getD 0 = 0
    rw [List.getElem?_append_right (by rw [List.length_take, hw.len]; omega), List.length_take, hw.len]
    have : i - min 4 16 < 12 := by omega
    generalize i - min 4 16 = j at *
    have : ∀ j : Fin 12, z12[j.val]?.getD 0 = 0 := by decide
    exact this ⟨j, by omega⟩
theorem fit_v6 (v : Bool) (a : Ad) : (fitA v a).v6 = v := by unfold fitA; cases v <;> rfl
theorem fit_chk {h : Hd} (hw : h.Wf) : chkE (fit h) = 0 := by
  have hm : May (fit h) := by
    refine ⟨fitA_ok _ _ hw.s, fitA_ok _ _ hw.d, by show (fitA _ _).v6 = (fitA _ _).v6; rw [fit_v6, fit_v6], ?_, ?_, ?_, ?_⟩
    · show (if h.src.v6 = true then h.id % 1048576 else h.id % 65536) ≤ 1048575; split <;> omega
    · intro hv
      have hv' : h.src.v6 = false := by have : (fitA h.src.v6 h.src).v6 = false := hv; rwa [fit_v6] at this
      show (if h.src.v6 = true then _ else _) ≤ 65535
      rw [hv', if_neg (by decide)]; omega
    · intro h6
      have h6' : ¬ h.pr = 6 := h6
      exact ⟨if_neg h6', if_neg h6'⟩
    · intro h0
      exact ⟨if_pos h0, if_pos h0⟩
  have hf : fsz (fit h) = fsz h := by
    show (if (fitA _ _).v6 = true then 40 else 20) = _
    rw [fit_v6]; rfl
  have hb := mids_le h.pr
  have hs : fsz h ≤ 40 := by unfold fsz; split <;> omega
  unfold chkE
  rw [if_neg (fun z => z hm), if_neg ?_]
  rw [hf]
  show ¬ 2048 < fsz h + mids h.pr + (h.dat.take _).length
  rw [List.length_take]
  omega
end Go.Proofs.Ytidengmcbppcoaa.pk
set_option linter.unusedVariables false
set_option linter.unusedSimpArgs false
namespace Go.Proofs.Ytidengmcbppcoaa.pk
open Go.RowKit Go.Proofs.Ytidengmcbppcoaa.oc Go.Proofs.Ytidengmcbppcoaa.mz Go.Proofs.Ytidengmcbppcoaa.pf Go.Proofs.Ytidengmcbppcoaa.wh Go.Proofs.Ytidengmcbppcoaa.qk Go.Proofs.Ytidengmcbppcoaa.bys
theorem b8s_set (B : List Nat) (k x : Nat) : (b8s B).set k (.int .u8 (x : Int)) = b8s (B.set k x) := by simp [b8s, List.map_set]
theorem st_sB {w : World} {G : Nat} {T : TypeId} {h : Hd} {v : Value} (b : Blk w G T (hcs h v)) (h1 : h.src.Wf) {k : Nat} (hk : k < 16) : Blk (w.setCell ⟨G, 1 + k, none⟩ (.int .u8 0)) G T (hcs {h with src := ⟨h.src.v6, h.src.B.set k 0⟩} v) := by
  have := Blk.put b (1 + k) (.int .u8 0)
  have e : (hcs h v).set (1 + k) (.int .u8 0) = hcs {h with src := ⟨h.src.v6, h.src.B.set k 0⟩} v := by
    unfold hcs
    rw [List.set_append_left _ _ (by rw [adc_len h1]; omega)]
    congr 1
    rw [Nat.add_comm 1 k]
    unfold adc
    rw [List.set_cons_succ]
    congr 1
    exact b8s_set _ k 0
  rw [e] at this
  exact this
theorem st_dB {w : World} {G : Nat} {T : TypeId} {h : Hd} {v : Value} (b : Blk w G T (hcs h v)) (h1 : h.src.Wf) (h2 : h.dst.Wf) {k : Nat} (hk : k < 16) : Blk (w.setCell ⟨G, 18 + k, none⟩ (.int .u8 0)) G T (hcs {h with dst := ⟨h.dst.v6, h.dst.B.set k 0⟩} v) := by
  have := Blk.put b (18 + k) (.int .u8 0)
  have e : (hcs h v).set (18 + k) (.int .u8 0) = hcs {h with dst := ⟨h.dst.v6, h.dst.B.set k 0⟩} v := by
    unfold hcs
    rw [List.set_append_right _ _ (by rw [adc_len h1]; omega), adc_len h1, show 18 + k - 17 = k + 1 from by omega]
    congr 1
    rw [List.set_append_left _ _ (by rw [adc_len h2]; omega)]
    congr 1
    unfold adc
    rw [List.set_cons_succ]
    congr 1
    exact b8s_set _ k 0
  rw [e] at this
  exact this
theorem c_at {w : World} {G : Nat} {T : TypeId} {h : Hd} {v : Value} (b : Blk w G T (hcs h v)) (hl : (hcs h v).length = 43) {k : Nat} (hk : k < 43) : ∃ u, w.cell? ⟨G, k, none⟩ = some u := by
  rw [b.cell, List.getElem?_eq_getElem (by omega)]; exact ⟨_, rfl⟩
theorem hcs_len2 {h : Hd} (h1 : h.src.Wf) (h2 : h.dst.Wf) (v : Value) : (hcs h v).length = 43 := by simp [hcs, adc_len h1, adc_len h2]
theorem set_wf {a : Ad} (h : a.Wf) (k : Nat) : (⟨a.v6, a.B.set k 0⟩ : Ad).Wf := ⟨by simp [h.len], fun x hx => by
  rcases List.mem_or_eq_of_mem_set hx with q | q
  · exact h.sm x q
  · omega⟩
def Rest_ (p : Prop) : Prop := p
theorem rest_of {p : Prop} (h : Rest_ p) : p := h
def zh (k : Nat) (h : Hd) : Hd := ⟨⟨false, zrB k h.src.B⟩, ⟨false, zrB k h.dst.B⟩, h.pr, h.sp, h.dp, h.ttl, h.cls, h.id, h.fl, h.seq, h.dat⟩
theorem zh_s {k : Nat} {h : Hd} (hw : h.Wf) (h4 : 4 ≤ k) (h16 : k ≤ 16) : (zh k h).src.Wf := ⟨zrB_len hw.s.len h4 h16, zrB_sm hw.s.sm⟩
theorem zh_d {k : Nat} {h : Hd} (hw : h.Wf) (h4 : 4 ≤ k) (h16 : k ≤ 16) : (zh k h).dst.Wf := ⟨zrB_len hw.d.len h4 h16, zrB_sm hw.d.sm⟩
/-- Fit, but for Data -/
def fitX (h : Hd) : Hd := ⟨(fit h).src, (fit h).dst, (fit h).pr, (fit h).sp, (fit h).dp, (fit h).ttl, (fit h).cls, (fit h).id, (fit h).fl, (fit h).seq, h.dat⟩
theorem fitX_wf {h : Hd} (hw : h.Wf) : (fitX h).Wf := by
  have := fit_wf hw
  exact ⟨this.s, this.d, this.p, this.sl, this.dl, this.t, this.c, this.i, this.f, this.q, hw.b⟩
theorem fitX_t6 {h : Hd} (hw : h.Wf) (hv : h.src.v6 = true) (hp : h.pr = 6) : fitX h = ⟨h.src, ⟨true, h.dst.B⟩, h.pr, h.sp, h.dp, h.ttl, h.cls, h.id % 1048576, h.fl, h.seq, h.dat⟩ := by
  refine Hd.eq_of ?_ ?_ rfl ?_ ?_ rfl rfl ?_ ?_ ?_ rfl
  · show fitA h.src.v6 h.src = _
    unfold fitA; rw [hv, if_pos rfl, ← hv]
  · show fitA h.src.v6 h.dst = _
    unfold fitA; rw [hv, if_pos rfl]
  · exact if_neg (by rw [hp]; decide)
  · exact if_neg (by rw [hp]; decide)
  · show (if h.src.v6 = true then h.id % 1048576 else h.id % 65536) = _
    rw [hv, if_pos rfl]
  · exact if_pos hp
  · exact if_pos hp
theorem fitX_t17 {h : Hd} (hw : h.Wf) (hv : h.src.v6 = true) (hp : h.pr = 17) : fitX h = ⟨h.src, ⟨true, h.dst.B⟩, h.pr, h.sp, h.dp, h.ttl, h.cls, h.id % 1048576, 0, 0, h.dat⟩ := by
  refine Hd.eq_of ?_ ?_ rfl ?_ ?_ rfl rfl ?_ ?_ ?_ rfl
  · show fitA h.src.v6 h.src = _
    unfold fitA; rw [hv, if_pos rfl, ← hv]
  · show fitA h.src.v6 h.dst = _
    unfold fitA; rw [hv, if_pos rfl]
  · exact if_neg (by rw [hp]; decide)
  · exact if_neg (by rw [hp]; decide)
  · show (if h.src.v6 = true then h.id % 1048576 else h.id % 65536) = _
    rw [hv, if_pos rfl]
  · exact if_neg (by omega)
  · exact if_neg (by omega)
theorem fitX_tn {h : Hd} (hw : h.Wf) (hv : h.src.v6 = true) (h6 : h.pr ≠ 6) (h7 : h.pr ≠ 17) : fitX h = ⟨h.src, ⟨true, h.dst.B⟩, h.pr, 0, 0, h.ttl, h.cls, h.id % 1048576, 0, 0, h.dat⟩ := by
  refine Hd.eq_of ?_ ?_ rfl ?_ ?_ rfl rfl ?_ ?_ ?_ rfl
  · show fitA h.src.v6 h.src = _
    unfold fitA; rw [hv, if_pos rfl, ← hv]
  · show fitA h.src.v6 h.dst = _
    unfold fitA; rw [hv, if_pos rfl]
  · exact if_pos (midsN h6 h7)
  · exact if_pos (midsN h6 h7)
  · show (if h.src.v6 = true then h.id % 1048576 else h.id % 65536) = _
    rw [hv, if_pos rfl]
  · exact if_neg (by omega)
  · exact if_neg (by omega)
theorem fitX_f6 {h : Hd} (hw : h.Wf) (hv : h.src.v6 = false) (hp : h.pr = 6) : fitX h = ⟨⟨false, zrB 16 h.src.B⟩, ⟨false, zrB 16 h.dst.B⟩, h.pr, h.sp, h.dp, h.ttl, h.cls, h.id % 65536, h.fl, h.seq, h.dat⟩ := by
  refine Hd.eq_of ?_ ?_ rfl ?_ ?_ rfl rfl ?_ ?_ ?_ rfl
  · show fitA h.src.v6 h.src = _
    unfold fitA; rw [hv, if_neg (by decide), zrB_16 hw.s.len]
  · show fitA h.src.v6 h.dst = _
    unfold fitA; rw [hv, if_neg (by decide), zrB_16 hw.d.len]
  · exact if_neg (by rw [hp]; decide)
  · exact if_neg (by rw [hp]; decide)
  · show (if h.src.v6 = true then h.id % 1048576 else h.id % 65536) = _
    rw [hv, if_neg (by decide)]
  · exact if_pos hp
  · exact if_pos hp
theorem fitX_f17 {h : Hd} (hw : h.Wf) (hv : h.src.v6 = false) (hp : h.pr = 17) : fitX h = ⟨⟨false, zrB 16 h.src.B⟩, ⟨false, zrB 16 h.dst.B⟩, h.pr, h.sp, h.dp, h.ttl, h.cls, h.id % 65536, 0, 0, h.dat⟩ := by
  refine Hd.eq_of ?_ ?_ rfl ?_ ?_ rfl rfl ?_ ?_ ?_ rfl
  · show fitA h.src.v6 h.src = _
    unfold fitA; rw [hv, if_neg (by decide), zrB_16 hw.s.len]
  · show fitA h.src.v6 h.dst = _
    unfold fitA; rw [hv, if_neg (by decide), zrB_16 hw.d.len]
  · exact if_neg (by rw [hp]; decide)
  · exact if_neg (by rw [hp]; decide)
  · show (if h.src.v6 = true then h.id % 1048576 else h.id % 65536) = _
    rw [hv, if_neg (by decide)]
  · exact if_neg (by omega)
  · exact if_neg (by omega)
theorem fitX_fn {h : Hd} (hw : h.Wf) (hv : h.src.v6 = false) (h6 : h.pr ≠ 6) (h7 : h.pr ≠ 17) : fitX h = ⟨⟨false, zrB 16 h.src.B⟩, ⟨false, zrB 16 h.dst.B⟩, h.pr, 0, 0, h.ttl, h.cls, h.id % 65536, 0, 0, h.dat⟩ := by
  refine Hd.eq_of ?_ ?_ rfl ?_ ?_ rfl rfl ?_ ?_ ?_ rfl
  · show fitA h.src.v6 h.src = _
    unfold fitA; rw [hv, if_neg (by decide), zrB_16 hw.s.len]
  · show fitA h.src.v6 h.dst = _
    unfold fitA; rw [hv, if_neg (by decide), zrB_16 hw.d.len]
  · exact if_pos (midsN h6 h7)
  · exact if_pos (midsN h6 h7)
  · show (if h.src.v6 = true then h.id % 1048576 else h.id % 65536) = _
    rw [hv, if_neg (by decide)]
  · exact if_neg (by omega)
  · exact if_neg (by omega)
section
variable (w : World)
set_option maxRecDepth 100000 in
set_option maxHeartbeats 4000000 in
theorem rfit_t6 (h : Hd) (A : Option Addr) (n c : Nat) (hw : h.Wf) (hl : h.dat.length = n) (hn : n ≤ 140737488355328) (hr : Rd w w.heap.size A (by_ h.dat)) (hv : h.src.v6 = true) (hp : h.pr = 6) :
    Calls Try.prog 22 #[hvv h (.slice A n c)] w fun e w' => ∃ v, e = .returned (hvv (fit h) v) ∧ By w w' v (fit h).dat := by
  obtain ⟨w2, hw2, k2, bG, bZ, s2⟩ := box2 w (hcs h (.slice A n c)) zhd 29 29
  dsimp only [zhd] at hw2
  have hms : mids h.pr = 20 := by rw [hp]; rfl
  have hfs : fsz h = 40 := by unfold fsz; rw [hv]; rfl
  have HM : ∀ u, Hid (Calls Try.prog 32 #[.int .u8 (h.pr : Int)] u fun e w' => e = .returned (.int .i64 20) ∧ w' = u) := fun u => Lib.hid (by have := rmids_ u h.pr; rw [hms] at this; exact this)
  have h1 := hw.s
  have h2 := hw.d
  have c00 := (HF.of_blk hw bG).v6s
  rw [hv] at c00
  have c17 := c_dv6 bG h1
  have f17 := bG.frozen 17
  have g0 := st_dv6 bG h1 true
  have p0 := keeps_put (G := w.heap.size) (Keeps.refl _ w2) 17 (.bool true)
  have c01 : (w2.setCell ⟨w.heap.size, 17, none⟩ (.bool true)).cell? ⟨w.heap.size, 0, none⟩ = some (.bool true) := by rw [g0.cell, ← hv]; rfl
  have HW2 := Lib.hid hw2
  have HWF := Lib.hid hw
  have HLR := Lib.hid (And.intro hl (And.intro hv (And.intro hms hfs)))
  have HR := Lib.hid hr
  have HP := Lib.hid hp
  have HK2 := Lib.hid k2
  have HG0 := Lib.hid g0
  have HP0 := Lib.hid p0
  have HZ := Lib.hid bZ
  unfold hvv
  clear hw2 k2 bG bZ s2 hw hl hr g0 p0 h1 h2 hms hfs hv hp
  generalize hC : hcs h (.slice A n c) = C at *
  have HCC := Lib.hid hC
  clear hC
  go_enter Try.func22, Try.ntmps22
  go_wp2_with ((with_reducible show wpList _ _ _ (⟨some 6, _, _, _, _, _⟩ :: _) _ _); (try rw [← HW2.out]); refine rest_of ?_)
  unfold Rest_
  obtain ⟨y0, hy0⟩ : ∃ y, y = w2.setCell ⟨w.heap.size, 17, none⟩ (.bool true) := ⟨_, rfl⟩
  have G0 : Hid (Blk y0 w.heap.size 29 _) := Lib.hid (by rw [hy0]; exact HG0.out)
  have P0 : Hid (Keeps (· = w.heap.size) w2 y0) := Lib.hid (by rw [hy0]; exact HP0.out)
  have HY0 := Lib.hid hy0
  clear hy0
  have z1 := HWF.out.s
  have z2 : (⟨true, h.dst.B⟩ : Ad).Wf := ⟨HWF.out.d.len, HWF.out.d.sm⟩
  have ci0 : (w2.setCell ⟨w.heap.size, 17, none⟩ (.bool true)).cell? ⟨w.heap.size, 39, none⟩ = some (.int .u32 (h.id : Int)) := h_cell (HG0.out) z1 z2 5 _ rfl
  obtain ⟨i1, hi1⟩ : ∃ i1, i1 = h.id % 1048576 := ⟨_, rfl⟩
  have zi1 : (h.id : Int) % 1048576 = (i1 : Int) := (by omega)
  have zi2 : Int.tmod (h.id : Int) 1048576 = (i1 : Int) := (by rw [Int.tmod_eq_emod_of_nonneg (Int.natCast_nonneg _)]; omega)
  have cx1 : (w2.setCell ⟨w.heap.size, 17, none⟩ (.bool true)).cell? ⟨w.heap.size, 39, none⟩ = some _ := h_cell (HG0.out) z1 z2 5 _ rfl
  have fx1 : (w2.setCell ⟨w.heap.size, 17, none⟩ (.bool true)).frozen? ⟨w.heap.size, 39, none⟩ = false := (HG0.out).frozen 39
  have gg1 := st_id (HG0.out) z1 z2 i1
  have pq1 := keeps_put (G := w.heap.size) (HP0.out) 39 (.int .u32 (i1 : Int))
  have cp0 : ((w2.setCell ⟨w.heap.size, 17, none⟩ (.bool true)).setCell ⟨w.heap.size, 39, none⟩ (.int .u32 (i1 : Int))).cell? ⟨w.heap.size, 34, none⟩ = some (.int .u8 (h.pr : Int)) := h_cell (gg1) z1 z2 0 _ rfl
  have d6 : ((h.pr : Int) != 6) = false := (by rw [HP.out]; rfl)
  obtain ⟨wL, hwL⟩ : ∃ y, y = (w2.setCell ⟨w.heap.size, 17, none⟩ (.bool true)).setCell ⟨w.heap.size, 39, none⟩ (.int .u32 (i1 : Int)) := ⟨_, rfl⟩
  have GL : Hid (Blk wL w.heap.size 29 (hcs (fitX h) (.slice A n c))) := Lib.hid (by rw [hwL]; have e := gg1; rw [fitX_t6 HWF.out HLR.out.2.1 HP.out, ← hi1]; exact e)
  have PL : Hid (Keeps (· = w.heap.size) w2 wL) := Lib.hid (by rw [hwL]; exact pq1)
  have HWL := Lib.hid hwL
  clear hwL hi1 gg1 pq1
  go_wp2_with (first | ((with_reducible show Calls _ 32 _ _ _); refine (HM _).out.mono ?_; rintro e wx ⟨rfl, h9⟩; subst wx))
  try rw [← HWL.out]
  clear cx1 fx1 ci0 zi1 zi2 cp0 d6 c00 c17 f17 c01 z1 z2
  have HSZ := Lib.hid (hd_sz (fitX_wf HWF.out) (.slice A n c))
  have HFR : ∀ u, Hid (Calls Try.prog 33 #[.agg (hcs (fitX h) (.slice A n c)).toArray] u fun e w' => e = .returned (.int .i64 40) ∧ ∀ S, Keeps S u w') := fun u => Lib.hid (by
    have := rfsz_ u (fitX h) (.slice A n c) (fitX_wf HWF.out)
    rw [show fsz (fitX h) = 40 from by show (if (fitA _ _).v6 = true then 40 else 20) = _; rw [fit_v6, HLR.out.2.1]; rfl] at this
    exact this)
  have ew : IntKind.i64.wrap 60 = 60 := by decide
  --@L2
  go_loopw [4, 5] (fun v i wr => ∃ k : Nat, k ≤ n ∧ k ≤ 1988 ∧ i = .int .i64 k ∧ Hid (By wL wr v (h.dat.take k))) (fun _ i _ => 1989 - (intOf i).toNat)
  case atStart => exact ⟨0, by omega, by omega, rfl, Lib.hid (by rw [List.take_zero]; exact By.nil_ (fun S => Keeps.refl S wL))⟩
  case round =>
    obtain ⟨k, hkn, hkL, rfl, hy⟩ := hrel
    have HCL : Hid (∀ wq, Keeps (fun _ => False) wr wq → wq.rangeAt w.heap.size 0 (hcs (fitX h) (.slice A n c)) ∧ wq.cell? ⟨w.heap.size, 42, none⟩ = some (.slice A n c) ∧ wq.cell? ⟨w.heap.size, 34, none⟩ = some (.int .u8 (h.pr : Int))) := Lib.hid (fun wq kq => by
      have b := Blk.keeps GL.out ((hy.out.keep _).trans kq) (fun z => z)
      exact ⟨Blk.range b, (HF.of_blk (fitX_wf HWF.out) b).dat, (HF.of_blk (fitX_wf HWF.out) b).pr⟩)
    obtain ⟨s9, hs9⟩ : ∃ s9 : Nat, s9 = 60 + k := ⟨_, rfl⟩
    have e9 : IntKind.i64.wrap ((60 : Int) + (k : Int)) = (s9 : Int) := by rw [wi64 (by omega) (by omega)]; omega
    by_cases hlt : k < n
    · have dlt : (k : Int) < (n : Int) := by omega
      by_cases hl2 : k < 1988
      · have d9 : (s9 : Int) < 2048 := by omega
        obtain ⟨b, o, hA, _, _⟩ := HR.out.byte (getq (bs := h.dat) (k := k) (by have := HLR.out.1; omega))
        subst hA
        clear hs9
        go_wp2_with fail
        --@R
        refine wp_region_held_drew (S := fun w' => w'.rangeAt w.heap.size 0 (hcs (fitX h) (.slice (some ⟨b, o, none⟩) n c)) ∧ w'.cell? ⟨w.heap.size, 42, none⟩ = some (.slice (some ⟨b, o, none⟩) n c) ∧ w'.cell? ⟨w.heap.size, 34, none⟩ = some (.int .u8 (h.pr : Int))) (by kernel_rfl) (HCL.out _ ((Keeps.refl _ wr).drew)) (fun hHeld => ?_)
        refine wpAnyH_take (i := 0) (v := ?_) rfl (by kernel_rfl) (by kernel_rfl) (by kernel_rfl) (fun _ _ _ h => h) (Or.inl ⟨by kernel_rfl, ?_⟩) (by assumption) ?_
        rotate_left
        · (intro w hSw; (try dsimp only at hSw); go_simp) <;> (try (with_reducible rfl))
        try simp only [Act.put, Array.getInternal_eq_getElem, List.getElem_toArray, List.getElem_cons_zero, List.getElem_cons_succ, List.setIfInBounds_toArray, List.set_cons_zero, List.set_cons_succ]
        refine wpAnyH_take (i := 1) (v := ?_) rfl (by kernel_rfl) (by kernel_rfl) (by kernel_rfl) (fun _ _ _ h => h) (Or.inl ⟨by kernel_rfl, ?_⟩) (by assumption) ?_
        rotate_left
        · (intro w hSw; (try dsimp only at hSw); go_simp) <;> (try (with_reducible rfl))
        try simp only [Act.put, Array.getInternal_eq_getElem, List.getElem_toArray, List.getElem_cons_zero, List.getElem_cons_succ, List.setIfInBounds_toArray, List.set_cons_zero, List.set_cons_succ]
        refine wpAnyH_take (i := 2) (v := ?_) rfl (by kernel_rfl) (by kernel_rfl) (by kernel_rfl) (fun _ _ _ h => h) (Or.inl ⟨by kernel_rfl, ?_⟩) (by assumption) ?_
        rotate_left
        · (intro w hSw; have hcell := hSw.2.1; go_simp) <;> (try (with_reducible rfl))
        try simp only [Act.put, Array.getInternal_eq_getElem, List.getElem_toArray, List.getElem_cons_zero, List.getElem_cons_succ, List.setIfInBounds_toArray, List.set_cons_zero, List.set_cons_succ]
        refine wpAnyH_take (i := 3) (v := ?_) rfl (by kernel_rfl) (by kernel_rfl) (by kernel_rfl) (fun _ _ _ h => h) (Or.inl ⟨by kernel_rfl, ?_⟩) (by assumption) ?_
        rotate_left
        · (intro w hSw; (try dsimp only at hSw); go_simp) <;> (try (with_reducible rfl))
        try simp only [Act.put, Array.getInternal_eq_getElem, List.getElem_toArray, List.getElem_cons_zero, List.getElem_cons_succ, List.setIfInBounds_toArray, List.set_cons_zero, List.set_cons_succ]
        refine wpAnyH_take (i := 4) (v := ?_) rfl (by kernel_rfl) (by kernel_rfl) (by kernel_rfl) (fun _ _ _ h => h) (Or.inl ⟨by kernel_rfl, ?_⟩) (by assumption) ?_
        rotate_left
        · (intro w hSw; (try dsimp only at hSw); go_simp) <;> (try (with_reducible rfl))
        try simp only [Act.put, Array.getInternal_eq_getElem, List.getElem_toArray, List.getElem_cons_zero, List.getElem_cons_succ, List.setIfInBounds_toArray, List.set_cons_zero, List.set_cons_succ]
        refine wpAnyH_take (i := 5) (v := ?_) rfl (by kernel_rfl) (by kernel_rfl) (by kernel_rfl) (fun _ _ _ h => h) (Or.inl ⟨by kernel_rfl, ?_⟩) (by assumption) ?_
        rotate_left
        · (intro w hSw; (try dsimp only at hSw); go_simp) <;> (try (with_reducible rfl))
        try simp only [Act.put, Array.getInternal_eq_getElem, List.getElem_toArray, List.getElem_cons_zero, List.getElem_cons_succ, List.setIfInBounds_toArray, List.set_cons_zero, List.set_cons_succ]
        refine' wpAnyH_take (i := 6) (v := _) rfl (by kernel_rfl) (by kernel_rfl) (by kernel_rfl) (fun _ _ _ h => h) (yieldsIf_load_mid (by kernel_rfl) _ _ rfl _ _ rfl _ _ (fun w hSw => hSw.1) Try.underlying29 rfl HSZ.out) (by assumption) ?_
        try simp only [Act.put, Array.getInternal_eq_getElem, List.getElem_toArray, List.getElem_cons_zero, List.getElem_cons_succ, List.setIfInBounds_toArray, List.set_cons_zero, List.set_cons_succ]
        refine wpAnyH_take (i := 8) (v := ?_) rfl (by kernel_rfl) (by kernel_rfl) (by kernel_rfl) (fun _ _ _ h => h) (Or.inl ⟨by kernel_rfl, ?_⟩) (by assumption) ?_
        rotate_left
        · (intro w hSw; (try dsimp only at hSw); go_simp) <;> (try (with_reducible rfl))
        try simp only [Act.put, Array.getInternal_eq_getElem, List.getElem_toArray, List.getElem_cons_zero, List.getElem_cons_succ, List.setIfInBounds_toArray, List.set_cons_zero, List.set_cons_succ]
        refine wpAnyH_take (i := 9) (v := ?_) rfl (by kernel_rfl) (by kernel_rfl) (by kernel_rfl) (fun _ _ _ h => h) (Or.inl ⟨by kernel_rfl, ?_⟩) (by assumption) ?_
        rotate_left
        · (intro w hSw; have hcell := hSw.2.2; go_simp) <;> (try (with_reducible rfl))
        try simp only [Act.put, Array.getInternal_eq_getElem, List.getElem_toArray, List.getElem_cons_zero, List.getElem_cons_succ, List.setIfInBounds_toArray, List.set_cons_zero, List.set_cons_succ]
        refine wpAnyH_take (i := 12) (v := ?_) rfl (by kernel_rfl) (by kernel_rfl) (by kernel_rfl) (fun _ _ _ h => h) (Or.inl ⟨by kernel_rfl, ?_⟩) (by assumption) ?_
        rotate_left
        · (intro w hSw; (try dsimp only at hSw); go_simp) <;> (try (with_reducible rfl))
        try simp only [Act.put, Array.getInternal_eq_getElem, List.getElem_toArray, List.getElem_cons_zero, List.getElem_cons_succ, List.setIfInBounds_toArray, List.set_cons_zero, List.set_cons_succ]
        refine wpAnyH_ready (rs := [7]) (by kernel_rfl) (by simp) ?_
        refine AllReadyH.cons rfl (fun K hK => ?_) AllReadyH.nil
        (rw [if_pos (by kernel_rfl)]; go_simp; go_at_call 33; refine ((HFR _).out).mono ?_; rintro e ua ⟨rfl, ka⟩; have KA := Lib.hid (((Keeps.refl (fun _ => False) wr).drew).trans (ka _)); clear ka)
        refine hK.out _ _ (HCL.out _ KA.out) (fun hHeld => ?_)
        clear hK K
        try simp only [Act.put, Array.getInternal_eq_getElem, List.getElem_toArray, List.getElem_cons_zero, List.getElem_cons_succ, List.setIfInBounds_toArray, List.set_cons_zero, List.set_cons_succ]
        refine wpAnyH_ready (rs := [10]) (by kernel_rfl) (by simp) ?_
        refine AllReadyH.cons rfl (fun K hK => ?_) AllReadyH.nil
        (rw [if_pos (by kernel_rfl)]; go_simp; go_at_call 32; refine ((HM _).out).mono ?_; rintro e wx ⟨rfl, h9⟩; subst wx)
        refine hK.out _ _ (HCL.out _ KA.out) (fun hHeld => ?_)
        clear hK K
        try simp only [Act.put, Array.getInternal_eq_getElem, List.getElem_toArray, List.getElem_cons_zero, List.getElem_cons_succ, List.setIfInBounds_toArray, List.set_cons_zero, List.set_cons_succ]
        refine wpAnyH_take (i := 11) (v := ?_) rfl (by kernel_rfl) (by kernel_rfl) (by kernel_rfl) (fun _ _ _ h => h) (Or.inl ⟨by kernel_rfl, ?_⟩) (by assumption) ?_
        rotate_left
        · (intro w hSw; (try dsimp only at hSw); go_simp) <;> (try (with_reducible rfl))
        try simp only [Act.put, Array.getInternal_eq_getElem, List.getElem_toArray, List.getElem_cons_zero, List.getElem_cons_succ, List.setIfInBounds_toArray, List.set_cons_zero, List.set_cons_succ]
        refine wpAnyH_take (i := 13) (v := ?_) rfl (by kernel_rfl) (by kernel_rfl) (by kernel_rfl) (fun _ _ _ h => h) (Or.inl ⟨by kernel_rfl, ?_⟩) (by assumption) ?_
        rotate_left
        · (intro w hSw; (try dsimp only at hSw); go_simp) <;> (try (with_reducible rfl))
        try simp only [Act.put, Array.getInternal_eq_getElem, List.getElem_toArray, List.getElem_cons_zero, List.getElem_cons_succ, List.setIfInBounds_toArray, List.set_cons_zero, List.set_cons_succ]
        refine wpAnyH_take (i := 14) (v := ?_) rfl (by kernel_rfl) (by kernel_rfl) (by kernel_rfl) (fun _ _ _ h => h) (Or.inl ⟨by kernel_rfl, ?_⟩) (by assumption) ?_
        rotate_left
        · (intro w hSw; (try dsimp only at hSw); go_simp) <;> (try (with_reducible rfl))
        try simp only [Act.put, Array.getInternal_eq_getElem, List.getElem_toArray, List.getElem_cons_zero, List.getElem_cons_succ, List.setIfInBounds_toArray, List.set_cons_zero, List.set_cons_succ]
        refine wpAnyH_take (i := 15) (v := ?_) rfl (by kernel_rfl) (by kernel_rfl) (by kernel_rfl) (fun _ _ _ h => h) (Or.inl ⟨by kernel_rfl, ?_⟩) (by assumption) ?_
        rotate_left
        · (intro w hSw; (try dsimp only at hSw); go_simp) <;> (try (with_reducible rfl))
        try simp only [Act.put, Array.getInternal_eq_getElem, List.getElem_toArray, List.getElem_cons_zero, List.getElem_cons_succ, List.setIfInBounds_toArray, List.set_cons_zero, List.set_cons_succ]
        refine wpAnyH_done ?_ ?_ _
        · kernel_rfl
        have YU := Lib.hid (By.grown hy.out (fun S => (KA.out.mono (fun _ _ z => z.elim))))
        have x42 := (HCL.out _ KA.out).2.1
        have xb := rd_cell (rd_old HR.out ((keeps_own HK2.out PL.out (Nat.le_refl _) (fun _ => False)).trans ((hy.out.keep _).trans KA.out))) (k := k) (by have := HLR.out.1; omega)
        obtain ⟨x, hx⟩ : ∃ x, x = h.dat.getD k 0 := ⟨_, rfl⟩
        rw [← hx] at xb
        have hkl : k < h.dat.length := by have := HLR.out.1; omega
        have hkk : (h.dat.take k).length = k := by rw [List.length_take]; omega
        have HKK := Lib.hid hkk
        have htk : h.dat.take (k + 1) = h.dat.take k ++ [x] := by rw [List.take_succ_eq_append_getElem hkl, hx, List.getD_eq_getElem?_getD, List.getElem?_eq_getElem hkl]; rfl
        have HTK := Lib.hid htk
        clear hx hkl hkk htk
        go_wp2_with ((with_reducible show wpList _ _ _ (⟨some 71, _, _, _, _, _⟩ :: _) _ _); refine By.wpList_append rfl _ _ rfl (YU.out.alloc _) rfl (some ⟨ua.heap.size, 0, none⟩) 1 1 _ [x] rfl rfl (lit_rd ua [x] _ rfl) (by have := HKK.out; simp; omega) ?_; intro v3 w3 y3 k3; have Y3 : Hid (By wL w3 v3 (h.dat.take (k + 1))) := Lib.hid (by rw [HTK.out]; exact y3); clear y3 k3)
        --@RR
        go_roundw
        case rel => exact ⟨k + 1, by omega, by omega, by go_num, Y3⟩
        case measure => simp [intOf]; omega
      · have HKE : Hid (k = 1988) := Lib.hid (by omega)
        have d9 : ¬ (s9 : Int) < 2048 := by omega
        clear hs9
        go_wp2_with fail
        refine wp_region_held_drew (S := fun w' => w'.rangeAt w.heap.size 0 (hcs (fitX h) (.slice A n c)) ∧ w'.cell? ⟨w.heap.size, 42, none⟩ = some (.slice A n c) ∧ w'.cell? ⟨w.heap.size, 34, none⟩ = some (.int .u8 (h.pr : Int))) (by kernel_rfl) (HCL.out _ ((Keeps.refl _ wr).drew)) (fun hHeld => ?_)
        refine wpAnyH_take (i := 0) (v := ?_) rfl (by kernel_rfl) (by kernel_rfl) (by kernel_rfl) (fun _ _ _ h => h) (Or.inl ⟨by kernel_rfl, ?_⟩) (by assumption) ?_
        rotate_left
        · (intro w hSw; (try dsimp only at hSw); go_simp) <;> (try (with_reducible rfl))
        try simp only [Act.put, Array.getInternal_eq_getElem, List.getElem_toArray, List.getElem_cons_zero, List.getElem_cons_succ, List.setIfInBounds_toArray, List.set_cons_zero, List.set_cons_succ]
        refine wpAnyH_take (i := 1) (v := ?_) rfl (by kernel_rfl) (by kernel_rfl) (by kernel_rfl) (fun _ _ _ h => h) (Or.inl ⟨by kernel_rfl, ?_⟩) (by assumption) ?_
        rotate_left
        · (intro w hSw; (try dsimp only at hSw); go_simp) <;> (try (with_reducible rfl))
        try simp only [Act.put, Array.getInternal_eq_getElem, List.getElem_toArray, List.getElem_cons_zero, List.getElem_cons_succ, List.setIfInBounds_toArray, List.set_cons_zero, List.set_cons_succ]
        refine wpAnyH_take (i := 2) (v := ?_) rfl (by kernel_rfl) (by kernel_rfl) (by kernel_rfl) (fun _ _ _ h => h) (Or.inl ⟨by kernel_rfl, ?_⟩) (by assumption) ?_
        rotate_left
        · (intro w hSw; have hcell := hSw.2.1; go_simp) <;> (try (with_reducible rfl))
        try simp only [Act.put, Array.getInternal_eq_getElem, List.getElem_toArray, List.getElem_cons_zero, List.getElem_cons_succ, List.setIfInBounds_toArray, List.set_cons_zero, List.set_cons_succ]
        refine wpAnyH_take (i := 3) (v := ?_) rfl (by kernel_rfl) (by kernel_rfl) (by kernel_rfl) (fun _ _ _ h => h) (Or.inl ⟨by kernel_rfl, ?_⟩) (by assumption) ?_
        rotate_left
        · (intro w hSw; (try dsimp only at hSw); go_simp) <;> (try (with_reducible rfl))
        try simp only [Act.put, Array.getInternal_eq_getElem, List.getElem_toArray, List.getElem_cons_zero, List.getElem_cons_succ, List.setIfInBounds_toArray, List.set_cons_zero, List.set_cons_succ]
        refine wpAnyH_take (i := 4) (v := ?_) rfl (by kernel_rfl) (by kernel_rfl) (by kernel_rfl) (fun _ _ _ h => h) (Or.inl ⟨by kernel_rfl, ?_⟩) (by assumption) ?_
        rotate_left
        · (intro w hSw; (try dsimp only at hSw); go_simp) <;> (try (with_reducible rfl))
        try simp only [Act.put, Array.getInternal_eq_getElem, List.getElem_toArray, List.getElem_cons_zero, List.getElem_cons_succ, List.setIfInBounds_toArray, List.set_cons_zero, List.set_cons_succ]
        refine wpAnyH_take (i := 5) (v := ?_) rfl (by kernel_rfl) (by kernel_rfl) (by kernel_rfl) (fun _ _ _ h => h) (Or.inl ⟨by kernel_rfl, ?_⟩) (by assumption) ?_
        rotate_left
        · (intro w hSw; (try dsimp only at hSw); go_simp) <;> (try (with_reducible rfl))
        try simp only [Act.put, Array.getInternal_eq_getElem, List.getElem_toArray, List.getElem_cons_zero, List.getElem_cons_succ, List.setIfInBounds_toArray, List.set_cons_zero, List.set_cons_succ]
        refine' wpAnyH_take (i := 6) (v := _) rfl (by kernel_rfl) (by kernel_rfl) (by kernel_rfl) (fun _ _ _ h => h) (yieldsIf_load_mid (by kernel_rfl) _ _ rfl _ _ rfl _ _ (fun w hSw => hSw.1) Try.underlying29 rfl HSZ.out) (by assumption) ?_
        try simp only [Act.put, Array.getInternal_eq_getElem, List.getElem_toArray, List.getElem_cons_zero, List.getElem_cons_succ, List.setIfInBounds_toArray, List.set_cons_zero, List.set_cons_succ]
        refine wpAnyH_take (i := 8) (v := ?_) rfl (by kernel_rfl) (by kernel_rfl) (by kernel_rfl) (fun _ _ _ h => h) (Or.inl ⟨by kernel_rfl, ?_⟩) (by assumption) ?_
        rotate_left
        · (intro w hSw; (try dsimp only at hSw); go_simp) <;> (try (with_reducible rfl))
        try simp only [Act.put, Array.getInternal_eq_getElem, List.getElem_toArray, List.getElem_cons_zero, List.getElem_cons_succ, List.setIfInBounds_toArray, List.set_cons_zero, List.set_cons_succ]
        refine wpAnyH_take (i := 9) (v := ?_) rfl (by kernel_rfl) (by kernel_rfl) (by kernel_rfl) (fun _ _ _ h => h) (Or.inl ⟨by kernel_rfl, ?_⟩) (by assumption) ?_
        rotate_left
        · (intro w hSw; have hcell := hSw.2.2; go_simp) <;> (try (with_reducible rfl))
        try simp only [Act.put, Array.getInternal_eq_getElem, List.getElem_toArray, List.getElem_cons_zero, List.getElem_cons_succ, List.setIfInBounds_toArray, List.set_cons_zero, List.set_cons_succ]
        refine wpAnyH_take (i := 12) (v := ?_) rfl (by kernel_rfl) (by kernel_rfl) (by kernel_rfl) (fun _ _ _ h => h) (Or.inl ⟨by kernel_rfl, ?_⟩) (by assumption) ?_
        rotate_left
        · (intro w hSw; (try dsimp only at hSw); go_simp) <;> (try (with_reducible rfl))
        try simp only [Act.put, Array.getInternal_eq_getElem, List.getElem_toArray, List.getElem_cons_zero, List.getElem_cons_succ, List.setIfInBounds_toArray, List.set_cons_zero, List.set_cons_succ]
        refine wpAnyH_ready (rs := [7]) (by kernel_rfl) (by simp) ?_
        refine AllReadyH.cons rfl (fun K hK => ?_) AllReadyH.nil
        (rw [if_pos (by kernel_rfl)]; go_simp; go_at_call 33; refine ((HFR _).out).mono ?_; rintro e ua ⟨rfl, ka⟩; have KA := Lib.hid (((Keeps.refl (fun _ => False) wr).drew).trans (ka _)); clear ka)
        refine hK.out _ _ (HCL.out _ KA.out) (fun hHeld => ?_)
        clear hK K
        try simp only [Act.put, Array.getInternal_eq_getElem, List.getElem_toArray, List.getElem_cons_zero, List.getElem_cons_succ, List.setIfInBounds_toArray, List.set_cons_zero, List.set_cons_succ]
        refine wpAnyH_ready (rs := [10]) (by kernel_rfl) (by simp) ?_
        refine AllReadyH.cons rfl (fun K hK => ?_) AllReadyH.nil
        (rw [if_pos (by kernel_rfl)]; go_simp; go_at_call 32; refine ((HM _).out).mono ?_; rintro e wx ⟨rfl, h9⟩; subst wx)
        refine hK.out _ _ (HCL.out _ KA.out) (fun hHeld => ?_)
        clear hK K
        try simp only [Act.put, Array.getInternal_eq_getElem, List.getElem_toArray, List.getElem_cons_zero, List.getElem_cons_succ, List.setIfInBounds_toArray, List.set_cons_zero, List.set_cons_succ]
        refine wpAnyH_take (i := 11) (v := ?_) rfl (by kernel_rfl) (by kernel_rfl) (by kernel_rfl) (fun _ _ _ h => h) (Or.inl ⟨by kernel_rfl, ?_⟩) (by assumption) ?_
        rotate_left
        · (intro w hSw; (try dsimp only at hSw); go_simp) <;> (try (with_reducible rfl))
        try simp only [Act.put, Array.getInternal_eq_getElem, List.getElem_toArray, List.getElem_cons_zero, List.getElem_cons_succ, List.setIfInBounds_toArray, List.set_cons_zero, List.set_cons_succ]
        refine wpAnyH_take (i := 13) (v := ?_) rfl (by kernel_rfl) (by kernel_rfl) (by kernel_rfl) (fun _ _ _ h => h) (Or.inl ⟨by kernel_rfl, ?_⟩) (by assumption) ?_
        rotate_left
        · (intro w hSw; (try dsimp only at hSw); go_simp) <;> (try (with_reducible rfl))
        try simp only [Act.put, Array.getInternal_eq_getElem, List.getElem_toArray, List.getElem_cons_zero, List.getElem_cons_succ, List.setIfInBounds_toArray, List.set_cons_zero, List.set_cons_succ]
        refine wpAnyH_take (i := 14) (v := ?_) rfl (by kernel_rfl) (by kernel_rfl) (by kernel_rfl) (fun _ _ _ h => h) (Or.inl ⟨by kernel_rfl, ?_⟩) (by assumption) ?_
        rotate_left
        · (intro w hSw; (try dsimp only at hSw); go_simp) <;> (try (with_reducible rfl))
        try simp only [Act.put, Array.getInternal_eq_getElem, List.getElem_toArray, List.getElem_cons_zero, List.getElem_cons_succ, List.setIfInBounds_toArray, List.set_cons_zero, List.set_cons_succ]
        refine wpAnyH_take (i := 15) (v := ?_) rfl (by kernel_rfl) (by kernel_rfl) (by kernel_rfl) (fun _ _ _ h => h) (Or.inl ⟨by kernel_rfl, ?_⟩) (by assumption) ?_
        rotate_left
        · (intro w hSw; (try dsimp only at hSw); go_simp) <;> (try (with_reducible rfl))
        try simp only [Act.put, Array.getInternal_eq_getElem, List.getElem_toArray, List.getElem_cons_zero, List.getElem_cons_succ, List.setIfInBounds_toArray, List.set_cons_zero, List.set_cons_succ]
        refine wpAnyH_done ?_ ?_ _
        · kernel_rfl
        obtain ⟨A5, c5, rfl, r5⟩ := hy.out.rd
        obtain ⟨m5, hm5⟩ : ∃ m5, (h.dat.take k).length = m5 := ⟨_, rfl⟩
        rw [hm5] at hy ⊢
        have ed : (fit h).dat = h.dat.take k := by
          show h.dat.take (2048 - (fsz h + mids h.pr)) = _
          rw [HLR.out.2.2.2, HLR.out.2.2.1]
          rw [HKE.out]
        have kwL : ∀ S, Keeps S w wL := keeps_own HK2.out PL.out (Nat.le_refl _)
        have sL : w.heap.size + 2 ≤ wL.heap.size := by have := PL.out.size; have := HZ.out.lt; omega
        have kx : ∀ S, Keeps S wL ua := fun S => (hy.out.keep S).trans (KA.out.mono (fun _ _ z => z.elim))
        have gx := Blk.keeps GL.out (kx (fun _ => False)) (fun z => z)
        have wfx := fitX_wf HWF.out
        have c42 : (ua).cell? ⟨w.heap.size, 42, none⟩ = some _ := h_cell gx wfx.s wfx.d 8 _ rfl
        have f42 : (ua).frozen? ⟨w.heap.size, 42, none⟩ = false := gx.frozen 42
        have g6 := st_dat gx wfx.s wfx.d (.slice A5 m5 c5) (fit h).dat
        have p6 := keeps_put (G := w.heap.size) (Keeps.refl _ (ua)) 42 (.slice A5 m5 c5)
        obtain ⟨w6, hw6⟩ : ∃ y, y = (ua).setCell ⟨w.heap.size, 42, none⟩ (.slice A5 m5 c5) := ⟨_, rfl⟩
        rw [← hw6] at g6 p6
        have GF : Hid (Blk w6 w.heap.size 29 (hcs (fit h) (.slice A5 m5 c5))) := Lib.hid g6
        have zz := Blk.keeps (Blk.keeps (Blk.keeps HZ.out PL.out (by omega)) (kx (fun _ => False)) (fun z => z)) p6 (by omega)
        obtain ⟨tz, bz, kz⟩ := p_store zz (cs := hcs (fit h) (.slice A5 m5 c5)) (by rw [hcs_len (fit_wf HWF.out)]; rfl)
        have yy : By w (w6.setCells (w.heap.size + 1) 0 (hcs (fit h) (.slice A5 m5 c5))) (.slice A5 m5 c5) (fit h).dat := by
          rw [ed]
          exact past_ (past_ (By.base (By.grown hy.out (fun S => (KA.out.mono (fun _ _ z => z.elim)))) kwL) p6 (Nat.le_refl _) (hy.out.apart (by omega))) kz (by omega) (hy.out.apart (by omega))
        have HTZ := Lib.hid tz
        have HBZ := Lib.hid bz
        have HYY := Lib.hid yy
        have HW6 := Lib.hid hw6
        have HSF := Lib.hid (hd_sz (fit_wf HWF.out) (.slice A5 m5 c5))
        have HSG := Lib.hid (all_oneCell_toArray (hcs_one (h := fit h) (v := .slice A5 m5 c5) rfl))
        clear hw6 g6 p6 zz tz bz kz yy gx kx kwL sL r5 wfx ed
        go_wp2_with (first
          | ((with_reducible show wpList _ _ _ (⟨some 74, _, _, _, _, _⟩ :: _) _ _); (try rw [← HW6.out]); refine wpList_load_mid rfl 29 _ rfl w.heap.size 0 rfl (hcs (fit h) (.slice A5 m5 c5)) _ (Blk.range GF.out) Try.underlying29 rfl HSF.out ?_)
          | ((with_reducible show wpList _ _ _ (⟨none, .store _ (.tmp 2) _, _, _, _, _⟩ :: _) _ _); refine' wpList_store_mid rfl 29 _ _ rfl (w.heap.size + 1) 0 (hcs (fit h) (.slice A5 m5 c5)).toArray ?hx rfl ?ht HSF.out HSG.out ?_; (case hx => rfl); (case ht => exact HTZ.out)))
        try rw [Exit.noGoto_ret]
        refine bodyPost_ret (results_cell_row (p := 2) (ty := 29) (by kernel_rfl) _ _ (w.heap.size + 1) _ _ _ _ (by rfl) HBZ.out Try.underlying29 rfl (by rw [List.size_toArray]; exact HSF.out)) rfl ?_
        exact ⟨_, rfl, HYY.out⟩

    · have dlt : ¬ (k : Int) < (n : Int) := by omega
      clear hs9
      go_wp2_with fail
      refine wp_region_held_drew (S := fun w' => w'.rangeAt w.heap.size 0 (hcs (fitX h) (.slice A n c)) ∧ w'.cell? ⟨w.heap.size, 42, none⟩ = some (.slice A n c) ∧ w'.cell? ⟨w.heap.size, 34, none⟩ = some (.int .u8 (h.pr : Int))) (by kernel_rfl) (HCL.out _ ((Keeps.refl _ wr).drew)) (fun hHeld => ?_)
      refine wpAnyH_take (i := 0) (v := ?_) rfl (by kernel_rfl) (by kernel_rfl) (by kernel_rfl) (fun _ _ _ h => h) (Or.inl ⟨by kernel_rfl, ?_⟩) (by assumption) ?_
      rotate_left
      · (intro w hSw; (try dsimp only at hSw); go_simp) <;> (try (with_reducible rfl))
      try simp only [Act.put, Array.getInternal_eq_getElem, List.getElem_toArray, List.getElem_cons_zero, List.getElem_cons_succ, List.setIfInBounds_toArray, List.set_cons_zero, List.set_cons_succ]
      refine wpAnyH_take (i := 1) (v := ?_) rfl (by kernel_rfl) (by kernel_rfl) (by kernel_rfl) (fun _ _ _ h => h) (Or.inl ⟨by kernel_rfl, ?_⟩) (by assumption) ?_
      rotate_left
      · (intro w hSw; (try dsimp only at hSw); go_simp) <;> (try (with_reducible rfl))
      try simp only [Act.put, Array.getInternal_eq_getElem, List.getElem_toArray, List.getElem_cons_zero, List.getElem_cons_succ, List.setIfInBounds_toArray, List.set_cons_zero, List.set_cons_succ]
      refine wpAnyH_take (i := 2) (v := ?_) rfl (by kernel_rfl) (by kernel_rfl) (by kernel_rfl) (fun _ _ _ h => h) (Or.inl ⟨by kernel_rfl, ?_⟩) (by assumption) ?_
      rotate_left
      · (intro w hSw; have hcell := hSw.2.1; go_simp) <;> (try (with_reducible rfl))
      try simp only [Act.put, Array.getInternal_eq_getElem, List.getElem_toArray, List.getElem_cons_zero, List.getElem_cons_succ, List.setIfInBounds_toArray, List.set_cons_zero, List.set_cons_succ]
      refine wpAnyH_take (i := 3) (v := ?_) rfl (by kernel_rfl) (by kernel_rfl) (by kernel_rfl) (fun _ _ _ h => h) (Or.inl ⟨by kernel_rfl, ?_⟩) (by assumption) ?_
      rotate_left
      · (intro w hSw; (try dsimp only at hSw); go_simp) <;> (try (with_reducible rfl))
      try simp only [Act.put, Array.getInternal_eq_getElem, List.getElem_toArray, List.getElem_cons_zero, List.getElem_cons_succ, List.setIfInBounds_toArray, List.set_cons_zero, List.set_cons_succ]
      refine wpAnyH_take (i := 4) (v := ?_) rfl (by kernel_rfl) (by kernel_rfl) (by kernel_rfl) (fun _ _ _ h => h) (Or.inl ⟨by kernel_rfl, ?_⟩) (by assumption) ?_
      rotate_left
      · (intro w hSw; (try dsimp only at hSw); go_simp) <;> (try (with_reducible rfl))
      try simp only [Act.put, Array.getInternal_eq_getElem, List.getElem_toArray, List.getElem_cons_zero, List.getElem_cons_succ, List.setIfInBounds_toArray, List.set_cons_zero, List.set_cons_succ]
      refine wpAnyH_take (i := 5) (v := ?_) rfl (by kernel_rfl) (by kernel_rfl) (by kernel_rfl) (fun _ _ _ h => h) (Or.inl ⟨by kernel_rfl, ?_⟩) (by assumption) ?_
      rotate_left
      · (intro w hSw; (try dsimp only at hSw); go_simp) <;> (try (with_reducible rfl))
      try simp only [Act.put, Array.getInternal_eq_getElem, List.getElem_toArray, List.getElem_cons_zero, List.getElem_cons_succ, List.setIfInBounds_toArray, List.set_cons_zero, List.set_cons_succ]
      refine wpAnyH_take (i := 6) (v := undef) rfl (by kernel_rfl) (by kernel_rfl) (by kernel_rfl) (fun _ _ _ h => h) (Or.inr ⟨by kernel_rfl, rfl⟩) (by assumption) ?_
      try simp only [Act.put, Array.getInternal_eq_getElem, List.getElem_toArray, List.getElem_cons_zero, List.getElem_cons_succ, List.setIfInBounds_toArray, List.set_cons_zero, List.set_cons_succ]
      refine wpAnyH_take (i := 7) (v := undef) rfl (by kernel_rfl) (by kernel_rfl) (by kernel_rfl) (fun _ _ _ h => h) (Or.inr ⟨by kernel_rfl, rfl⟩) (by assumption) ?_
      try simp only [Act.put, Array.getInternal_eq_getElem, List.getElem_toArray, List.getElem_cons_zero, List.getElem_cons_succ, List.setIfInBounds_toArray, List.set_cons_zero, List.set_cons_succ]
      refine wpAnyH_take (i := 8) (v := undef) rfl (by kernel_rfl) (by kernel_rfl) (by kernel_rfl) (fun _ _ _ h => h) (Or.inr ⟨by kernel_rfl, rfl⟩) (by assumption) ?_
      try simp only [Act.put, Array.getInternal_eq_getElem, List.getElem_toArray, List.getElem_cons_zero, List.getElem_cons_succ, List.setIfInBounds_toArray, List.set_cons_zero, List.set_cons_succ]
      refine wpAnyH_take (i := 9) (v := undef) rfl (by kernel_rfl) (by kernel_rfl) (by kernel_rfl) (fun _ _ _ h => h) (Or.inr ⟨by kernel_rfl, rfl⟩) (by assumption) ?_
      try simp only [Act.put, Array.getInternal_eq_getElem, List.getElem_toArray, List.getElem_cons_zero, List.getElem_cons_succ, List.setIfInBounds_toArray, List.set_cons_zero, List.set_cons_succ]
      refine wpAnyH_take (i := 10) (v := undef) rfl (by kernel_rfl) (by kernel_rfl) (by kernel_rfl) (fun _ _ _ h => h) (Or.inr ⟨by kernel_rfl, rfl⟩) (by assumption) ?_
      try simp only [Act.put, Array.getInternal_eq_getElem, List.getElem_toArray, List.getElem_cons_zero, List.getElem_cons_succ, List.setIfInBounds_toArray, List.set_cons_zero, List.set_cons_succ]
      refine wpAnyH_take (i := 11) (v := undef) rfl (by kernel_rfl) (by kernel_rfl) (by kernel_rfl) (fun _ _ _ h => h) (Or.inr ⟨by kernel_rfl, rfl⟩) (by assumption) ?_
      try simp only [Act.put, Array.getInternal_eq_getElem, List.getElem_toArray, List.getElem_cons_zero, List.getElem_cons_succ, List.setIfInBounds_toArray, List.set_cons_zero, List.set_cons_succ]
      refine wpAnyH_take (i := 12) (v := undef) rfl (by kernel_rfl) (by kernel_rfl) (by kernel_rfl) (fun _ _ _ h => h) (Or.inr ⟨by kernel_rfl, rfl⟩) (by assumption) ?_
      try simp only [Act.put, Array.getInternal_eq_getElem, List.getElem_toArray, List.getElem_cons_zero, List.getElem_cons_succ, List.setIfInBounds_toArray, List.set_cons_zero, List.set_cons_succ]
      refine wpAnyH_take (i := 13) (v := undef) rfl (by kernel_rfl) (by kernel_rfl) (by kernel_rfl) (fun _ _ _ h => h) (Or.inr ⟨by kernel_rfl, rfl⟩) (by assumption) ?_
      try simp only [Act.put, Array.getInternal_eq_getElem, List.getElem_toArray, List.getElem_cons_zero, List.getElem_cons_succ, List.setIfInBounds_toArray, List.set_cons_zero, List.set_cons_succ]
      refine wpAnyH_take (i := 14) (v := undef) rfl (by kernel_rfl) (by kernel_rfl) (by kernel_rfl) (fun _ _ _ h => h) (Or.inr ⟨by kernel_rfl, rfl⟩) (by assumption) ?_
      try simp only [Act.put, Array.getInternal_eq_getElem, List.getElem_toArray, List.getElem_cons_zero, List.getElem_cons_succ, List.setIfInBounds_toArray, List.set_cons_zero, List.set_cons_succ]
      refine wpAnyH_take (i := 15) (v := ?_) rfl (by kernel_rfl) (by kernel_rfl) (by kernel_rfl) (fun _ _ _ h => h) (Or.inl ⟨by kernel_rfl, ?_⟩) (by assumption) ?_
      rotate_left
      · (intro w hSw; (try dsimp only at hSw); go_simp) <;> (try (with_reducible rfl))
      try simp only [Act.put, Array.getInternal_eq_getElem, List.getElem_toArray, List.getElem_cons_zero, List.getElem_cons_succ, List.setIfInBounds_toArray, List.set_cons_zero, List.set_cons_succ]
      refine wpAnyH_done ?_ ?_ _
      · kernel_rfl
      obtain ⟨wq, hwq⟩ : ∃ y, y = wr.drew := ⟨_, rfl⟩
      rw [← hwq]
      have KQ : Hid (∀ S, Keeps S wr wq) := Lib.hid (fun S => by rw [hwq]; exact (Keeps.refl S wr).drew)
      clear hwq
      obtain ⟨A5, c5, rfl, r5⟩ := hy.out.rd
      obtain ⟨m5, hm5⟩ : ∃ m5, (h.dat.take k).length = m5 := ⟨_, rfl⟩
      rw [hm5] at hy ⊢
      have ed : (fit h).dat = h.dat.take k := by
        show h.dat.take (2048 - (fsz h + mids h.pr)) = _
        rw [HLR.out.2.2.2, HLR.out.2.2.1]
        rw [List.take_of_length_le (by have := HLR.out.1; omega), List.take_of_length_le (by have := HLR.out.1; omega)]
      have kwL : ∀ S, Keeps S w wL := keeps_own HK2.out PL.out (Nat.le_refl _)
      have sL : w.heap.size + 2 ≤ wL.heap.size := by have := PL.out.size; have := HZ.out.lt; omega
      have kx : ∀ S, Keeps S wL wq := fun S => (hy.out.keep S).trans (KQ.out S)
      have gx := Blk.keeps GL.out (kx (fun _ => False)) (fun z => z)
      have wfx := fitX_wf HWF.out
      have c42 : (wq).cell? ⟨w.heap.size, 42, none⟩ = some _ := h_cell gx wfx.s wfx.d 8 _ rfl
      have f42 : (wq).frozen? ⟨w.heap.size, 42, none⟩ = false := gx.frozen 42
      have g6 := st_dat gx wfx.s wfx.d (.slice A5 m5 c5) (fit h).dat
      have p6 := keeps_put (G := w.heap.size) (Keeps.refl _ (wq)) 42 (.slice A5 m5 c5)
      obtain ⟨w6, hw6⟩ : ∃ y, y = (wq).setCell ⟨w.heap.size, 42, none⟩ (.slice A5 m5 c5) := ⟨_, rfl⟩
      rw [← hw6] at g6 p6
      have GF : Hid (Blk w6 w.heap.size 29 (hcs (fit h) (.slice A5 m5 c5))) := Lib.hid g6
      have zz := Blk.keeps (Blk.keeps (Blk.keeps HZ.out PL.out (by omega)) (kx (fun _ => False)) (fun z => z)) p6 (by omega)
      obtain ⟨tz, bz, kz⟩ := p_store zz (cs := hcs (fit h) (.slice A5 m5 c5)) (by rw [hcs_len (fit_wf HWF.out)]; rfl)
      have yy : By w (w6.setCells (w.heap.size + 1) 0 (hcs (fit h) (.slice A5 m5 c5))) (.slice A5 m5 c5) (fit h).dat := by
        rw [ed]
        exact past_ (past_ (By.base (By.grown hy.out (fun S => (KQ.out S))) kwL) p6 (Nat.le_refl _) (hy.out.apart (by omega))) kz (by omega) (hy.out.apart (by omega))
      have HTZ := Lib.hid tz
      have HBZ := Lib.hid bz
      have HYY := Lib.hid yy
      have HW6 := Lib.hid hw6
      have HSF := Lib.hid (hd_sz (fit_wf HWF.out) (.slice A5 m5 c5))
      have HSG := Lib.hid (all_oneCell_toArray (hcs_one (h := fit h) (v := .slice A5 m5 c5) rfl))
      clear hw6 g6 p6 zz tz bz kz yy gx kx kwL sL r5 wfx ed
      go_wp2_with (first
        | ((with_reducible show wpList _ _ _ (⟨some 74, _, _, _, _, _⟩ :: _) _ _); (try rw [← HW6.out]); refine wpList_load_mid rfl 29 _ rfl w.heap.size 0 rfl (hcs (fit h) (.slice A5 m5 c5)) _ (Blk.range GF.out) Try.underlying29 rfl HSF.out ?_)
        | ((with_reducible show wpList _ _ _ (⟨none, .store _ (.tmp 2) _, _, _, _, _⟩ :: _) _ _); refine' wpList_store_mid rfl 29 _ _ rfl (w.heap.size + 1) 0 (hcs (fit h) (.slice A5 m5 c5)).toArray ?hx rfl ?ht HSF.out HSG.out ?_; (case hx => rfl); (case ht => exact HTZ.out)))
      try rw [Exit.noGoto_ret]
      refine bodyPost_ret (results_cell_row (p := 2) (ty := 29) (by kernel_rfl) _ _ (w.heap.size + 1) _ _ _ _ (by rfl) HBZ.out Try.underlying29 rfl (by rw [List.size_toArray]; exact HSF.out)) rfl ?_
      exact ⟨_, rfl, HYY.out⟩

set_option maxRecDepth 100000 in
set_option maxHeartbeats 4000000 in
theorem rfit_t17 (h : Hd) (A : Option Addr) (n c : Nat) (hw : h.Wf) (hl : h.dat.length = n) (hn : n ≤ 140737488355328) (hr : Rd w w.heap.size A (by_ h.dat)) (hv : h.src.v6 = true) (hp : h.pr = 17) :
    Calls Try.prog 22 #[hvv h (.slice A n c)] w fun e w' => ∃ v, e = .returned (hvv (fit h) v) ∧ By w w' v (fit h).dat := by
  obtain ⟨w2, hw2, k2, bG, bZ, s2⟩ := box2 w (hcs h (.slice A n c)) zhd 29 29
  dsimp only [zhd] at hw2
  have hms : mids h.pr = 8 := by rw [hp]; rfl
  have hfs : fsz h = 40 := by unfold fsz; rw [hv]; rfl
  have HM : ∀ u, Hid (Calls Try.prog 32 #[.int .u8 (h.pr : Int)] u fun e w' => e = .returned (.int .i64 8) ∧ w' = u) := fun u => Lib.hid (by have := rmids_ u h.pr; rw [hms] at this; exact this)
  have h1 := hw.s
  have h2 := hw.d
  have c00 := (HF.of_blk hw bG).v6s
  rw [hv] at c00
  have c17 := c_dv6 bG h1
  have f17 := bG.frozen 17
  have g0 := st_dv6 bG h1 true
  have p0 := keeps_put (G := w.heap.size) (Keeps.refl _ w2) 17 (.bool true)
  have c01 : (w2.setCell ⟨w.heap.size, 17, none⟩ (.bool true)).cell? ⟨w.heap.size, 0, none⟩ = some (.bool true) := by rw [g0.cell, ← hv]; rfl
  have HW2 := Lib.hid hw2
  have HWF := Lib.hid hw
  have HLR := Lib.hid (And.intro hl (And.intro hv (And.intro hms hfs)))
  have HR := Lib.hid hr
  have HP := Lib.hid hp
  have HK2 := Lib.hid k2
  have HG0 := Lib.hid g0
  have HP0 := Lib.hid p0
  have HZ := Lib.hid bZ
  unfold hvv
  clear hw2 k2 bG bZ s2 hw hl hr g0 p0 h1 h2 hms hfs hv hp
  generalize hC : hcs h (.slice A n c) = C at *
  have HCC := Lib.hid hC
  clear hC
  go_enter Try.func22, Try.ntmps22
  go_wp2_with ((with_reducible show wpList _ _ _ (⟨some 6, _, _, _, _, _⟩ :: _) _ _); (try rw [← HW2.out]); refine rest_of ?_)
  unfold Rest_
  obtain ⟨y0, hy0⟩ : ∃ y, y = w2.setCell ⟨w.heap.size, 17, none⟩ (.bool true) := ⟨_, rfl⟩
  have G0 : Hid (Blk y0 w.heap.size 29 _) := Lib.hid (by rw [hy0]; exact HG0.out)
  have P0 : Hid (Keeps (· = w.heap.size) w2 y0) := Lib.hid (by rw [hy0]; exact HP0.out)
  have HY0 := Lib.hid hy0
  clear hy0
  have z1 := HWF.out.s
  have z2 : (⟨true, h.dst.B⟩ : Ad).Wf := ⟨HWF.out.d.len, HWF.out.d.sm⟩
  have ci0 : (w2.setCell ⟨w.heap.size, 17, none⟩ (.bool true)).cell? ⟨w.heap.size, 39, none⟩ = some (.int .u32 (h.id : Int)) := h_cell (HG0.out) z1 z2 5 _ rfl
  obtain ⟨i1, hi1⟩ : ∃ i1, i1 = h.id % 1048576 := ⟨_, rfl⟩
  have zi1 : (h.id : Int) % 1048576 = (i1 : Int) := (by omega)
  have zi2 : Int.tmod (h.id : Int) 1048576 = (i1 : Int) := (by rw [Int.tmod_eq_emod_of_nonneg (Int.natCast_nonneg _)]; omega)
  have cx1 : (w2.setCell ⟨w.heap.size, 17, none⟩ (.bool true)).cell? ⟨w.heap.size, 39, none⟩ = some _ := h_cell (HG0.out) z1 z2 5 _ rfl
  have fx1 : (w2.setCell ⟨w.heap.size, 17, none⟩ (.bool true)).frozen? ⟨w.heap.size, 39, none⟩ = false := (HG0.out).frozen 39
  have gg1 := st_id (HG0.out) z1 z2 i1
  have pq1 := keeps_put (G := w.heap.size) (HP0.out) 39 (.int .u32 (i1 : Int))
  have cp0 : ((w2.setCell ⟨w.heap.size, 17, none⟩ (.bool true)).setCell ⟨w.heap.size, 39, none⟩ (.int .u32 (i1 : Int))).cell? ⟨w.heap.size, 34, none⟩ = some (.int .u8 (h.pr : Int)) := h_cell (gg1) z1 z2 0 _ rfl
  have d6 : ((h.pr : Int) != 6) = true := bne_iff_ne.2 (by have := HP.out; omega)
  have cx2 : ((w2.setCell ⟨w.heap.size, 17, none⟩ (.bool true)).setCell ⟨w.heap.size, 39, none⟩ (.int .u32 (i1 : Int))).cell? ⟨w.heap.size, 40, none⟩ = some _ := h_cell (gg1) z1 z2 6 _ rfl
  have fx2 : ((w2.setCell ⟨w.heap.size, 17, none⟩ (.bool true)).setCell ⟨w.heap.size, 39, none⟩ (.int .u32 (i1 : Int))).frozen? ⟨w.heap.size, 40, none⟩ = false := (gg1).frozen 40
  have gg2 := st_fl (gg1) z1 z2 0
  have pq2 := keeps_put (G := w.heap.size) (pq1) 40 (.int .u8 0)
  have cx3 : (((w2.setCell ⟨w.heap.size, 17, none⟩ (.bool true)).setCell ⟨w.heap.size, 39, none⟩ (.int .u32 (i1 : Int))).setCell ⟨w.heap.size, 40, none⟩ (.int .u8 0)).cell? ⟨w.heap.size, 41, none⟩ = some _ := h_cell (gg2) z1 z2 7 _ rfl
  have fx3 : (((w2.setCell ⟨w.heap.size, 17, none⟩ (.bool true)).setCell ⟨w.heap.size, 39, none⟩ (.int .u32 (i1 : Int))).setCell ⟨w.heap.size, 40, none⟩ (.int .u8 0)).frozen? ⟨w.heap.size, 41, none⟩ = false := (gg2).frozen 41
  have gg3 := st_seq (gg2) z1 z2 0
  have pq3 := keeps_put (G := w.heap.size) (pq2) 41 (.int .u32 0)
  have cp1 : ((((w2.setCell ⟨w.heap.size, 17, none⟩ (.bool true)).setCell ⟨w.heap.size, 39, none⟩ (.int .u32 (i1 : Int))).setCell ⟨w.heap.size, 40, none⟩ (.int .u8 0)).setCell ⟨w.heap.size, 41, none⟩ (.int .u32 0)).cell? ⟨w.heap.size, 34, none⟩ = some (.int .u8 (h.pr : Int)) := h_cell (gg3) z1 z2 0 _ rfl
  obtain ⟨wL, hwL⟩ : ∃ y, y = (((w2.setCell ⟨w.heap.size, 17, none⟩ (.bool true)).setCell ⟨w.heap.size, 39, none⟩ (.int .u32 (i1 : Int))).setCell ⟨w.heap.size, 40, none⟩ (.int .u8 0)).setCell ⟨w.heap.size, 41, none⟩ (.int .u32 0) := ⟨_, rfl⟩
  have GL : Hid (Blk wL w.heap.size 29 (hcs (fitX h) (.slice A n c))) := Lib.hid (by rw [hwL]; have e := gg3; rw [fitX_t17 HWF.out HLR.out.2.1 HP.out, ← hi1]; exact e)
  have PL : Hid (Keeps (· = w.heap.size) w2 wL) := Lib.hid (by rw [hwL]; exact pq3)
  have HWL := Lib.hid hwL
  clear hwL hi1 gg1 pq1 gg2 pq2 gg3 pq3
  go_wp2_with (first | ((with_reducible show Calls _ 32 _ _ _); refine (HM _).out.mono ?_; rintro e wx ⟨rfl, h9⟩; subst wx))
  try rw [← HWL.out]
  clear cx1 fx1 cx2 fx2 cx3 fx3 ci0 zi1 zi2 cp0 d6 c00 c17 f17 c01 cp1 z1 z2
  have HSZ := Lib.hid (hd_sz (fitX_wf HWF.out) (.slice A n c))
  have HFR : ∀ u, Hid (Calls Try.prog 33 #[.agg (hcs (fitX h) (.slice A n c)).toArray] u fun e w' => e = .returned (.int .i64 40) ∧ ∀ S, Keeps S u w') := fun u => Lib.hid (by
    have := rfsz_ u (fitX h) (.slice A n c) (fitX_wf HWF.out)
    rw [show fsz (fitX h) = 40 from by show (if (fitA _ _).v6 = true then 40 else 20) = _; rw [fit_v6, HLR.out.2.1]; rfl] at this
    exact this)
  have ew : IntKind.i64.wrap 48 = 48 := by decide
  --@L2
  go_loopw [4, 5] (fun v i wr => ∃ k : Nat, k ≤ n ∧ k ≤ 2000 ∧ i = .int .i64 k ∧ Hid (By wL wr v (h.dat.take k))) (fun _ i _ => 2001 - (intOf i).toNat)
  case atStart => exact ⟨0, by omega, by omega, rfl, Lib.hid (by rw [List.take_zero]; exact By.nil_ (fun S => Keeps.refl S wL))⟩
  case round =>
    obtain ⟨k, hkn, hkL, rfl, hy⟩ := hrel
    have HCL : Hid (∀ wq, Keeps (fun _ => False) wr wq → wq.rangeAt w.heap.size 0 (hcs (fitX h) (.slice A n c)) ∧ wq.cell? ⟨w.heap.size, 42, none⟩ = some (.slice A n c) ∧ wq.cell? ⟨w.heap.size, 34, none⟩ = some (.int .u8 (h.pr : Int))) := Lib.hid (fun wq kq => by
      have b := Blk.keeps GL.out ((hy.out.keep _).trans kq) (fun z => z)
      exact ⟨Blk.range b, (HF.of_blk (fitX_wf HWF.out) b).dat, (HF.of_blk (fitX_wf HWF.out) b).pr⟩)
    obtain ⟨s9, hs9⟩ : ∃ s9 : Nat, s9 = 48 + k := ⟨_, rfl⟩
    have e9 : IntKind.i64.wrap ((48 : Int) + (k : Int)) = (s9 : Int) := by rw [wi64 (by omega) (by omega)]; omega
    by_cases hlt : k < n
    · have dlt : (k : Int) < (n : Int) := by omega
      by_cases hl2 : k < 2000
      · have d9 : (s9 : Int) < 2048 := by omega
        obtain ⟨b, o, hA, _, _⟩ := HR.out.byte (getq (bs := h.dat) (k := k) (by have := HLR.out.1; omega))
        subst hA
        clear hs9
        go_wp2_with fail
        --@R
        refine wp_region_held_drew (S := fun w' => w'.rangeAt w.heap.size 0 (hcs (fitX h) (.slice (some ⟨b, o, none⟩) n c)) ∧ w'.cell? ⟨w.heap.size, 42, none⟩ = some (.slice (some ⟨b, o, none⟩) n c) ∧ w'.cell? ⟨w.heap.size, 34, none⟩ = some (.int .u8 (h.pr : Int))) (by kernel_rfl) (HCL.out _ ((Keeps.refl _ wr).drew)) (fun hHeld => ?_)
        refine wpAnyH_take (i := 0) (v := ?_) rfl (by kernel_rfl) (by kernel_rfl) (by kernel_rfl) (fun _ _ _ h => h) (Or.inl ⟨by kernel_rfl, ?_⟩) (by assumption) ?_
        rotate_left
        · (intro w hSw; (try dsimp only at hSw); go_simp) <;> (try (with_reducible rfl))
        try simp only [Act.put, Array.getInternal_eq_getElem, List.getElem_toArray, List.getElem_cons_zero, List.getElem_cons_succ, List.setIfInBounds_toArray, List.set_cons_zero, List.set_cons_succ]
        refine wpAnyH_take (i := 1) (v := ?_) rfl (by kernel_rfl) (by kernel_rfl) (by kernel_rfl) (fun _ _ _ h => h) (Or.inl ⟨by kernel_rfl, ?_⟩) (by assumption) ?_
        rotate_left
        · (intro w hSw; (try dsimp only at hSw); go_simp) <;> (try (with_reducible rfl))
        try simp only [Act.put, Array.getInternal_eq_getElem, List.getElem_toArray, List.getElem_cons_zero, List.getElem_cons_succ, List.setIfInBounds_toArray, List.set_cons_zero, List.set_cons_succ]
        refine wpAnyH_take (i := 2) (v := ?_) rfl (by kernel_rfl) (by kernel_rfl) (by kernel_rfl) (fun _ _ _ h => h) (Or.inl ⟨by kernel_rfl, ?_⟩) (by assumption) ?_
        rotate_left
        · (intro w hSw; have hcell := hSw.2.1; go_simp) <;> (try (with_reducible rfl))
        try simp only [Act.put, Array.getInternal_eq_getElem, List.getElem_toArray, List.getElem_cons_zero, List.getElem_cons_succ, List.setIfInBounds_toArray, List.set_cons_zero, List.set_cons_succ]
        refine wpAnyH_take (i := 3) (v := ?_) rfl (by kernel_rfl) (by kernel_rfl) (by kernel_rfl) (fun _ _ _ h => h) (Or.inl ⟨by kernel_rfl, ?_⟩) (by assumption) ?_
        rotate_left
        · (intro w hSw; (try dsimp only at hSw); go_simp) <;> (try (with_reducible rfl))
        try simp only [Act.put, Array.getInternal_eq_getElem, List.getElem_toArray, List.getElem_cons_zero, List.getElem_cons_succ, List.setIfInBounds_toArray, List.set_cons_zero, List.set_cons_succ]
        refine wpAnyH_take (i := 4) (v := ?_) rfl (by kernel_rfl) (by kernel_rfl) (by kernel_rfl) (fun _ _ _ h => h) (Or.inl ⟨by kernel_rfl, ?_⟩) (by assumption) ?_
        rotate_left
        · (intro w hSw; (try dsimp only at hSw); go_simp) <;> (try (with_reducible rfl))
        try simp only [Act.put, Array.getInternal_eq_getElem, List.getElem_toArray, List.getElem_cons_zero, List.getElem_cons_succ, List.setIfInBounds_toArray, List.set_cons_zero, List.set_cons_succ]
        refine wpAnyH_take (i := 5) (v := ?_) rfl (by kernel_rfl) (by kernel_rfl) (by kernel_rfl) (fun _ _ _ h => h) (Or.inl ⟨by kernel_rfl, ?_⟩) (by assumption) ?_
        rotate_left
        · (intro w hSw; (try dsimp only at hSw); go_simp) <;> (try (with_reducible rfl))
        try simp only [Act.put, Array.getInternal_eq_getElem, List.getElem_toArray, List.getElem_cons_zero, List.getElem_cons_succ, List.setIfInBounds_toArray, List.set_cons_zero, List.set_cons_succ]
        refine' wpAnyH_take (i := 6) (v := _) rfl (by kernel_rfl) (by kernel_rfl) (by kernel_rfl) (fun _ _ _ h => h) (yieldsIf_load_mid (by kernel_rfl) _ _ rfl _ _ rfl _ _ (fun w hSw => hSw.1) Try.underlying29 rfl HSZ.out) (by assumption) ?_
        try simp only [Act.put, Array.getInternal_eq_getElem, List.getElem_toArray, List.getElem_cons_zero, List.getElem_cons_succ, List.setIfInBounds_toArray, List.set_cons_zero, List.set_cons_succ]
        refine wpAnyH_take (i := 8) (v := ?_) rfl (by kernel_rfl) (by kernel_rfl) (by kernel_rfl) (fun _ _ _ h => h) (Or.inl ⟨by kernel_rfl, ?_⟩) (by assumption) ?_
        rotate_left
        · (intro w hSw; (try dsimp only at hSw); go_simp) <;> (try (with_reducible rfl))
        try simp only [Act.put, Array.getInternal_eq_getElem, List.getElem_toArray, List.getElem_cons_zero, List.getElem_cons_succ, List.setIfInBounds_toArray, List.set_cons_zero, List.set_cons_succ]
        refine wpAnyH_take (i := 9) (v := ?_) rfl (by kernel_rfl) (by kernel_rfl) (by kernel_rfl) (fun _ _ _ h => h) (Or.inl ⟨by kernel_rfl, ?_⟩) (by assumption) ?_
        rotate_left
        · (intro w hSw; have hcell := hSw.2.2; go_simp) <;> (try (with_reducible rfl))
        try simp only [Act.put, Array.getInternal_eq_getElem, List.getElem_toArray, List.getElem_cons_zero, List.getElem_cons_succ, List.setIfInBounds_toArray, List.set_cons_zero, List.set_cons_succ]
        refine wpAnyH_take (i := 12) (v := ?_) rfl (by kernel_rfl) (by kernel_rfl) (by kernel_rfl) (fun _ _ _ h => h) (Or.inl ⟨by kernel_rfl, ?_⟩) (by assumption) ?_
        rotate_left
        · (intro w hSw; (try dsimp only at hSw); go_simp) <;> (try (with_reducible rfl))
        try simp only [Act.put, Array.getInternal_eq_getElem, List.getElem_toArray, List.getElem_cons_zero, List.getElem_cons_succ, List.setIfInBounds_toArray, List.set_cons_zero, List.set_cons_succ]
        refine wpAnyH_ready (rs := [7]) (by kernel_rfl) (by simp) ?_
        refine AllReadyH.cons rfl (fun K hK => ?_) AllReadyH.nil
        (rw [if_pos (by kernel_rfl)]; go_simp; go_at_call 33; refine ((HFR _).out).mono ?_; rintro e ua ⟨rfl, ka⟩; have KA := Lib.hid (((Keeps.refl (fun _ => False) wr).drew).trans (ka _)); clear ka)
        refine hK.out _ _ (HCL.out _ KA.out) (fun hHeld => ?_)
        clear hK K
        try simp only [Act.put, Array.getInternal_eq_getElem, List.getElem_toArray, List.getElem_cons_zero, List.getElem_cons_succ, List.setIfInBounds_toArray, List.set_cons_zero, List.set_cons_succ]
        refine wpAnyH_ready (rs := [10]) (by kernel_rfl) (by simp) ?_
        refine AllReadyH.cons rfl (fun K hK => ?_) AllReadyH.nil
        (rw [if_pos (by kernel_rfl)]; go_simp; go_at_call 32; refine ((HM _).out).mono ?_; rintro e wx ⟨rfl, h9⟩; subst wx)
        refine hK.out _ _ (HCL.out _ KA.out) (fun hHeld => ?_)
        clear hK K
        try simp only [Act.put, Array.getInternal_eq_getElem, List.getElem_toArray, List.getElem_cons_zero, List.getElem_cons_succ, List.setIfInBounds_toArray, List.set_cons_zero, List.set_cons_succ]
        refine wpAnyH_take (i := 11) (v := ?_) rfl (by kernel_rfl) (by kernel_rfl) (by kernel_rfl) (fun _ _ _ h => h) (Or.inl ⟨by kernel_rfl, ?_⟩) (by assumption) ?_
        rotate_left
        · (intro w hSw; (try dsimp only at hSw); go_simp) <;> (try (with_reducible rfl))
        try simp only [Act.put, Array.getInternal_eq_getElem, List.getElem_toArray, List.getElem_cons_zero, List.getElem_cons_succ, List.setIfInBounds_toArray, List.set_cons_zero, List.set_cons_succ]
        refine wpAnyH_take (i := 13) (v := ?_) rfl (by kernel_rfl) (by kernel_rfl) (by kernel_rfl) (fun _ _ _ h => h) (Or.inl ⟨by kernel_rfl, ?_⟩) (by assumption) ?_
        rotate_left
        · (intro w hSw; (try dsimp only at hSw); go_simp) <;> (try (with_reducible rfl))
        try simp only [Act.put, Array.getInternal_eq_getElem, List.getElem_toArray, List.getElem_cons_zero, List.getElem_cons_succ, List.setIfInBounds_toArray, List.set_cons_zero, List.set_cons_succ]
        refine wpAnyH_take (i := 14) (v := ?_) rfl (by kernel_rfl) (by kernel_rfl) (by kernel_rfl) (fun _ _ _ h => h) (Or.inl ⟨by kernel_rfl, ?_⟩) (by assumption) ?_
        rotate_left
        · (intro w hSw; (try dsimp only at hSw); go_simp) <;> (try (with_reducible rfl))
        try simp only [Act.put, Array.getInternal_eq_getElem, List.getElem_toArray, List.getElem_cons_zero, List.getElem_cons_succ, List.setIfInBounds_toArray, List.set_cons_zero, List.set_cons_succ]
        refine wpAnyH_take (i := 15) (v := ?_) rfl (by kernel_rfl) (by kernel_rfl) (by kernel_rfl) (fun _ _ _ h => h) (Or.inl ⟨by kernel_rfl, ?_⟩) (by assumption) ?_
        rotate_left
        · (intro w hSw; (try dsimp only at hSw); go_simp) <;> (try (with_reducible rfl))
        try simp only [Act.put, Array.getInternal_eq_getElem, List.getElem_toArray, List.getElem_cons_zero, List.getElem_cons_succ, List.setIfInBounds_toArray, List.set_cons_zero, List.set_cons_succ]
        refine wpAnyH_done ?_ ?_ _
        · kernel_rfl
        have YU := Lib.hid (By.grown hy.out (fun S => (KA.out.mono (fun _ _ z => z.elim))))
        have x42 := (HCL.out _ KA.out).2.1
        have xb := rd_cell (rd_old HR.out ((keeps_own HK2.out PL.out (Nat.le_refl _) (fun _ => False)).trans ((hy.out.keep _).trans KA.out))) (k := k) (by have := HLR.out.1; omega)
        obtain ⟨x, hx⟩ : ∃ x, x = h.dat.getD k 0 := ⟨_, rfl⟩
        rw [← hx] at xb
        have hkl : k < h.dat.length := by have := HLR.out.1; omega
        have hkk : (h.dat.take k).length = k := by rw [List.length_take]; omega
        have HKK := Lib.hid hkk
        have htk : h.dat.take (k + 1) = h.dat.take k ++ [x] := by rw [List.take_succ_eq_append_getElem hkl, hx, List.getD_eq_getElem?_getD, List.getElem?_eq_getElem hkl]; rfl
        have HTK := Lib.hid htk
        clear hx hkl hkk htk
        go_wp2_with ((with_reducible show wpList _ _ _ (⟨some 71, _, _, _, _, _⟩ :: _) _ _); refine By.wpList_append rfl _ _ rfl (YU.out.alloc _) rfl (some ⟨ua.heap.size, 0, none⟩) 1 1 _ [x] rfl rfl (lit_rd ua [x] _ rfl) (by have := HKK.out; simp; omega) ?_; intro v3 w3 y3 k3; have Y3 : Hid (By wL w3 v3 (h.dat.take (k + 1))) := Lib.hid (by rw [HTK.out]; exact y3); clear y3 k3)
        --@RR
        go_roundw
        case rel => exact ⟨k + 1, by omega, by omega, by go_num, Y3⟩
        case measure => simp [intOf]; omega
      · have HKE : Hid (k = 2000) := Lib.hid (by omega)
        have d9 : ¬ (s9 : Int) < 2048 := by omega
        clear hs9
        go_wp2_with fail
        refine wp_region_held_drew (S := fun w' => w'.rangeAt w.heap.size 0 (hcs (fitX h) (.slice A n c)) ∧ w'.cell? ⟨w.heap.size, 42, none⟩ = some (.slice A n c) ∧ w'.cell? ⟨w.heap.size, 34, none⟩ = some (.int .u8 (h.pr : Int))) (by kernel_rfl) (HCL.out _ ((Keeps.refl _ wr).drew)) (fun hHeld => ?_)
        refine wpAnyH_take (i := 0) (v := ?_) rfl (by kernel_rfl) (by kernel_rfl) (by kernel_rfl) (fun _ _ _ h => h) (Or.inl ⟨by kernel_rfl, ?_⟩) (by assumption) ?_
        rotate_left
        · (intro w hSw; (try dsimp only at hSw); go_simp) <;> (try (with_reducible rfl))
        try simp only [Act.put, Array.getInternal_eq_getElem, List.getElem_toArray, List.getElem_cons_zero, List.getElem_cons_succ, List.setIfInBounds_toArray, List.set_cons_zero, List.set_cons_succ]
        refine wpAnyH_take (i := 1) (v := ?_) rfl (by kernel_rfl) (by kernel_rfl) (by kernel_rfl) (fun _ _ _ h => h) (Or.inl ⟨by kernel_rfl, ?_⟩) (by assumption) ?_
        rotate_left
        · (intro w hSw; (try dsimp only at hSw); go_simp) <;> (try (with_reducible rfl))
        try simp only [Act.put, Array.getInternal_eq_getElem, List.getElem_toArray, List.getElem_cons_zero, List.getElem_cons_succ, List.setIfInBounds_toArray, List.set_cons_zero, List.set_cons_succ]
        refine wpAnyH_take (i := 2) (v := ?_) rfl (by kernel_rfl) (by kernel_rfl) (by kernel_rfl) (fun _ _ _ h => h) (Or.inl ⟨by kernel_rfl, ?_⟩) (by assumption) ?_
        rotate_left
        · (intro w hSw; have hcell := hSw.2.1; go_simp) <;> (try (with_reducible rfl))
        try simp only [Act.put, Array.getInternal_eq_getElem, List.getElem_toArray, List.getElem_cons_zero, List.getElem_cons_succ, List.setIfInBounds_toArray, List.set_cons_zero, List.set_cons_succ]
        refine wpAnyH_take (i := 3) (v := ?_) rfl (by kernel_rfl) (by kernel_rfl) (by kernel_rfl) (fun _ _ _ h => h) (Or.inl ⟨by kernel_rfl, ?_⟩) (by assumption) ?_
        rotate_left
        · (intro w hSw; (try dsimp only at hSw); go_simp) <;> (try (with_reducible rfl))
        try simp only [Act.put, Array.getInternal_eq_getElem, List.getElem_toArray, List.getElem_cons_zero, List.getElem_cons_succ, List.setIfInBounds_toArray, List.set_cons_zero, List.set_cons_succ]
        refine wpAnyH_take (i := 4) (v := ?_) rfl (by kernel_rfl) (by kernel_rfl) (by kernel_rfl) (fun _ _ _ h => h) (Or.inl ⟨by kernel_rfl, ?_⟩) (by assumption) ?_
        rotate_left
        · (intro w hSw; (try dsimp only at hSw); go_simp) <;> (try (with_reducible rfl))
        try simp only [Act.put, Array.getInternal_eq_getElem, List.getElem_toArray, List.getElem_cons_zero, List.getElem_cons_succ, List.setIfInBounds_toArray, List.set_cons_zero, List.set_cons_succ]
        refine wpAnyH_take (i := 5) (v := ?_) rfl (by kernel_rfl) (by kernel_rfl) (by kernel_rfl) (fun _ _ _ h => h) (Or.inl ⟨by kernel_rfl, ?_⟩) (by assumption) ?_
        rotate_left
        · (intro w hSw; (try dsimp only at hSw); go_simp) <;> (try (with_reducible rfl))
        try simp only [Act.put, Array.getInternal_eq_getElem, List.getElem_toArray, List.getElem_cons_zero, List.getElem_cons_succ, List.setIfInBounds_toArray, List.set_cons_zero, List.set_cons_succ]
        refine' wpAnyH_take (i := 6) (v := _) rfl (by kernel_rfl) (by kernel_rfl) (by kernel_rfl) (fun _ _ _ h => h) (yieldsIf_load_mid (by kernel_rfl) _ _ rfl _ _ rfl _ _ (fun w hSw => hSw.1) Try.underlying29 rfl HSZ.out) (by assumption) ?_
        try simp only [Act.put, Array.getInternal_eq_getElem, List.getElem_toArray, List.getElem_cons_zero, List.getElem_cons_succ, List.setIfInBounds_toArray, List.set_cons_zero, List.set_cons_succ]
        refine wpAnyH_take (i := 8) (v := ?_) rfl (by kernel_rfl) (by kernel_rfl) (by kernel_rfl) (fun _ _ _ h => h) (Or.inl ⟨by kernel_rfl, ?_⟩) (by assumption) ?_
        rotate_left
        · (intro w hSw; (try dsimp only at hSw); go_simp) <;> (try (with_reducible rfl))
        try simp only [Act.put, Array.getInternal_eq_getElem, List.getElem_toArray, List.getElem_cons_zero, List.getElem_cons_succ, List.setIfInBounds_toArray, List.set_cons_zero, List.set_cons_succ]
        refine wpAnyH_take (i := 9) (v := ?_) rfl (by kernel_rfl) (by kernel_rfl) (by kernel_rfl) (fun _ _ _ h => h) (Or.inl ⟨by kernel_rfl, ?_⟩) (by assumption) ?_
        rotate_left
        · (intro w hSw; have hcell := hSw.2.2; go_simp) <;> (try (with_reducible rfl))
        try simp only [Act.put, Array.getInternal_eq_getElem, List.getElem_toArray, List.getElem_cons_zero, List.getElem_cons_succ, List.setIfInBounds_toArray, List.set_cons_zero, List.set_cons_succ]
        refine wpAnyH_take (i := 12) (v := ?_) rfl (by kernel_rfl) (by kernel_rfl) (by kernel_rfl) (fun _ _ _ h => h) (Or.inl ⟨by kernel_rfl, ?_⟩) (by assumption) ?_
        rotate_left
        · (intro w hSw; (try dsimp only at hSw); go_simp) <;> (try (with_reducible rfl))
        try simp only [Act.put, Array.getInternal_eq_getElem, List.getElem_toArray, List.getElem_cons_zero, List.getElem_cons_succ, List.setIfInBounds_toArray, List.set_cons_zero, List.set_cons_succ]
        refine wpAnyH_ready (rs := [7]) (by kernel_rfl) (by simp) ?_
        refine AllReadyH.cons rfl (fun K hK => ?_) AllReadyH.nil
        (rw [if_pos (by kernel_rfl)]; go_simp; go_at_call 33; refine ((HFR _).out).mono ?_; rintro e ua ⟨rfl, ka⟩; have KA := Lib.hid (((Keeps.refl (fun _ => False) wr).drew).trans (ka _)); clear ka)
        refine hK.out _ _ (HCL.out _ KA.out) (fun hHeld => ?_)
        clear hK K
        try simp only [Act.put, Array.getInternal_eq_getElem, List.getElem_toArray, List.getElem_cons_zero, List.getElem_cons_succ, List.setIfInBounds_toArray, List.set_cons_zero, List.set_cons_succ]
        refine wpAnyH_ready (rs := [10]) (by kernel_rfl) (by simp) ?_
        refine AllReadyH.cons rfl (fun K hK => ?_) AllReadyH.nil
        (rw [if_pos (by kernel_rfl)]; go_simp; go_at_call 32; refine ((HM _).out).mono ?_; rintro e wx ⟨rfl, h9⟩; subst wx)
        refine hK.out _ _ (HCL.out _ KA.out) (fun hHeld => ?_)
        clear hK K
        try simp only [Act.put, Array.getInternal_eq_getElem, List.getElem_toArray, List.getElem_cons_zero, List.getElem_cons_succ, List.setIfInBounds_toArray, List.set_cons_zero, List.set_cons_succ]
        refine wpAnyH_take (i := 11) (v := ?_) rfl (by kernel_rfl) (by kernel_rfl) (by kernel_rfl) (fun _ _ _ h => h) (Or.inl ⟨by kernel_rfl, ?_⟩) (by assumption) ?_
        rotate_left
        · (intro w hSw; (try dsimp only at hSw); go_simp) <;> (try (with_reducible rfl))
        try simp only [Act.put, Array.getInternal_eq_getElem, List.getElem_toArray, List.getElem_cons_zero, List.getElem_cons_succ, List.setIfInBounds_toArray, List.set_cons_zero, List.set_cons_succ]
        refine wpAnyH_take (i := 13) (v := ?_) rfl (by kernel_rfl) (by kernel_rfl) (by kernel_rfl) (fun _ _ _ h => h) (Or.inl ⟨by kernel_rfl, ?_⟩) (by assumption) ?_
        rotate_left
        · (intro w hSw; (try dsimp only at hSw); go_simp) <;> (try (with_reducible rfl))
        try simp only [Act.put, Array.getInternal_eq_getElem, List.getElem_toArray, List.getElem_cons_zero, List.getElem_cons_succ, List.setIfInBounds_toArray, List.set_cons_zero, List.set_cons_succ]
        refine wpAnyH_take (i := 14) (v := ?_) rfl (by kernel_rfl) (by kernel_rfl) (by kernel_rfl) (fun _ _ _ h => h) (Or.inl ⟨by kernel_rfl, ?_⟩) (by assumption) ?_
        rotate_left
        · (intro w hSw; (try dsimp only at hSw); go_simp) <;> (try (with_reducible rfl))
        try simp only [Act.put, Array.getInternal_eq_getElem, List.getElem_toArray, List.getElem_cons_zero, List.getElem_cons_succ, List.setIfInBounds_toArray, List.set_cons_zero, List.set_cons_succ]
        refine wpAnyH_take (i := 15) (v := ?_) rfl (by kernel_rfl) (by kernel_rfl) (by kernel_rfl) (fun _ _ _ h => h) (Or.inl ⟨by kernel_rfl, ?_⟩) (by assumption) ?_
        rotate_left
        · (intro w hSw; (try dsimp only at hSw); go_simp) <;> (try (with_reducible rfl))
        try simp only [Act.put, Array.getInternal_eq_getElem, List.getElem_toArray, List.getElem_cons_zero, List.getElem_cons_succ, List.setIfInBounds_toArray, List.set_cons_zero, List.set_cons_succ]
        refine wpAnyH_done ?_ ?_ _
        · kernel_rfl
        obtain ⟨A5, c5, rfl, r5⟩ := hy.out.rd
        obtain ⟨m5, hm5⟩ : ∃ m5, (h.dat.take k).length = m5 := ⟨_, rfl⟩
        rw [hm5] at hy ⊢
        have ed : (fit h).dat = h.dat.take k := by
          show h.dat.take (2048 - (fsz h + mids h.pr)) = _
          rw [HLR.out.2.2.2, HLR.out.2.2.1]
          rw [HKE.out]
        have kwL : ∀ S, Keeps S w wL := keeps_own HK2.out PL.out (Nat.le_refl _)
        have sL : w.heap.size + 2 ≤ wL.heap.size := by have := PL.out.size; have := HZ.out.lt; omega
        have kx : ∀ S, Keeps S wL ua := fun S => (hy.out.keep S).trans (KA.out.mono (fun _ _ z => z.elim))
        have gx := Blk.keeps GL.out (kx (fun _ => False)) (fun z => z)
        have wfx := fitX_wf HWF.out
        have c42 : (ua).cell? ⟨w.heap.size, 42, none⟩ = some _ := h_cell gx wfx.s wfx.d 8 _ rfl
        have f42 : (ua).frozen? ⟨w.heap.size, 42, none⟩ = false := gx.frozen 42
        have g6 := st_dat gx wfx.s wfx.d (.slice A5 m5 c5) (fit h).dat
        have p6 := keeps_put (G := w.heap.size) (Keeps.refl _ (ua)) 42 (.slice A5 m5 c5)
        obtain ⟨w6, hw6⟩ : ∃ y, y = (ua).setCell ⟨w.heap.size, 42, none⟩ (.slice A5 m5 c5) := ⟨_, rfl⟩
        rw [← hw6] at g6 p6
        have GF : Hid (Blk w6 w.heap.size 29 (hcs (fit h) (.slice A5 m5 c5))) := Lib.hid g6
        have zz := Blk.keeps (Blk.keeps (Blk.keeps HZ.out PL.out (by omega)) (kx (fun _ => False)) (fun z => z)) p6 (by omega)
        obtain ⟨tz, bz, kz⟩ := p_store zz (cs := hcs (fit h) (.slice A5 m5 c5)) (by rw [hcs_len (fit_wf HWF.out)]; rfl)
        have yy : By w (w6.setCells (w.heap.size + 1) 0 (hcs (fit h) (.slice A5 m5 c5))) (.slice A5 m5 c5) (fit h).dat := by
          rw [ed]
          exact past_ (past_ (By.base (By.grown hy.out (fun S => (KA.out.mono (fun _ _ z => z.elim)))) kwL) p6 (Nat.le_refl _) (hy.out.apart (by omega))) kz (by omega) (hy.out.apart (by omega))
        have HTZ := Lib.hid tz
        have HBZ := Lib.hid bz
        have HYY := Lib.hid yy
        have HW6 := Lib.hid hw6
        have HSF := Lib.hid (hd_sz (fit_wf HWF.out) (.slice A5 m5 c5))
        have HSG := Lib.hid (all_oneCell_toArray (hcs_one (h := fit h) (v := .slice A5 m5 c5) rfl))
        clear hw6 g6 p6 zz tz bz kz yy gx kx kwL sL r5 wfx ed
        go_wp2_with (first
          | ((with_reducible show wpList _ _ _ (⟨some 74, _, _, _, _, _⟩ :: _) _ _); (try rw [← HW6.out]); refine wpList_load_mid rfl 29 _ rfl w.heap.size 0 rfl (hcs (fit h) (.slice A5 m5 c5)) _ (Blk.range GF.out) Try.underlying29 rfl HSF.out ?_)
          | ((with_reducible show wpList _ _ _ (⟨none, .store _ (.tmp 2) _, _, _, _, _⟩ :: _) _ _); refine' wpList_store_mid rfl 29 _ _ rfl (w.heap.size + 1) 0 (hcs (fit h) (.slice A5 m5 c5)).toArray ?hx rfl ?ht HSF.out HSG.out ?_; (case hx => rfl); (case ht => exact HTZ.out)))
        try rw [Exit.noGoto_ret]
        refine bodyPost_ret (results_cell_row (p := 2) (ty := 29) (by kernel_rfl) _ _ (w.heap.size + 1) _ _ _ _ (by rfl) HBZ.out Try.underlying29 rfl (by rw [List.size_toArray]; exact HSF.out)) rfl ?_
        exact ⟨_, rfl, HYY.out⟩

    · have dlt : ¬ (k : Int) < (n : Int) := by omega
      clear hs9
      go_wp2_with fail
      refine wp_region_held_drew (S := fun w' => w'.rangeAt w.heap.size 0 (hcs (fitX h) (.slice A n c)) ∧ w'.cell? ⟨w.heap.size, 42, none⟩ = some (.slice A n c) ∧ w'.cell? ⟨w.heap.size, 34, none⟩ = some (.int .u8 (h.pr : Int))) (by kernel_rfl) (HCL.out _ ((Keeps.refl _ wr).drew)) (fun hHeld => ?_)
      refine wpAnyH_take (i := 0) (v := ?_) rfl (by kernel_rfl) (by kernel_rfl) (by kernel_rfl) (fun _ _ _ h => h) (Or.inl ⟨by kernel_rfl, ?_⟩) (by assumption) ?_
      rotate_left
      · (intro w hSw; (try dsimp only at hSw); go_simp) <;> (try (with_reducible rfl))
      try simp only [Act.put, Array.getInternal_eq_getElem, List.getElem_toArray, List.getElem_cons_zero, List.getElem_cons_succ, List.setIfInBounds_toArray, List.set_cons_zero, List.set_cons_succ]
      refine wpAnyH_take (i := 1) (v := ?_) rfl (by kernel_rfl) (by kernel_rfl) (by kernel_rfl) (fun _ _ _ h => h) (Or.inl ⟨by kernel_rfl, ?_⟩) (by assumption) ?_
      rotate_left
      · (intro w hSw; (try dsimp only at hSw); go_simp) <;> (try (with_reducible rfl))
      try simp only [Act.put, Array.getInternal_eq_getElem, List.getElem_toArray, List.getElem_cons_zero, List.getElem_cons_succ, List.setIfInBounds_toArray, List.set_cons_zero, List.set_cons_succ]
      refine wpAnyH_take (i := 2) (v := ?_) rfl (by kernel_rfl) (by kernel_rfl) (by kernel_rfl) (fun _ _ _ h => h) (Or.inl ⟨by kernel_rfl, ?_⟩) (by assumption) ?_
      rotate_left
      · (intro w hSw; have hcell := hSw.2.1; go_simp) <;> (try (with_reducible rfl))
      try simp only [Act.put, Array.getInternal_eq_getElem, List.getElem_toArray, List.getElem_cons_zero, List.getElem_cons_succ, List.setIfInBounds_toArray, List.set_cons_zero, List.set_cons_succ]
      refine wpAnyH_take (i := 3) (v := ?_) rfl (by kernel_rfl) (by kernel_rfl) (by kernel_rfl) (fun _ _ _ h => h) (Or.inl ⟨by kernel_rfl, ?_⟩) (by assumption) ?_
      rotate_left
      · (intro w hSw; (try dsimp only at hSw); go_simp) <;> (try (with_reducible rfl))
      try simp only [Act.put, Array.getInternal_eq_getElem, List.getElem_toArray, List.getElem_cons_zero, List.getElem_cons_succ, List.setIfInBounds_toArray, List.set_cons_zero, List.set_cons_succ]
      refine wpAnyH_take (i := 4) (v := ?_) rfl (by kernel_rfl) (by kernel_rfl) (by kernel_rfl) (fun _ _ _ h => h) (Or.inl ⟨by kernel_rfl, ?_⟩) (by assumption) ?_
      rotate_left
      · (intro w hSw; (try dsimp only at hSw); go_simp) <;> (try (with_reducible rfl))
      try simp only [Act.put, Array.getInternal_eq_getElem, List.getElem_toArray, List.getElem_cons_zero, List.getElem_cons_succ, List.setIfInBounds_toArray, List.set_cons_zero, List.set_cons_succ]
      refine wpAnyH_take (i := 5) (v := ?_) rfl (by kernel_rfl) (by kernel_rfl) (by kernel_rfl) (fun _ _ _ h => h) (Or.inl ⟨by kernel_rfl, ?_⟩) (by assumption) ?_
      rotate_left
      · (intro w hSw; (try dsimp only at hSw); go_simp) <;> (try (with_reducible rfl))
      try simp only [Act.put, Array.getInternal_eq_getElem, List.getElem_toArray, List.getElem_cons_zero, List.getElem_cons_succ, List.setIfInBounds_toArray, List.set_cons_zero, List.set_cons_succ]
      refine wpAnyH_take (i := 6) (v := undef) rfl (by kernel_rfl) (by kernel_rfl) (by kernel_rfl) (fun _ _ _ h => h) (Or.inr ⟨by kernel_rfl, rfl⟩) (by assumption) ?_
      try simp only [Act.put, Array.getInternal_eq_getElem, List.getElem_toArray, List.getElem_cons_zero, List.getElem_cons_succ, List.setIfInBounds_toArray, List.set_cons_zero, List.set_cons_succ]
      refine wpAnyH_take (i := 7) (v := undef) rfl (by kernel_rfl) (by kernel_rfl) (by kernel_rfl) (fun _ _ _ h => h) (Or.inr ⟨by kernel_rfl, rfl⟩) (by assumption) ?_
      try simp only [Act.put, Array.getInternal_eq_getElem, List.getElem_toArray, List.getElem_cons_zero, List.getElem_cons_succ, List.setIfInBounds_toArray, List.set_cons_zero, List.set_cons_succ]
      refine wpAnyH_take (i := 8) (v := undef) rfl (by kernel_rfl) (by kernel_rfl) (by kernel_rfl) (fun _ _ _ h => h) (Or.inr ⟨by kernel_rfl, rfl⟩) (by assumption) ?_
      try simp only [Act.put, Array.getInternal_eq_getElem, List.getElem_toArray, List.getElem_cons_zero, List.getElem_cons_succ, List.setIfInBounds_toArray, List.set_cons_zero, List.set_cons_succ]
      refine wpAnyH_take (i := 9) (v := undef) rfl (by kernel_rfl) (by kernel_rfl) (by kernel_rfl) (fun _ _ _ h => h) (Or.inr ⟨by kernel_rfl, rfl⟩) (by assumption) ?_
      try simp only [Act.put, Array.getInternal_eq_getElem, List.getElem_toArray, List.getElem_cons_zero, List.getElem_cons_succ, List.setIfInBounds_toArray, List.set_cons_zero, List.set_cons_succ]
      refine wpAnyH_take (i := 10) (v := undef) rfl (by kernel_rfl) (by kernel_rfl) (by kernel_rfl) (fun _ _ _ h => h) (Or.inr ⟨by kernel_rfl, rfl⟩) (by assumption) ?_
      try simp only [Act.put, Array.getInternal_eq_getElem, List.getElem_toArray, List.getElem_cons_zero, List.getElem_cons_succ, List.setIfInBounds_toArray, List.set_cons_zero, List.set_cons_succ]
      refine wpAnyH_take (i := 11) (v := undef) rfl (by kernel_rfl) (by kernel_rfl) (by kernel_rfl) (fun _ _ _ h => h) (Or.inr ⟨by kernel_rfl, rfl⟩) (by assumption) ?_
      try simp only [Act.put, Array.getInternal_eq_getElem, List.getElem_toArray, List.getElem_cons_zero, List.getElem_cons_succ, List.setIfInBounds_toArray, List.set_cons_zero, List.set_cons_succ]
      refine wpAnyH_take (i := 12) (v := undef) rfl (by kernel_rfl) (by kernel_rfl) (by kernel_rfl) (fun _ _ _ h => h) (Or.inr ⟨by kernel_rfl, rfl⟩) (by assumption) ?_
      try simp only [Act.put, Array.getInternal_eq_getElem, List.getElem_toArray, List.getElem_cons_zero, List.getElem_cons_succ, List.setIfInBounds_toArray, List.set_cons_zero, List.set_cons_succ]
      refine wpAnyH_take (i := 13) (v := undef) rfl (by kernel_rfl) (by kernel_rfl) (by kernel_rfl) (fun _ _ _ h => h) (Or.inr ⟨by kernel_rfl, rfl⟩) (by assumption) ?_
      try simp only [Act.put, Array.getInternal_eq_getElem, List.getElem_toArray, List.getElem_cons_zero, List.getElem_cons_succ, List.setIfInBounds_toArray, List.set_cons_zero, List.set_cons_succ]
      refine wpAnyH_take (i := 14) (v := undef) rfl (by kernel_rfl) (by kernel_rfl) (by kernel_rfl) (fun _ _ _ h => h) (Or.inr ⟨by kernel_rfl, rfl⟩) (by assumption) ?_
      try simp only [Act.put, Array.getInternal_eq_getElem, List.getElem_toArray, List.getElem_cons_zero, List.getElem_cons_succ, List.setIfInBounds_toArray, List.set_cons_zero, List.set_cons_succ]
      refine wpAnyH_take (i := 15) (v := ?_) rfl (by kernel_rfl) (by kernel_rfl) (by kernel_rfl) (fun _ _ _ h => h) (Or.inl ⟨by kernel_rfl, ?_⟩) (by assumption) ?_
      rotate_left
      · (intro w hSw; (try dsimp only at hSw); go_simp) <;> (try (with_reducible rfl))
      try simp only [Act.put, Array.getInternal_eq_getElem, List.getElem_toArray, List.getElem_cons_zero, List.getElem_cons_succ, List.setIfInBounds_toArray, List.set_cons_zero, List.set_cons_succ]
      refine wpAnyH_done ?_ ?_ _
      · kernel_rfl
      obtain ⟨wq, hwq⟩ : ∃ y, y = wr.drew := ⟨_, rfl⟩
      rw [← hwq]
      have KQ : Hid (∀ S, Keeps S wr wq) := Lib.hid (fun S => by rw [hwq]; exact (Keeps.refl S wr).drew)
      clear hwq
      obtain ⟨A5, c5, rfl, r5⟩ := hy.out.rd
      obtain ⟨m5, hm5⟩ : ∃ m5, (h.dat.take k).length = m5 := ⟨_, rfl⟩
      rw [hm5] at hy ⊢
      have ed : (fit h).dat = h.dat.take k := by
        show h.dat.take (2048 - (fsz h + mids h.pr)) = _
        rw [HLR.out.2.2.2, HLR.out.2.2.1]
        rw [List.take_of_length_le (by have := HLR.out.1; omega), List.take_of_length_le (by have := HLR.out.1; omega)]
      have kwL : ∀ S, Keeps S w wL := keeps_own HK2.out PL.out (Nat.le_refl _)
      have sL : w.heap.size + 2 ≤ wL.heap.size := by have := PL.out.size; have := HZ.out.lt; omega
      have kx : ∀ S, Keeps S wL wq := fun S => (hy.out.keep S).trans (KQ.out S)
      have gx := Blk.keeps GL.out (kx (fun _ => False)) (fun z => z)
      have wfx := fitX_wf HWF.out
      have c42 : (wq).cell? ⟨w.heap.size, 42, none⟩ = some _ := h_cell gx wfx.s wfx.d 8 _ rfl
      have f42 : (wq).frozen? ⟨w.heap.size, 42, none⟩ = false := gx.frozen 42
      have g6 := st_dat gx wfx.s wfx.d (.slice A5 m5 c5) (fit h).dat
      have p6 := keeps_put (G := w.heap.size) (Keeps.refl _ (wq)) 42 (.slice A5 m5 c5)
      obtain ⟨w6, hw6⟩ : ∃ y, y = (wq).setCell ⟨w.heap.size, 42, none⟩ (.slice A5 m5 c5) := ⟨_, rfl⟩
      rw [← hw6] at g6 p6
      have GF : Hid (Blk w6 w.heap.size 29 (hcs (fit h) (.slice A5 m5 c5))) := Lib.hid g6
      have zz := Blk.keeps (Blk.keeps (Blk.keeps HZ.out PL.out (by omega)) (kx (fun _ => False)) (fun z => z)) p6 (by omega)
      obtain ⟨tz, bz, kz⟩ := p_store zz (cs := hcs (fit h) (.slice A5 m5 c5)) (by rw [hcs_len (fit_wf HWF.out)]; rfl)
      have yy : By w (w6.setCells (w.heap.size + 1) 0 (hcs (fit h) (.slice A5 m5 c5))) (.slice A5 m5 c5) (fit h).dat := by
        rw [ed]
        exact past_ (past_ (By.base (By.grown hy.out (fun S => (KQ.out S))) kwL) p6 (Nat.le_refl _) (hy.out.apart (by omega))) kz (by omega) (hy.out.apart (by omega))
      have HTZ := Lib.hid tz
      have HBZ := Lib.hid bz
      have HYY := Lib.hid yy
      have HW6 := Lib.hid hw6
      have HSF := Lib.hid (hd_sz (fit_wf HWF.out) (.slice A5 m5 c5))
      have HSG := Lib.hid (all_oneCell_toArray (hcs_one (h := fit h) (v := .slice A5 m5 c5) rfl))
      clear hw6 g6 p6 zz tz bz kz yy gx kx kwL sL r5 wfx ed
      go_wp2_with (first
        | ((with_reducible show wpList _ _ _ (⟨some 74, _, _, _, _, _⟩ :: _) _ _); (try rw [← HW6.out]); refine wpList_load_mid rfl 29 _ rfl w.heap.size 0 rfl (hcs (fit h) (.slice A5 m5 c5)) _ (Blk.range GF.out) Try.underlying29 rfl HSF.out ?_)
        | ((with_reducible show wpList _ _ _ (⟨none, .store _ (.tmp 2) _, _, _, _, _⟩ :: _) _ _); refine' wpList_store_mid rfl 29 _ _ rfl (w.heap.size + 1) 0 (hcs (fit h) (.slice A5 m5 c5)).toArray ?hx rfl ?ht HSF.out HSG.out ?_; (case hx => rfl); (case ht => exact HTZ.out)))
      try rw [Exit.noGoto_ret]
      refine bodyPost_ret (results_cell_row (p := 2) (ty := 29) (by kernel_rfl) _ _ (w.heap.size + 1) _ _ _ _ (by rfl) HBZ.out Try.underlying29 rfl (by rw [List.size_toArray]; exact HSF.out)) rfl ?_
      exact ⟨_, rfl, HYY.out⟩

set_option maxRecDepth 100000 in
set_option maxHeartbeats 4000000 in
theorem rfit_tn (h : Hd) (A : Option Addr) (n c : Nat) (hw : h.Wf) (hl : h.dat.length = n) (hn : n ≤ 140737488355328) (hr : Rd w w.heap.size A (by_ h.dat)) (hv : h.src.v6 = true) (h6 : h.pr ≠ 6) (h7 : h.pr ≠ 17) :
    Calls Try.prog 22 #[hvv h (.slice A n c)] w fun e w' => ∃ v, e = .returned (hvv (fit h) v) ∧ By w w' v (fit h).dat := by
  obtain ⟨w2, hw2, k2, bG, bZ, s2⟩ := box2 w (hcs h (.slice A n c)) zhd 29 29
  dsimp only [zhd] at hw2
  have hms : mids h.pr = 0 := midsN h6 h7
  have hfs : fsz h = 40 := by unfold fsz; rw [hv]; rfl
  have HM : ∀ u, Hid (Calls Try.prog 32 #[.int .u8 (h.pr : Int)] u fun e w' => e = .returned (.int .i64 0) ∧ w' = u) := fun u => Lib.hid (by have := rmids_ u h.pr; rw [hms] at this; exact this)
  have h1 := hw.s
  have h2 := hw.d
  have c00 := (HF.of_blk hw bG).v6s
  rw [hv] at c00
  have c17 := c_dv6 bG h1
  have f17 := bG.frozen 17
  have g0 := st_dv6 bG h1 true
  have p0 := keeps_put (G := w.heap.size) (Keeps.refl _ w2) 17 (.bool true)
  have c01 : (w2.setCell ⟨w.heap.size, 17, none⟩ (.bool true)).cell? ⟨w.heap.size, 0, none⟩ = some (.bool true) := by rw [g0.cell, ← hv]; rfl
  have HW2 := Lib.hid hw2
  have HWF := Lib.hid hw
  have HLR := Lib.hid (And.intro hl (And.intro hv (And.intro hms hfs)))
  have HR := Lib.hid hr
  have HP := Lib.hid (And.intro h6 h7)
  have HK2 := Lib.hid k2
  have HG0 := Lib.hid g0
  have HP0 := Lib.hid p0
  have HZ := Lib.hid bZ
  unfold hvv
  clear hw2 k2 bG bZ s2 hw hl hr g0 p0 h1 h2 hms hfs hv h6 h7
  generalize hC : hcs h (.slice A n c) = C at *
  have HCC := Lib.hid hC
  clear hC
  go_enter Try.func22, Try.ntmps22
  go_wp2_with ((with_reducible show wpList _ _ _ (⟨some 6, _, _, _, _, _⟩ :: _) _ _); (try rw [← HW2.out]); refine rest_of ?_)
  unfold Rest_
  obtain ⟨y0, hy0⟩ : ∃ y, y = w2.setCell ⟨w.heap.size, 17, none⟩ (.bool true) := ⟨_, rfl⟩
  have G0 : Hid (Blk y0 w.heap.size 29 _) := Lib.hid (by rw [hy0]; exact HG0.out)
  have P0 : Hid (Keeps (· = w.heap.size) w2 y0) := Lib.hid (by rw [hy0]; exact HP0.out)
  have HY0 := Lib.hid hy0
  clear hy0
  have z1 := HWF.out.s
  have z2 : (⟨true, h.dst.B⟩ : Ad).Wf := ⟨HWF.out.d.len, HWF.out.d.sm⟩
  have ci0 : (w2.setCell ⟨w.heap.size, 17, none⟩ (.bool true)).cell? ⟨w.heap.size, 39, none⟩ = some (.int .u32 (h.id : Int)) := h_cell (HG0.out) z1 z2 5 _ rfl
  obtain ⟨i1, hi1⟩ : ∃ i1, i1 = h.id % 1048576 := ⟨_, rfl⟩
  have zi1 : (h.id : Int) % 1048576 = (i1 : Int) := (by omega)
  have zi2 : Int.tmod (h.id : Int) 1048576 = (i1 : Int) := (by rw [Int.tmod_eq_emod_of_nonneg (Int.natCast_nonneg _)]; omega)
  have cx1 : (w2.setCell ⟨w.heap.size, 17, none⟩ (.bool true)).cell? ⟨w.heap.size, 39, none⟩ = some _ := h_cell (HG0.out) z1 z2 5 _ rfl
  have fx1 : (w2.setCell ⟨w.heap.size, 17, none⟩ (.bool true)).frozen? ⟨w.heap.size, 39, none⟩ = false := (HG0.out).frozen 39
  have gg1 := st_id (HG0.out) z1 z2 i1
  have pq1 := keeps_put (G := w.heap.size) (HP0.out) 39 (.int .u32 (i1 : Int))
  have cp0 : ((w2.setCell ⟨w.heap.size, 17, none⟩ (.bool true)).setCell ⟨w.heap.size, 39, none⟩ (.int .u32 (i1 : Int))).cell? ⟨w.heap.size, 34, none⟩ = some (.int .u8 (h.pr : Int)) := h_cell (gg1) z1 z2 0 _ rfl
  have d6 : ((h.pr : Int) != 6) = true := bne_iff_ne.2 (by have := HP.out; omega)
  have cx2 : ((w2.setCell ⟨w.heap.size, 17, none⟩ (.bool true)).setCell ⟨w.heap.size, 39, none⟩ (.int .u32 (i1 : Int))).cell? ⟨w.heap.size, 40, none⟩ = some _ := h_cell (gg1) z1 z2 6 _ rfl
  have fx2 : ((w2.setCell ⟨w.heap.size, 17, none⟩ (.bool true)).setCell ⟨w.heap.size, 39, none⟩ (.int .u32 (i1 : Int))).frozen? ⟨w.heap.size, 40, none⟩ = false := (gg1).frozen 40
  have gg2 := st_fl (gg1) z1 z2 0
  have pq2 := keeps_put (G := w.heap.size) (pq1) 40 (.int .u8 0)
  have cx3 : (((w2.setCell ⟨w.heap.size, 17, none⟩ (.bool true)).setCell ⟨w.heap.size, 39, none⟩ (.int .u32 (i1 : Int))).setCell ⟨w.heap.size, 40, none⟩ (.int .u8 0)).cell? ⟨w.heap.size, 41, none⟩ = some _ := h_cell (gg2) z1 z2 7 _ rfl
  have fx3 : (((w2.setCell ⟨w.heap.size, 17, none⟩ (.bool true)).setCell ⟨w.heap.size, 39, none⟩ (.int .u32 (i1 : Int))).setCell ⟨w.heap.size, 40, none⟩ (.int .u8 0)).frozen? ⟨w.heap.size, 41, none⟩ = false := (gg2).frozen 41
  have gg3 := st_seq (gg2) z1 z2 0
  have pq3 := keeps_put (G := w.heap.size) (pq2) 41 (.int .u32 0)
  have cp1 : ((((w2.setCell ⟨w.heap.size, 17, none⟩ (.bool true)).setCell ⟨w.heap.size, 39, none⟩ (.int .u32 (i1 : Int))).setCell ⟨w.heap.size, 40, none⟩ (.int .u8 0)).setCell ⟨w.heap.size, 41, none⟩ (.int .u32 0)).cell? ⟨w.heap.size, 34, none⟩ = some (.int .u8 (h.pr : Int)) := h_cell (gg3) z1 z2 0 _ rfl
  have cx4 : ((((w2.setCell ⟨w.heap.size, 17, none⟩ (.bool true)).setCell ⟨w.heap.size, 39, none⟩ (.int .u32 (i1 : Int))).setCell ⟨w.heap.size, 40, none⟩ (.int .u8 0)).setCell ⟨w.heap.size, 41, none⟩ (.int .u32 0)).cell? ⟨w.heap.size, 35, none⟩ = some _ := h_cell (gg3) z1 z2 1 _ rfl
  have fx4 : ((((w2.setCell ⟨w.heap.size, 17, none⟩ (.bool true)).setCell ⟨w.heap.size, 39, none⟩ (.int .u32 (i1 : Int))).setCell ⟨w.heap.size, 40, none⟩ (.int .u8 0)).setCell ⟨w.heap.size, 41, none⟩ (.int .u32 0)).frozen? ⟨w.heap.size, 35, none⟩ = false := (gg3).frozen 35
  have gg4 := st_sp (gg3) z1 z2 0
  have pq4 := keeps_put (G := w.heap.size) (pq3) 35 (.int .u16 0)
  have cx5 : (((((w2.setCell ⟨w.heap.size, 17, none⟩ (.bool true)).setCell ⟨w.heap.size, 39, none⟩ (.int .u32 (i1 : Int))).setCell ⟨w.heap.size, 40, none⟩ (.int .u8 0)).setCell ⟨w.heap.size, 41, none⟩ (.int .u32 0)).setCell ⟨w.heap.size, 35, none⟩ (.int .u16 0)).cell? ⟨w.heap.size, 36, none⟩ = some _ := h_cell (gg4) z1 z2 2 _ rfl
  have fx5 : (((((w2.setCell ⟨w.heap.size, 17, none⟩ (.bool true)).setCell ⟨w.heap.size, 39, none⟩ (.int .u32 (i1 : Int))).setCell ⟨w.heap.size, 40, none⟩ (.int .u8 0)).setCell ⟨w.heap.size, 41, none⟩ (.int .u32 0)).setCell ⟨w.heap.size, 35, none⟩ (.int .u16 0)).frozen? ⟨w.heap.size, 36, none⟩ = false := (gg4).frozen 36
  have gg5 := st_dp (gg4) z1 z2 0
  have pq5 := keeps_put (G := w.heap.size) (pq4) 36 (.int .u16 0)
  obtain ⟨wL, hwL⟩ : ∃ y, y = (((((w2.setCell ⟨w.heap.size, 17, none⟩ (.bool true)).setCell ⟨w.heap.size, 39, none⟩ (.int .u32 (i1 : Int))).setCell ⟨w.heap.size, 40, none⟩ (.int .u8 0)).setCell ⟨w.heap.size, 41, none⟩ (.int .u32 0)).setCell ⟨w.heap.size, 35, none⟩ (.int .u16 0)).setCell ⟨w.heap.size, 36, none⟩ (.int .u16 0) := ⟨_, rfl⟩
  have GL : Hid (Blk wL w.heap.size 29 (hcs (fitX h) (.slice A n c))) := Lib.hid (by rw [hwL]; have e := gg5; rw [fitX_tn HWF.out HLR.out.2.1 HP.out.1 HP.out.2, ← hi1]; exact e)
  have PL : Hid (Keeps (· = w.heap.size) w2 wL) := Lib.hid (by rw [hwL]; exact pq5)
  have HWL := Lib.hid hwL
  clear hwL hi1 gg1 pq1 gg2 pq2 gg3 pq3 gg4 pq4 gg5 pq5
  go_wp2_with (first | ((with_reducible show Calls _ 32 _ _ _); refine (HM _).out.mono ?_; rintro e wx ⟨rfl, h9⟩; subst wx))
  try rw [← HWL.out]
  clear cx1 fx1 cx2 fx2 cx3 fx3 cx4 fx4 cx5 fx5 ci0 zi1 zi2 cp0 d6 c00 c17 f17 c01 cp1 z1 z2
  have HSZ := Lib.hid (hd_sz (fitX_wf HWF.out) (.slice A n c))
  have HFR : ∀ u, Hid (Calls Try.prog 33 #[.agg (hcs (fitX h) (.slice A n c)).toArray] u fun e w' => e = .returned (.int .i64 40) ∧ ∀ S, Keeps S u w') := fun u => Lib.hid (by
    have := rfsz_ u (fitX h) (.slice A n c) (fitX_wf HWF.out)
    rw [show fsz (fitX h) = 40 from by show (if (fitA _ _).v6 = true then 40 else 20) = _; rw [fit_v6, HLR.out.2.1]; rfl] at this
    exact this)
  have ew : IntKind.i64.wrap 40 = 40 := by decide
  --@L2
  go_loopw [4, 5] (fun v i wr => ∃ k : Nat, k ≤ n ∧ k ≤ 2008 ∧ i = .int .i64 k ∧ Hid (By wL wr v (h.dat.take k))) (fun _ i _ => 2009 - (intOf i).toNat)
  case atStart => exact ⟨0, by omega, by omega, rfl, Lib.hid (by rw [List.take_zero]; exact By.nil_ (fun S => Keeps.refl S wL))⟩
  case round =>
    obtain ⟨k, hkn, hkL, rfl, hy⟩ := hrel
    have HCL : Hid (∀ wq, Keeps (fun _ => False) wr wq → wq.rangeAt w.heap.size 0 (hcs (fitX h) (.slice A n c)) ∧ wq.cell? ⟨w.heap.size, 42, none⟩ = some (.slice A n c) ∧ wq.cell? ⟨w.heap.size, 34, none⟩ = some (.int .u8 (h.pr : Int))) := Lib.hid (fun wq kq => by
      have b := Blk.keeps GL.out ((hy.out.keep _).trans kq) (fun z => z)
      exact ⟨Blk.range b, (HF.of_blk (fitX_wf HWF.out) b).dat, (HF.of_blk (fitX_wf HWF.out) b).pr⟩)
    obtain ⟨s9, hs9⟩ : ∃ s9 : Nat, s9 = 40 + k := ⟨_, rfl⟩
    have e9 : IntKind.i64.wrap ((40 : Int) + (k : Int)) = (s9 : Int) := by rw [wi64 (by omega) (by omega)]; omega
    by_cases hlt : k < n
    · have dlt : (k : Int) < (n : Int) := by omega
      by_cases hl2 : k < 2008
      · have d9 : (s9 : Int) < 2048 := by omega
        obtain ⟨b, o, hA, _, _⟩ := HR.out.byte (getq (bs := h.dat) (k := k) (by have := HLR.out.1; omega))
        subst hA
        clear hs9
        go_wp2_with fail
        --@R
        refine wp_region_held_drew (S := fun w' => w'.rangeAt w.heap.size 0 (hcs (fitX h) (.slice (some ⟨b, o, none⟩) n c)) ∧ w'.cell? ⟨w.heap.size, 42, none⟩ = some (.slice (some ⟨b, o, none⟩) n c) ∧ w'.cell? ⟨w.heap.size, 34, none⟩ = some (.int .u8 (h.pr : Int))) (by kernel_rfl) (HCL.out _ ((Keeps.refl _ wr).drew)) (fun hHeld => ?_)
        refine wpAnyH_take (i := 0) (v := ?_) rfl (by kernel_rfl) (by kernel_rfl) (by kernel_rfl) (fun _ _ _ h => h) (Or.inl ⟨by kernel_rfl, ?_⟩) (by assumption) ?_
        rotate_left
        · (intro w hSw; (try dsimp only at hSw); go_simp) <;> (try (with_reducible rfl))
        try simp only [Act.put, Array.getInternal_eq_getElem, List.getElem_toArray, List.getElem_cons_zero, List.getElem_cons_succ, List.setIfInBounds_toArray, List.set_cons_zero, List.set_cons_succ]
        refine wpAnyH_take (i := 1) (v := ?_) rfl (by kernel_rfl) (by kernel_rfl) (by kernel_rfl) (fun _ _ _ h => h) (Or.inl ⟨by kernel_rfl, ?_⟩) (by assumption) ?_
        rotate_left
        · (intro w hSw; (try dsimp only at hSw); go_simp) <;> (try (with_reducible rfl))
        try simp only [Act.put, Array.getInternal_eq_getElem, List.getElem_toArray, List.getElem_cons_zero, List.getElem_cons_succ, List.setIfInBounds_toArray, List.set_cons_zero, List.set_cons_succ]
        refine wpAnyH_take (i := 2) (v := ?_) rfl (by kernel_rfl) (by kernel_rfl) (by kernel_rfl) (fun _ _ _ h => h) (Or.inl ⟨by kernel_rfl, ?_⟩) (by assumption) ?_
        rotate_left
        · (intro w hSw; have hcell := hSw.2.1; go_simp) <;> (try (with_reducible rfl))
        try simp only [Act.put, Array.getInternal_eq_getElem, List.getElem_toArray, List.getElem_cons_zero, List.getElem_cons_succ, List.setIfInBounds_toArray, List.set_cons_zero, List.set_cons_succ]
        refine wpAnyH_take (i := 3) (v := ?_) rfl (by kernel_rfl) (by kernel_rfl) (by kernel_rfl) (fun _ _ _ h => h) (Or.inl ⟨by kernel_rfl, ?_⟩) (by assumption) ?_
        rotate_left
        · (intro w hSw; (try dsimp only at hSw); go_simp) <;> (try (with_reducible rfl))
        try simp only [Act.put, Array.getInternal_eq_getElem, List.getElem_toArray, List.getElem_cons_zero, List.getElem_cons_succ, List.setIfInBounds_toArray, List.set_cons_zero, List.set_cons_succ]
        refine wpAnyH_take (i := 4) (v := ?_) rfl (by kernel_rfl) (by kernel_rfl) (by kernel_rfl) (fun _ _ _ h => h) (Or.inl ⟨by kernel_rfl, ?_⟩) (by assumption) ?_
        rotate_left
        · (intro w hSw; (try dsimp only at hSw); go_simp) <;> (try (with_reducible rfl))
        try simp only [Act.put, Array.getInternal_eq_getElem, List.getElem_toArray, List.getElem_cons_zero, List.getElem_cons_succ, List.setIfInBounds_toArray, List.set_cons_zero, List.set_cons_succ]
        refine wpAnyH_take (i := 5) (v := ?_) rfl (by kernel_rfl) (by kernel_rfl) (by kernel_rfl) (fun _ _ _ h => h) (Or.inl ⟨by kernel_rfl, ?_⟩) (by assumption) ?_
        rotate_left
        · (intro w hSw; (try dsimp only at hSw); go_simp) <;> (try (with_reducible rfl))
        try simp only [Act.put, Array.getInternal_eq_getElem, List.getElem_toArray, List.getElem_cons_zero, List.getElem_cons_succ, List.setIfInBounds_toArray, List.set_cons_zero, List.set_cons_succ]
        refine' wpAnyH_take (i := 6) (v := _) rfl (by kernel_rfl) (by kernel_rfl) (by kernel_rfl) (fun _ _ _ h => h) (yieldsIf_load_mid (by kernel_rfl) _ _ rfl _ _ rfl _ _ (fun w hSw => hSw.1) Try.underlying29 rfl HSZ.out) (by assumption) ?_
        try simp only [Act.put, Array.getInternal_eq_getElem, List.getElem_toArray, List.getElem_cons_zero, List.getElem_cons_succ, List.setIfInBounds_toArray, List.set_cons_zero, List.set_cons_succ]
        refine wpAnyH_take (i := 8) (v := ?_) rfl (by kernel_rfl) (by kernel_rfl) (by kernel_rfl) (fun _ _ _ h => h) (Or.inl ⟨by kernel_rfl, ?_⟩) (by assumption) ?_
        rotate_left
        · (intro w hSw; (try dsimp only at hSw); go_simp) <;> (try (with_reducible rfl))
        try simp only [Act.put, Array.getInternal_eq_getElem, List.getElem_toArray, List.getElem_cons_zero, List.getElem_cons_succ, List.setIfInBounds_toArray, List.set_cons_zero, List.set_cons_succ]
        refine wpAnyH_take (i := 9) (v := ?_) rfl (by kernel_rfl) (by kernel_rfl) (by kernel_rfl) (fun _ _ _ h => h) (Or.inl ⟨by kernel_rfl, ?_⟩) (by assumption) ?_
        rotate_left
        · (intro w hSw; have hcell := hSw.2.2; go_simp) <;> (try (with_reducible rfl))
        try simp only [Act.put, Array.getInternal_eq_getElem, List.getElem_toArray, List.getElem_cons_zero, List.getElem_cons_succ, List.setIfInBounds_toArray, List.set_cons_zero, List.set_cons_succ]
        refine wpAnyH_take (i := 12) (v := ?_) rfl (by kernel_rfl) (by kernel_rfl) (by kernel_rfl) (fun _ _ _ h => h) (Or.inl ⟨by kernel_rfl, ?_⟩) (by assumption) ?_
        rotate_left
        · (intro w hSw; (try dsimp only at hSw); go_simp) <;> (try (with_reducible rfl))
        try simp only [Act.put, Array.getInternal_eq_getElem, List.getElem_toArray, List.getElem_cons_zero, List.getElem_cons_succ, List.setIfInBounds_toArray, List.set_cons_zero, List.set_cons_succ]
        refine wpAnyH_ready (rs := [7]) (by kernel_rfl) (by simp) ?_
        refine AllReadyH.cons rfl (fun K hK => ?_) AllReadyH.nil
        (rw [if_pos (by kernel_rfl)]; go_simp; go_at_call 33; refine ((HFR _).out).mono ?_; rintro e ua ⟨rfl, ka⟩; have KA := Lib.hid (((Keeps.refl (fun _ => False) wr).drew).trans (ka _)); clear ka)
        refine hK.out _ _ (HCL.out _ KA.out) (fun hHeld => ?_)
        clear hK K
        try simp only [Act.put, Array.getInternal_eq_getElem, List.getElem_toArray, List.getElem_cons_zero, List.getElem_cons_succ, List.setIfInBounds_toArray, List.set_cons_zero, List.set_cons_succ]
        refine wpAnyH_ready (rs := [10]) (by kernel_rfl) (by simp) ?_
        refine AllReadyH.cons rfl (fun K hK => ?_) AllReadyH.nil
        (rw [if_pos (by kernel_rfl)]; go_simp; go_at_call 32; refine ((HM _).out).mono ?_; rintro e wx ⟨rfl, h9⟩; subst wx)
        refine hK.out _ _ (HCL.out _ KA.out) (fun hHeld => ?_)
        clear hK K
        try simp only [Act.put, Array.getInternal_eq_getElem, List.getElem_toArray, List.getElem_cons_zero, List.getElem_cons_succ, List.setIfInBounds_toArray, List.set_cons_zero, List.set_cons_succ]
        refine wpAnyH_take (i := 11) (v := ?_) rfl (by kernel_rfl) (by kernel_rfl) (by kernel_rfl) (fun _ _ _ h => h) (Or.inl ⟨by kernel_rfl, ?_⟩) (by assumption) ?_
        rotate_left
        · (intro w hSw; (try dsimp only at hSw); go_simp) <;> (try (with_reducible rfl))
        try simp only [Act.put, Array.getInternal_eq_getElem, List.getElem_toArray, List.getElem_cons_zero, List.getElem_cons_succ, List.setIfInBounds_toArray, List.set_cons_zero, List.set_cons_succ]
        refine wpAnyH_take (i := 13) (v := ?_) rfl (by kernel_rfl) (by kernel_rfl) (by kernel_rfl) (fun _ _ _ h => h) (Or.inl ⟨by kernel_rfl, ?_⟩) (by assumption) ?_
        rotate_left
        · (intro w hSw; (try dsimp only at hSw); go_simp) <;> (try (with_reducible rfl))
        try simp only [Act.put, Array.getInternal_eq_getElem, List.getElem_toArray, List.getElem_cons_zero, List.getElem_cons_succ, List.setIfInBounds_toArray, List.set_cons_zero, List.set_cons_succ]
        refine wpAnyH_take (i := 14) (v := ?_) rfl (by kernel_rfl) (by kernel_rfl) (by kernel_rfl) (fun _ _ _ h => h) (Or.inl ⟨by kernel_rfl, ?_⟩) (by assumption) ?_
        rotate_left
        · (intro w hSw; (try dsimp only at hSw); go_simp) <;> (try (with_reducible rfl))
        try simp only [Act.put, Array.getInternal_eq_getElem, List.getElem_toArray, List.getElem_cons_zero, List.getElem_cons_succ, List.setIfInBounds_toArray, List.set_cons_zero, List.set_cons_succ]
        refine wpAnyH_take (i := 15) (v := ?_) rfl (by kernel_rfl) (by kernel_rfl) (by kernel_rfl) (fun _ _ _ h => h) (Or.inl ⟨by kernel_rfl, ?_⟩) (by assumption) ?_
        rotate_left
        · (intro w hSw; (try dsimp only at hSw); go_simp) <;> (try (with_reducible rfl))
        try simp only [Act.put, Array.getInternal_eq_getElem, List.getElem_toArray, List.getElem_cons_zero, List.getElem_cons_succ, List.setIfInBounds_toArray, List.set_cons_zero, List.set_cons_succ]
        refine wpAnyH_done ?_ ?_ _
        · kernel_rfl
        have YU := Lib.hid (By.grown hy.out (fun S => (KA.out.mono (fun _ _ z => z.elim))))
        have x42 := (HCL.out _ KA.out).2.1
        have xb := rd_cell (rd_old HR.out ((keeps_own HK2.out PL.out (Nat.le_refl _) (fun _ => False)).trans ((hy.out.keep _).trans KA.out))) (k := k) (by have := HLR.out.1; omega)
        obtain ⟨x, hx⟩ : ∃ x, x = h.dat.getD k 0 := ⟨_, rfl⟩
        rw [← hx] at xb
        have hkl : k < h.dat.length := by have := HLR.out.1; omega
        have hkk : (h.dat.take k).length = k := by rw [List.length_take]; omega
        have HKK := Lib.hid hkk
        have htk : h.dat.take (k + 1) = h.dat.take k ++ [x] := by rw [List.take_succ_eq_append_getElem hkl, hx, List.getD_eq_getElem?_getD, List.getElem?_eq_getElem hkl]; rfl
        have HTK := Lib.hid htk
        clear hx hkl hkk htk
        go_wp2_with ((with_reducible show wpList _ _ _ (⟨some 71, _, _, _, _, _⟩ :: _) _ _); refine By.wpList_append rfl _ _ rfl (YU.out.alloc _) rfl (some ⟨ua.heap.size, 0, none⟩) 1 1 _ [x] rfl rfl (lit_rd ua [x] _ rfl) (by have := HKK.out; simp; omega) ?_; intro v3 w3 y3 k3; have Y3 : Hid (By wL w3 v3 (h.dat.take (k + 1))) := Lib.hid (by rw [HTK.out]; exact y3); clear y3 k3)
        --@RR
        go_roundw
        case rel => exact ⟨k + 1, by omega, by omega, by go_num, Y3⟩
        case measure => simp [intOf]; omega
      · have HKE : Hid (k = 2008) := Lib.hid (by omega)
        have d9 : ¬ (s9 : Int) < 2048 := by omega
        clear hs9
        go_wp2_with fail
        refine wp_region_held_drew (S := fun w' => w'.rangeAt w.heap.size 0 (hcs (fitX h) (.slice A n c)) ∧ w'.cell? ⟨w.heap.size, 42, none⟩ = some (.slice A n c) ∧ w'.cell? ⟨w.heap.size, 34, none⟩ = some (.int .u8 (h.pr : Int))) (by kernel_rfl) (HCL.out _ ((Keeps.refl _ wr).drew)) (fun hHeld => ?_)
        refine wpAnyH_take (i := 0) (v := ?_) rfl (by kernel_rfl) (by kernel_rfl) (by kernel_rfl) (fun _ _ _ h => h) (Or.inl ⟨by kernel_rfl, ?_⟩) (by assumption) ?_
        rotate_left
        · (intro w hSw; (try dsimp only at hSw); go_simp) <;> (try (with_reducible rfl))
        try simp only [Act.put, Array.getInternal_eq_getElem, List.getElem_toArray, List.getElem_cons_zero, List.getElem_cons_succ, List.setIfInBounds_toArray, List.set_cons_zero, List.set_cons_succ]
        refine wpAnyH_take (i := 1) (v := ?_) rfl (by kernel_rfl) (by kernel_rfl) (by kernel_rfl) (fun _ _ _ h => h) (Or.inl ⟨by kernel_rfl, ?_⟩) (by assumption) ?_
        rotate_left
        · (intro w hSw; (try dsimp only at hSw); go_simp) <;> (try (with_reducible rfl))
        try simp only [Act.put, Array.getInternal_eq_getElem, List.getElem_toArray, List.getElem_cons_zero, List.getElem_cons_succ, List.setIfInBounds_toArray, List.set_cons_zero, List.set_cons_succ]
        refine wpAnyH_take (i := 2) (v := ?_) rfl (by kernel_rfl) (by kernel_rfl) (by kernel_rfl) (fun _ _ _ h => h) (Or.inl ⟨by kernel_rfl, ?_⟩) (by assumption) ?_
        rotate_left
        · (intro w hSw; have hcell := hSw.2.1; go_simp) <;> (try (with_reducible rfl))
        try simp only [Act.put, Array.getInternal_eq_getElem, List.getElem_toArray, List.getElem_cons_zero, List.getElem_cons_succ, List.setIfInBounds_toArray, List.set_cons_zero, List.set_cons_succ]
        refine wpAnyH_take (i := 3) (v := ?_) rfl (by kernel_rfl) (by kernel_rfl) (by kernel_rfl) (fun _ _ _ h => h) (Or.inl ⟨by kernel_rfl, ?_⟩) (by assumption) ?_
        rotate_left
        · (intro w hSw; (try dsimp only at hSw); go_simp) <;> (try (with_reducible rfl))
        try simp only [Act.put, Array.getInternal_eq_getElem, List.getElem_toArray, List.getElem_cons_zero, List.getElem_cons_succ, List.setIfInBounds_toArray, List.set_cons_zero, List.set_cons_succ]
        refine wpAnyH_take (i := 4) (v := ?_) rfl (by kernel_rfl) (by kernel_rfl) (by kernel_rfl) (fun _ _ _ h => h) (Or.inl ⟨by kernel_rfl, ?_⟩) (by assumption) ?_
        rotate_left
        · (intro w hSw; (try dsimp only at hSw); go_simp) <;> (try (with_reducible rfl))
        try simp only [Act.put, Array.getInternal_eq_getElem, List.getElem_toArray, List.getElem_cons_zero, List.getElem_cons_succ, List.setIfInBounds_toArray, List.set_cons_zero, List.set_cons_succ]
        refine wpAnyH_take (i := 5) (v := ?_) rfl (by kernel_rfl) (by kernel_rfl) (by kernel_rfl) (fun _ _ _ h => h) (Or.inl ⟨by kernel_rfl, ?_⟩) (by assumption) ?_
        rotate_left
        · (intro w hSw; (try dsimp only at hSw); go_simp) <;> (try (with_reducible rfl))
        try simp only [Act.put, Array.getInternal_eq_getElem, List.getElem_toArray, List.getElem_cons_zero, List.getElem_cons_succ, List.setIfInBounds_toArray, List.set_cons_zero, List.set_cons_succ]
        refine' wpAnyH_take (i := 6) (v := _) rfl (by kernel_rfl) (by kernel_rfl) (by kernel_rfl) (fun _ _ _ h => h) (yieldsIf_load_mid (by kernel_rfl) _ _ rfl _ _ rfl _ _ (fun w hSw => hSw.1) Try.underlying29 rfl HSZ.out) (by assumption) ?_
        try simp only [Act.put, Array.getInternal_eq_getElem, List.getElem_toArray, List.getElem_cons_zero, List.getElem_cons_succ, List.setIfInBounds_toArray, List.set_cons_zero, List.set_cons_succ]
        refine wpAnyH_take (i := 8) (v := ?_) rfl (by kernel_rfl) (by kernel_rfl) (by kernel_rfl) (fun _ _ _ h => h) (Or.inl ⟨by kernel_rfl, ?_⟩) (by assumption) ?_
        rotate_left
        · (intro w hSw; (try dsimp only at hSw); go_simp) <;> (try (with_reducible rfl))
        try simp only [Act.put, Array.getInternal_eq_getElem, List.getElem_toArray, List.getElem_cons_zero, List.getElem_cons_succ, List.setIfInBounds_toArray, List.set_cons_zero, List.set_cons_succ]
        refine wpAnyH_take (i := 9) (v := ?_) rfl (by kernel_rfl) (by kernel_rfl) (by kernel_rfl) (fun _ _ _ h => h) (Or.inl ⟨by kernel_rfl, ?_⟩) (by assumption) ?_
        rotate_left
        · (intro w hSw; have hcell := hSw.2.2; go_simp) <;> (try (with_reducible rfl))
        try simp only [Act.put, Array.getInternal_eq_getElem, List.getElem_toArray, List.getElem_cons_zero, List.getElem_cons_succ, List.setIfInBounds_toArray, List.set_cons_zero, List.set_cons_succ]
        refine wpAnyH_take (i := 12) (v := ?_) rfl (by kernel_rfl) (by kernel_rfl) (by kernel_rfl) (fun _ _ _ h => h) (Or.inl ⟨by kernel_rfl, ?_⟩) (by assumption) ?_
        rotate_left
        · (intro w hSw; (try dsimp only at hSw); go_simp) <;> (try (with_reducible rfl))
        try simp only [Act.put, Array.getInternal_eq_getElem, List.getElem_toArray, List.getElem_cons_zero, List.getElem_cons_succ, List.setIfInBounds_toArray, List.set_cons_zero, List.set_cons_succ]
        refine wpAnyH_ready (rs := [7]) (by kernel_rfl) (by simp) ?_
        refine AllReadyH.cons rfl (fun K hK => ?_) AllReadyH.nil
        (rw [if_pos (by kernel_rfl)]; go_simp; go_at_call 33; refine ((HFR _).out).mono ?_; rintro e ua ⟨rfl, ka⟩; have KA := Lib.hid (((Keeps.refl (fun _ => False) wr).drew).trans (ka _)); clear ka)
        refine hK.out _ _ (HCL.out _ KA.out) (fun hHeld => ?_)
        clear hK K
        try simp only [Act.put, Array.getInternal_eq_getElem, List.getElem_toArray, List.getElem_cons_zero, List.getElem_cons_succ, List.setIfInBounds_toArray, List.set_cons_zero, List.set_cons_succ]
        refine wpAnyH_ready (rs := [10]) (by kernel_rfl) (by simp) ?_
        refine AllReadyH.cons rfl (fun K hK => ?_) AllReadyH.nil
        (rw [if_pos (by kernel_rfl)]; go_simp; go_at_call 32; refine ((HM _).out).mono ?_; rintro e wx ⟨rfl, h9⟩; subst wx)
        refine hK.out _ _ (HCL.out _ KA.out) (fun hHeld => ?_)
        clear hK K
        try simp only [Act.put, Array.getInternal_eq_getElem, List.getElem_toArray, List.getElem_cons_zero, List.getElem_cons_succ, List.setIfInBounds_toArray, List.set_cons_zero, List.set_cons_succ]
        refine wpAnyH_take (i := 11) (v := ?_) rfl (by kernel_rfl) (by kernel_rfl) (by kernel_rfl) (fun _ _ _ h => h) (Or.inl ⟨by kernel_rfl, ?_⟩) (by assumption) ?_
        rotate_left
        · (intro w hSw; (try dsimp only at hSw); go_simp) <;> (try (with_reducible rfl))
        try simp only [Act.put, Array.getInternal_eq_getElem, List.getElem_toArray, List.getElem_cons_zero, List.getElem_cons_succ, List.setIfInBounds_toArray, List.set_cons_zero, List.set_cons_succ]
        refine wpAnyH_take (i := 13) (v := ?_) rfl (by kernel_rfl) (by kernel_rfl) (by kernel_rfl) (fun _ _ _ h => h) (Or.inl ⟨by kernel_rfl, ?_⟩) (by assumption) ?_
        rotate_left
        · (intro w hSw; (try dsimp only at hSw); go_simp) <;> (try (with_reducible rfl))
        try simp only [Act.put, Array.getInternal_eq_getElem, List.getElem_toArray, List.getElem_cons_zero, List.getElem_cons_succ, List.setIfInBounds_toArray, List.set_cons_zero, List.set_cons_succ]
        refine wpAnyH_take (i := 14) (v := ?_) rfl (by kernel_rfl) (by kernel_rfl) (by kernel_rfl) (fun _ _ _ h => h) (Or.inl ⟨by kernel_rfl, ?_⟩) (by assumption) ?_
        rotate_left
        · (intro w hSw; (try dsimp only at hSw); go_simp) <;> (try (with_reducible rfl))
        try simp only [Act.put, Array.getInternal_eq_getElem, List.getElem_toArray, List.getElem_cons_zero, List.getElem_cons_succ, List.setIfInBounds_toArray, List.set_cons_zero, List.set_cons_succ]
        refine wpAnyH_take (i := 15) (v := ?_) rfl (by kernel_rfl) (by kernel_rfl) (by kernel_rfl) (fun _ _ _ h => h) (Or.inl ⟨by kernel_rfl, ?_⟩) (by assumption) ?_
        rotate_left
        · (intro w hSw; (try dsimp only at hSw); go_simp) <;> (try (with_reducible rfl))
        try simp only [Act.put, Array.getInternal_eq_getElem, List.getElem_toArray, List.getElem_cons_zero, List.getElem_cons_succ, List.setIfInBounds_toArray, List.set_cons_zero, List.set_cons_succ]
        refine wpAnyH_done ?_ ?_ _
        · kernel_rfl
        obtain ⟨A5, c5, rfl, r5⟩ := hy.out.rd
        obtain ⟨m5, hm5⟩ : ∃ m5, (h.dat.take k).length = m5 := ⟨_, rfl⟩
        rw [hm5] at hy ⊢
        have ed : (fit h).dat = h.dat.take k := by
          show h.dat.take (2048 - (fsz h + mids h.pr)) = _
          rw [HLR.out.2.2.2, HLR.out.2.2.1]
          rw [HKE.out]
        have kwL : ∀ S, Keeps S w wL := keeps_own HK2.out PL.out (Nat.le_refl _)
        have sL : w.heap.size + 2 ≤ wL.heap.size := by have := PL.out.size; have := HZ.out.lt; omega
        have kx : ∀ S, Keeps S wL ua := fun S => (hy.out.keep S).trans (KA.out.mono (fun _ _ z => z.elim))
        have gx := Blk.keeps GL.out (kx (fun _ => False)) (fun z => z)
        have wfx := fitX_wf HWF.out
        have c42 : (ua).cell? ⟨w.heap.size, 42, none⟩ = some _ := h_cell gx wfx.s wfx.d 8 _ rfl
        have f42 : (ua).frozen? ⟨w.heap.size, 42, none⟩ = false := gx.frozen 42
        have g6 := st_dat gx wfx.s wfx.d (.slice A5 m5 c5) (fit h).dat
        have p6 := keeps_put (G := w.heap.size) (Keeps.refl _ (ua)) 42 (.slice A5 m5 c5)
        obtain ⟨w6, hw6⟩ : ∃ y, y = (ua).setCell ⟨w.heap.size, 42, none⟩ (.slice A5 m5 c5) := ⟨_, rfl⟩
        rw [← hw6] at g6 p6
        have GF : Hid (Blk w6 w.heap.size 29 (hcs (fit h) (.slice A5 m5 c5))) := Lib.hid g6
        have zz := Blk.keeps (Blk.keeps (Blk.keeps HZ.out PL.out (by omega)) (kx (fun _ => False)) (fun z => z)) p6 (by omega)
        obtain ⟨tz, bz, kz⟩ := p_store zz (cs := hcs (fit h) (.slice A5 m5 c5)) (by rw [hcs_len (fit_wf HWF.out)]; rfl)
        have yy : By w (w6.setCells (w.heap.size + 1) 0 (hcs (fit h) (.slice A5 m5 c5))) (.slice A5 m5 c5) (fit h).dat := by
          rw [ed]
          exact past_ (past_ (By.base (By.grown hy.out (fun S => (KA.out.mono (fun _ _ z => z.elim)))) kwL) p6 (Nat.le_refl _) (hy.out.apart (by omega))) kz (by omega) (hy.out.apart (by omega))
        have HTZ := Lib.hid tz
        have HBZ := Lib.hid bz
        have HYY := Lib.hid yy
        have HW6 := Lib.hid hw6
        have HSF := Lib.hid (hd_sz (fit_wf HWF.out) (.slice A5 m5 c5))
        have HSG := Lib.hid (all_oneCell_toArray (hcs_one (h := fit h) (v := .slice A5 m5 c5) rfl))
        clear hw6 g6 p6 zz tz bz kz yy gx kx kwL sL r5 wfx ed
        go_wp2_with (first
          | ((with_reducible show wpList _ _ _ (⟨some 74, _, _, _, _, _⟩ :: _) _ _); (try rw [← HW6.out]); refine wpList_load_mid rfl 29 _ rfl w.heap.size 0 rfl (hcs (fit h) (.slice A5 m5 c5)) _ (Blk.range GF.out) Try.underlying29 rfl HSF.out ?_)
          | ((with_reducible show wpList _ _ _ (⟨none, .store _ (.tmp 2) _, _, _, _, _⟩ :: _) _ _); refine' wpList_store_mid rfl 29 _ _ rfl (w.heap.size + 1) 0 (hcs (fit h) (.slice A5 m5 c5)).toArray ?hx rfl ?ht HSF.out HSG.out ?_; (case hx => rfl); (case ht => exact HTZ.out)))
        try rw [Exit.noGoto_ret]
        refine bodyPost_ret (results_cell_row (p := 2) (ty := 29) (by kernel_rfl) _ _ (w.heap.size + 1) _ _ _ _ (by rfl) HBZ.out Try.underlying29 rfl (by rw [List.size_toArray]; exact HSF.out)) rfl ?_
        exact ⟨_, rfl, HYY.out⟩

    · have dlt : ¬ (k : Int) < (n : Int) := by omega
      clear hs9
      go_wp2_with fail
      refine wp_region_held_drew (S := fun w' => w'.rangeAt w.heap.size 0 (hcs (fitX h) (.slice A n c)) ∧ w'.cell? ⟨w.heap.size, 42, none⟩ = some (.slice A n c) ∧ w'.cell? ⟨w.heap.size, 34, none⟩ = some (.int .u8 (h.pr : Int))) (by kernel_rfl) (HCL.out _ ((Keeps.refl _ wr).drew)) (fun hHeld => ?_)
      refine wpAnyH_take (i := 0) (v := ?_) rfl (by kernel_rfl) (by kernel_rfl) (by kernel_rfl) (fun _ _ _ h => h) (Or.inl ⟨by kernel_rfl, ?_⟩) (by assumption) ?_
      rotate_left
      · (intro w hSw; (try dsimp only at hSw); go_simp) <;> (try (with_reducible rfl))
      try simp only [Act.put, Array.getInternal_eq_getElem, List.getElem_toArray, List.getElem_cons_zero, List.getElem_cons_succ, List.setIfInBounds_toArray, List.set_cons_zero, List.set_cons_succ]
      refine wpAnyH_take (i := 1) (v := ?_) rfl (by kernel_rfl) (by kernel_rfl) (by kernel_rfl) (fun _ _ _ h => h) (Or.inl ⟨by kernel_rfl, ?_⟩) (by assumption) ?_
      rotate_left
      · (intro w hSw; (try dsimp only at hSw); go_simp) <;> (try (with_reducible rfl))
      try simp only [Act.put, Array.getInternal_eq_getElem, List.getElem_toArray, List.getElem_cons_zero, List.getElem_cons_succ, List.setIfInBounds_toArray, List.set_cons_zero, List.set_cons_succ]
      refine wpAnyH_take (i := 2) (v := ?_) rfl (by kernel_rfl) (by kernel_rfl) (by kernel_rfl) (fun _ _ _ h => h) (Or.inl ⟨by kernel_rfl, ?_⟩) (by assumption) ?_
      rotate_left
      · (intro w hSw; have hcell := hSw.2.1; go_simp) <;> (try (with_reducible rfl))
      try simp only [Act.put, Array.getInternal_eq_getElem, List.getElem_toArray, List.getElem_cons_zero, List.getElem_cons_succ, List.setIfInBounds_toArray, List.set_cons_zero, List.set_cons_succ]
      refine wpAnyH_take (i := 3) (v := ?_) rfl (by kernel_rfl) (by kernel_rfl) (by kernel_rfl) (fun _ _ _ h => h) (Or.inl ⟨by kernel_rfl, ?_⟩) (by assumption) ?_
      rotate_left
      · (intro w hSw; (try dsimp only at hSw); go_simp) <;> (try (with_reducible rfl))
      try simp only [Act.put, Array.getInternal_eq_getElem, List.getElem_toArray, List.getElem_cons_zero, List.getElem_cons_succ, List.setIfInBounds_toArray, List.set_cons_zero, List.set_cons_succ]
      refine wpAnyH_take (i := 4) (v := ?_) rfl (by kernel_rfl) (by kernel_rfl) (by kernel_rfl) (fun _ _ _ h => h) (Or.inl ⟨by kernel_rfl, ?_⟩) (by assumption) ?_
      rotate_left
      · (intro w hSw; (try dsimp only at hSw); go_simp) <;> (try (with_reducible rfl))
      try simp only [Act.put, Array.getInternal_eq_getElem, List.getElem_toArray, List.getElem_cons_zero, List.getElem_cons_succ, List.setIfInBounds_toArray, List.set_cons_zero, List.set_cons_succ]
      refine wpAnyH_take (i := 5) (v := ?_) rfl (by kernel_rfl) (by kernel_rfl) (by kernel_rfl) (fun _ _ _ h => h) (Or.inl ⟨by kernel_rfl, ?_⟩) (by assumption) ?_
      rotate_left
      · (intro w hSw; (try dsimp only at hSw); go_simp) <;> (try (with_reducible rfl))
      try simp only [Act.put, Array.getInternal_eq_getElem, List.getElem_toArray, List.getElem_cons_zero, List.getElem_cons_succ, List.setIfInBounds_toArray, List.set_cons_zero, List.set_cons_succ]
      refine wpAnyH_take (i := 6) (v := undef) rfl (by kernel_rfl) (by kernel_rfl) (by kernel_rfl) (fun _ _ _ h => h) (Or.inr ⟨by kernel_rfl, rfl⟩) (by assumption) ?_
      try simp only [Act.put, Array.getInternal_eq_getElem, List.getElem_toArray, List.getElem_cons_zero, List.getElem_cons_succ, List.setIfInBounds_toArray, List.set_cons_zero, List.set_cons_succ]
      refine wpAnyH_take (i := 7) (v := undef) rfl (by kernel_rfl) (by kernel_rfl) (by kernel_rfl) (fun _ _ _ h => h) (Or.inr ⟨by kernel_rfl, rfl⟩) (by assumption) ?_
      try simp only [Act.put, Array.getInternal_eq_getElem, List.getElem_toArray, List.getElem_cons_zero, List.getElem_cons_succ, List.setIfInBounds_toArray, List.set_cons_zero, List.set_cons_succ]
      refine wpAnyH_take (i := 8) (v := undef) rfl (by kernel_rfl) (by kernel_rfl) (by kernel_rfl) (fun _ _ _ h => h) (Or.inr ⟨by kernel_rfl, rfl⟩) (by assumption) ?_
      try simp only [Act.put, Array.getInternal_eq_getElem, List.getElem_toArray, List.getElem_cons_zero, List.getElem_cons_succ, List.setIfInBounds_toArray, List.set_cons_zero, List.set_cons_succ]
      refine wpAnyH_take (i := 9) (v := undef) rfl (by kernel_rfl) (by kernel_rfl) (by kernel_rfl) (fun _ _ _ h => h) (Or.inr ⟨by kernel_rfl, rfl⟩) (by assumption) ?_
      try simp only [Act.put, Array.getInternal_eq_getElem, List.getElem_toArray, List.getElem_cons_zero, List.getElem_cons_succ, List.setIfInBounds_toArray, List.set_cons_zero, List.set_cons_succ]
      refine wpAnyH_take (i := 10) (v := undef) rfl (by kernel_rfl) (by kernel_rfl) (by kernel_rfl) (fun _ _ _ h => h) (Or.inr ⟨by kernel_rfl, rfl⟩) (by assumption) ?_
      try simp only [Act.put, Array.getInternal_eq_getElem, List.getElem_toArray, List.getElem_cons_zero, List.getElem_cons_succ, List.setIfInBounds_toArray, List.set_cons_zero, List.set_cons_succ]
      refine wpAnyH_take (i := 11) (v := undef) rfl (by kernel_rfl) (by kernel_rfl) (by kernel_rfl) (fun _ _ _ h => h) (Or.inr ⟨by kernel_rfl, rfl⟩) (by assumption) ?_
      try simp only [Act.put, Array.getInternal_eq_getElem, List.getElem_toArray, List.getElem_cons_zero, List.getElem_cons_succ, List.setIfInBounds_toArray, List.set_cons_zero, List.set_cons_succ]
      refine wpAnyH_take (i := 12) (v := undef) rfl (by kernel_rfl) (by kernel_rfl) (by kernel_rfl) (fun _ _ _ h => h) (Or.inr ⟨by kernel_rfl, rfl⟩) (by assumption) ?_
      try simp only [Act.put, Array.getInternal_eq_getElem, List.getElem_toArray, List.getElem_cons_zero, List.getElem_cons_succ, List.setIfInBounds_toArray, List.set_cons_zero, List.set_cons_succ]
      refine wpAnyH_take (i := 13) (v := undef) rfl (by kernel_rfl) (by kernel_rfl) (by kernel_rfl) (fun _ _ _ h => h) (Or.inr ⟨by kernel_rfl, rfl⟩) (by assumption) ?_
      try simp only [Act.put, Array.getInternal_eq_getElem, List.getElem_toArray, List.getElem_cons_zero, List.getElem_cons_succ, List.setIfInBounds_toArray, List.set_cons_zero, List.set_cons_succ]
      refine wpAnyH_take (i := 14) (v := undef) rfl (by kernel_rfl) (by kernel_rfl) (by kernel_rfl) (fun _ _ _ h => h) (Or.inr ⟨by kernel_rfl, rfl⟩) (by assumption) ?_
      try simp only [Act.put, Array.getInternal_eq_getElem, List.getElem_toArray, List.getElem_cons_zero, List.getElem_cons_succ, List.setIfInBounds_toArray, List.set_cons_zero, List.set_cons_succ]
      refine wpAnyH_take (i := 15) (v := ?_) rfl (by kernel_rfl) (by kernel_rfl) (by kernel_rfl) (fun _ _ _ h => h) (Or.inl ⟨by kernel_rfl, ?_⟩) (by assumption) ?_
      rotate_left
      · (intro w hSw; (try dsimp only at hSw); go_simp) <;> (try (with_reducible rfl))
      try simp only [Act.put, Array.getInternal_eq_getElem, List.getElem_toArray, List.getElem_cons_zero, List.getElem_cons_succ, List.setIfInBounds_toArray, List.set_cons_zero, List.set_cons_succ]
      refine wpAnyH_done ?_ ?_ _
      · kernel_rfl
      obtain ⟨wq, hwq⟩ : ∃ y, y = wr.drew := ⟨_, rfl⟩
      rw [← hwq]
      have KQ : Hid (∀ S, Keeps S wr wq) := Lib.hid (fun S => by rw [hwq]; exact (Keeps.refl S wr).drew)
      clear hwq
      obtain ⟨A5, c5, rfl, r5⟩ := hy.out.rd
      obtain ⟨m5, hm5⟩ : ∃ m5, (h.dat.take k).length = m5 := ⟨_, rfl⟩
      rw [hm5] at hy ⊢
      have ed : (fit h).dat = h.dat.take k := by
        show h.dat.take (2048 - (fsz h + mids h.pr)) = _
        rw [HLR.out.2.2.2, HLR.out.2.2.1]
        rw [List.take_of_length_le (by have := HLR.out.1; omega), List.take_of_length_le (by have := HLR.out.1; omega)]
      have kwL : ∀ S, Keeps S w wL := keeps_own HK2.out PL.out (Nat.le_refl _)
      have sL : w.heap.size + 2 ≤ wL.heap.size := by have := PL.out.size; have := HZ.out.lt; omega
      have kx : ∀ S, Keeps S wL wq := fun S => (hy.out.keep S).trans (KQ.out S)
      have gx := Blk.keeps GL.out (kx (fun _ => False)) (fun z => z)
      have wfx := fitX_wf HWF.out
      have c42 : (wq).cell? ⟨w.heap.size, 42, none⟩ = some _ := h_cell gx wfx.s wfx.d 8 _ rfl
      have f42 : (wq).frozen? ⟨w.heap.size, 42, none⟩ = false := gx.frozen 42
      have g6 := st_dat gx wfx.s wfx.d (.slice A5 m5 c5) (fit h).dat
      have p6 := keeps_put (G := w.heap.size) (Keeps.refl _ (wq)) 42 (.slice A5 m5 c5)
      obtain ⟨w6, hw6⟩ : ∃ y, y = (wq).setCell ⟨w.heap.size, 42, none⟩ (.slice A5 m5 c5) := ⟨_, rfl⟩
      rw [← hw6] at g6 p6
      have GF : Hid (Blk w6 w.heap.size 29 (hcs (fit h) (.slice A5 m5 c5))) := Lib.hid g6
      have zz := Blk.keeps (Blk.keeps (Blk.keeps HZ.out PL.out (by omega)) (kx (fun _ => False)) (fun z => z)) p6 (by omega)
      obtain ⟨tz, bz, kz⟩ := p_store zz (cs := hcs (fit h) (.slice A5 m5 c5)) (by rw [hcs_len (fit_wf HWF.out)]; rfl)
      have yy : By w (w6.setCells (w.heap.size + 1) 0 (hcs (fit h) (.slice A5 m5 c5))) (.slice A5 m5 c5) (fit h).dat := by
        rw [ed]
        exact past_ (past_ (By.base (By.grown hy.out (fun S => (KQ.out S))) kwL) p6 (Nat.le_refl _) (hy.out.apart (by omega))) kz (by omega) (hy.out.apart (by omega))
      have HTZ := Lib.hid tz
      have HBZ := Lib.hid bz
      have HYY := Lib.hid yy
      have HW6 := Lib.hid hw6
      have HSF := Lib.hid (hd_sz (fit_wf HWF.out) (.slice A5 m5 c5))
      have HSG := Lib.hid (all_oneCell_toArray (hcs_one (h := fit h) (v := .slice A5 m5 c5) rfl))
      clear hw6 g6 p6 zz tz bz kz yy gx kx kwL sL r5 wfx ed
      go_wp2_with (first
        | ((with_reducible show wpList _ _ _ (⟨some 74, _, _, _, _, _⟩ :: _) _ _); (try rw [← HW6.out]); refine wpList_load_mid rfl 29 _ rfl w.heap.size 0 rfl (hcs (fit h) (.slice A5 m5 c5)) _ (Blk.range GF.out) Try.underlying29 rfl HSF.out ?_)
        | ((with_reducible show wpList _ _ _ (⟨none, .store _ (.tmp 2) _, _, _, _, _⟩ :: _) _ _); refine' wpList_store_mid rfl 29 _ _ rfl (w.heap.size + 1) 0 (hcs (fit h) (.slice A5 m5 c5)).toArray ?hx rfl ?ht HSF.out HSG.out ?_; (case hx => rfl); (case ht => exact HTZ.out)))
      try rw [Exit.noGoto_ret]
      refine bodyPost_ret (results_cell_row (p := 2) (ty := 29) (by kernel_rfl) _ _ (w.heap.size + 1) _ _ _ _ (by rfl) HBZ.out Try.underlying29 rfl (by rw [List.size_toArray]; exact HSF.out)) rfl ?_
      exact ⟨_, rfl, HYY.out⟩

set_option maxRecDepth 100000 in
set_option maxHeartbeats 4000000 in
theorem rfit_f6 (h : Hd) (A : Option Addr) (n c : Nat) (hw : h.Wf) (hl : h.dat.length = n) (hn : n ≤ 140737488355328) (hr : Rd w w.heap.size A (by_ h.dat)) (hv : h.src.v6 = false) (hp : h.pr = 6) :
    Calls Try.prog 22 #[hvv h (.slice A n c)] w fun e w' => ∃ v, e = .returned (hvv (fit h) v) ∧ By w w' v (fit h).dat := by
  obtain ⟨w2, hw2, k2, bG, bZ, s2⟩ := box2 w (hcs h (.slice A n c)) zhd 29 29
  dsimp only [zhd] at hw2
  have hms : mids h.pr = 20 := by rw [hp]; rfl
  have hfs : fsz h = 20 := by unfold fsz; rw [hv]; rfl
  have HM : ∀ u, Hid (Calls Try.prog 32 #[.int .u8 (h.pr : Int)] u fun e w' => e = .returned (.int .i64 20) ∧ w' = u) := fun u => Lib.hid (by have := rmids_ u h.pr; rw [hms] at this; exact this)
  have h1 := hw.s
  have h2 := hw.d
  have c00 := (HF.of_blk hw bG).v6s
  rw [hv] at c00
  have c17 := c_dv6 bG h1
  have f17 := bG.frozen 17
  have g0 := st_dv6 bG h1 false
  have p0 := keeps_put (G := w.heap.size) (Keeps.refl _ w2) 17 (.bool false)
  have c01 : (w2.setCell ⟨w.heap.size, 17, none⟩ (.bool false)).cell? ⟨w.heap.size, 0, none⟩ = some (.bool false) := by rw [g0.cell, ← hv]; rfl
  have HW2 := Lib.hid hw2
  have HWF := Lib.hid hw
  have HLR := Lib.hid (And.intro hl (And.intro hv (And.intro hms hfs)))
  have HR := Lib.hid hr
  have HP := Lib.hid hp
  have HK2 := Lib.hid k2
  have HG0 := Lib.hid g0
  have HP0 := Lib.hid p0
  have HZ := Lib.hid bZ
  unfold hvv
  clear hw2 k2 bG bZ s2 hw hl hr g0 p0 h1 h2 hms hfs hv hp
  generalize hC : hcs h (.slice A n c) = C at *
  have HCC := Lib.hid hC
  clear hC
  go_enter Try.func22, Try.ntmps22
  go_wp2_with ((with_reducible show wpList _ _ _ (⟨some 6, _, _, _, _, _⟩ :: _) _ _); (try rw [← HW2.out]); refine rest_of ?_)
  unfold Rest_
  obtain ⟨y0, hy0⟩ : ∃ y, y = w2.setCell ⟨w.heap.size, 17, none⟩ (.bool false) := ⟨_, rfl⟩
  have G0 : Hid (Blk y0 w.heap.size 29 _) := Lib.hid (by rw [hy0]; exact HG0.out)
  have P0 : Hid (Keeps (· = w.heap.size) w2 y0) := Lib.hid (by rw [hy0]; exact HP0.out)
  have HY0 := Lib.hid hy0
  clear hy0
  go_wp2_with fail
  rw [← HY0.out]
  clear c00 c17 f17 c01
  --@L1
  go_loopw [3] (fun i wr => ∃ k : Nat, 4 ≤ k ∧ k ≤ 16 ∧ i = .int .i64 k ∧ Hid (Blk wr w.heap.size 29 (hcs (zh k h) (.slice A n c))) ∧ Hid (Keeps (· = w.heap.size) w2 wr)) (fun i _ => 16 - (intOf i).toNat)
  case atStart =>
    refine ⟨4, by omega, by omega, rfl, Lib.hid ?_, P0⟩
    have e : zh 4 h = ⟨h.src, ⟨false, h.dst.B⟩, h.pr, h.sp, h.dp, h.ttl, h.cls, h.id, h.fl, h.seq, h.dat⟩ := Hd.eq_of (by show (⟨false, zrB 4 h.src.B⟩ : Ad) = h.src; rw [zrB_4, ← HLR.out.2.1]) (by show (⟨false, zrB 4 h.dst.B⟩ : Ad) = _; rw [zrB_4]) rfl rfl rfl rfl rfl rfl rfl rfl rfl
    rw [e]; exact G0.out
  case round =>
    obtain ⟨k, hk4, hk16, rfl, hb, hk⟩ := hrel
    by_cases hlt : k < 16
    · have z1 := zh_s HWF.out hk4 hk16
      have z2 := zh_d HWF.out hk4 hk16
      obtain ⟨u1, cx1⟩ := c_at hb.out (hcs_len2 z1 z2 _) (k := 1 + k) (by omega)
      have fx1 := hb.out.frozen (1 + k)
      have b1 := st_sB hb.out z1 hlt
      have p1 := keeps_put (G := w.heap.size) hk.out (1 + k) (.int .u8 0)
      obtain ⟨u2, cx2⟩ := c_at b1 (hcs_len2 (h := ⟨⟨(zh k h).src.v6, (zh k h).src.B.set k 0⟩, (zh k h).dst, (zh k h).pr, (zh k h).sp, (zh k h).dp, (zh k h).ttl, (zh k h).cls, (zh k h).id, (zh k h).fl, (zh k h).seq, (zh k h).dat⟩) (set_wf z1 k) z2 _) (k := 18 + k) (by omega)
      have fx2 := b1.frozen (18 + k)
      have b2 := st_dB b1 (set_wf z1 k) z2 hlt
      have p2 := keeps_put (G := w.heap.size) p1 (18 + k) (.int .u8 0)
      have b3 : Hid (Blk ((wr.setCell ⟨w.heap.size, 1 + k, none⟩ (.int .u8 0)).setCell ⟨w.heap.size, 18 + k, none⟩ (.int .u8 0)) w.heap.size 29 (hcs (zh (k + 1) h) (.slice A n c))) := Lib.hid (by
        have e : zh (k + 1) h = ⟨⟨false, (zrB k h.src.B).set k 0⟩, ⟨false, (zrB k h.dst.B).set k 0⟩, h.pr, h.sp, h.dp, h.ttl, h.cls, h.id, h.fl, h.seq, h.dat⟩ := by unfold zh; rw [zrB_step HWF.out.s.len hk4 hlt, zrB_step HWF.out.d.len hk4 hlt]
        rw [e]; exact b2)
      have p3 := Lib.hid p2
      clear b1 p1 b2 p2 z1 z2
      go_wp2
      --@LR
      go_roundw
      case rel => exact ⟨k + 1, by omega, by omega, by go_num, b3, p3⟩
      case measure => simp [intOf]; omega
    · obtain rfl : k = 16 := by omega
      have z1 := zh_s HWF.out hk4 hk16
      have z2 := zh_d HWF.out hk4 hk16
      have ci0 : (wr).cell? ⟨w.heap.size, 39, none⟩ = some (.int .u32 (h.id : Int)) := h_cell (hb.out) z1 z2 5 _ rfl
      obtain ⟨i1, hi1⟩ : ∃ i1, i1 = h.id % 65536 := ⟨_, rfl⟩
      have zi1 : (h.id : Int) % 65536 = (i1 : Int) := (by omega)
      have zi2 : Int.tmod (h.id : Int) 65536 = (i1 : Int) := (by rw [Int.tmod_eq_emod_of_nonneg (Int.natCast_nonneg _)]; omega)
      have cx1 : (wr).cell? ⟨w.heap.size, 39, none⟩ = some _ := h_cell (hb.out) z1 z2 5 _ rfl
      have fx1 : (wr).frozen? ⟨w.heap.size, 39, none⟩ = false := (hb.out).frozen 39
      have gg1 := st_id (hb.out) z1 z2 i1
      have pq1 := keeps_put (G := w.heap.size) (hk.out) 39 (.int .u32 (i1 : Int))
      have ci1 : ((wr).setCell ⟨w.heap.size, 39, none⟩ (.int .u32 (i1 : Int))).cell? ⟨w.heap.size, 39, none⟩ = some (.int .u32 (i1 : Int)) := h_cell (gg1) z1 z2 5 _ rfl
      have zi3 : (i1 : Int) % 1048576 = (i1 : Int) := (by omega)
      have zi4 : Int.tmod (i1 : Int) 1048576 = (i1 : Int) := (by rw [Int.tmod_eq_emod_of_nonneg (Int.natCast_nonneg _)]; omega)
      have cx2 : ((wr).setCell ⟨w.heap.size, 39, none⟩ (.int .u32 (i1 : Int))).cell? ⟨w.heap.size, 39, none⟩ = some _ := h_cell (gg1) z1 z2 5 _ rfl
      have fx2 : ((wr).setCell ⟨w.heap.size, 39, none⟩ (.int .u32 (i1 : Int))).frozen? ⟨w.heap.size, 39, none⟩ = false := (gg1).frozen 39
      have gg2 := st_id (gg1) z1 z2 i1
      have pq2 := keeps_put (G := w.heap.size) (pq1) 39 (.int .u32 (i1 : Int))
      have cp0 : (((wr).setCell ⟨w.heap.size, 39, none⟩ (.int .u32 (i1 : Int))).setCell ⟨w.heap.size, 39, none⟩ (.int .u32 (i1 : Int))).cell? ⟨w.heap.size, 34, none⟩ = some (.int .u8 (h.pr : Int)) := h_cell (gg2) z1 z2 0 _ rfl
      have d6 : ((h.pr : Int) != 6) = false := (by rw [HP.out]; rfl)
      obtain ⟨wL, hwL⟩ : ∃ y, y = ((wr).setCell ⟨w.heap.size, 39, none⟩ (.int .u32 (i1 : Int))).setCell ⟨w.heap.size, 39, none⟩ (.int .u32 (i1 : Int)) := ⟨_, rfl⟩
      have GL : Hid (Blk wL w.heap.size 29 (hcs (fitX h) (.slice A n c))) := Lib.hid (by rw [hwL]; have e := gg2; rw [fitX_f6 HWF.out HLR.out.2.1 HP.out, ← hi1]; exact e)
      have PL : Hid (Keeps (· = w.heap.size) w2 wL) := Lib.hid (by rw [hwL]; exact pq2)
      have HWL := Lib.hid hwL
      clear hwL hi1 gg1 pq1 gg2 pq2
      go_wp2_with (first | ((with_reducible show Calls _ 32 _ _ _); refine (HM _).out.mono ?_; rintro e wx ⟨rfl, h9⟩; subst wx))
      try rw [← HWL.out]
      clear cx1 fx1 cx2 fx2 ci0 zi1 zi2 cp0 d6 ci1 zi3 zi4 z1 z2
      have HSZ := Lib.hid (hd_sz (fitX_wf HWF.out) (.slice A n c))
      have HFR : ∀ u, Hid (Calls Try.prog 33 #[.agg (hcs (fitX h) (.slice A n c)).toArray] u fun e w' => e = .returned (.int .i64 20) ∧ ∀ S, Keeps S u w') := fun u => Lib.hid (by
        have := rfsz_ u (fitX h) (.slice A n c) (fitX_wf HWF.out)
        rw [show fsz (fitX h) = 20 from by show (if (fitA _ _).v6 = true then 40 else 20) = _; rw [fit_v6, HLR.out.2.1]; rfl] at this
        exact this)
      have ew : IntKind.i64.wrap 40 = 40 := by decide
      --@L2
      go_loopw [4, 5] (fun v i wr => ∃ k : Nat, k ≤ n ∧ k ≤ 2008 ∧ i = .int .i64 k ∧ Hid (By wL wr v (h.dat.take k))) (fun _ i _ => 2009 - (intOf i).toNat)
      case atStart => exact ⟨0, by omega, by omega, rfl, Lib.hid (by rw [List.take_zero]; exact By.nil_ (fun S => Keeps.refl S wL))⟩
      case round =>
        obtain ⟨k, hkn, hkL, rfl, hy⟩ := hrel
        have HCL : Hid (∀ wq, Keeps (fun _ => False) wr wq → wq.rangeAt w.heap.size 0 (hcs (fitX h) (.slice A n c)) ∧ wq.cell? ⟨w.heap.size, 42, none⟩ = some (.slice A n c) ∧ wq.cell? ⟨w.heap.size, 34, none⟩ = some (.int .u8 (h.pr : Int))) := Lib.hid (fun wq kq => by
          have b := Blk.keeps GL.out ((hy.out.keep _).trans kq) (fun z => z)
          exact ⟨Blk.range b, (HF.of_blk (fitX_wf HWF.out) b).dat, (HF.of_blk (fitX_wf HWF.out) b).pr⟩)
        obtain ⟨s9, hs9⟩ : ∃ s9 : Nat, s9 = 40 + k := ⟨_, rfl⟩
        have e9 : IntKind.i64.wrap ((40 : Int) + (k : Int)) = (s9 : Int) := by rw [wi64 (by omega) (by omega)]; omega
        by_cases hlt : k < n
        · have dlt : (k : Int) < (n : Int) := by omega
          by_cases hl2 : k < 2008
          · have d9 : (s9 : Int) < 2048 := by omega
            obtain ⟨b, o, hA, _, _⟩ := HR.out.byte (getq (bs := h.dat) (k := k) (by have := HLR.out.1; omega))
            subst hA
            clear hs9
            go_wp2_with fail
            --@R
            refine wp_region_held_drew (S := fun w' => w'.rangeAt w.heap.size 0 (hcs (fitX h) (.slice (some ⟨b, o, none⟩) n c)) ∧ w'.cell? ⟨w.heap.size, 42, none⟩ = some (.slice (some ⟨b, o, none⟩) n c) ∧ w'.cell? ⟨w.heap.size, 34, none⟩ = some (.int .u8 (h.pr : Int))) (by kernel_rfl) (HCL.out _ ((Keeps.refl _ wr).drew)) (fun hHeld => ?_)
            refine wpAnyH_take (i := 0) (v := ?_) rfl (by kernel_rfl) (by kernel_rfl) (by kernel_rfl) (fun _ _ _ h => h) (Or.inl ⟨by kernel_rfl, ?_⟩) (by assumption) ?_
            rotate_left
            · (intro w hSw; (try dsimp only at hSw); go_simp) <;> (try (with_reducible rfl))
            try simp only [Act.put, Array.getInternal_eq_getElem, List.getElem_toArray, List.getElem_cons_zero, List.getElem_cons_succ, List.setIfInBounds_toArray, List.set_cons_zero, List.set_cons_succ]
            refine wpAnyH_take (i := 1) (v := ?_) rfl (by kernel_rfl) (by kernel_rfl) (by kernel_rfl) (fun _ _ _ h => h) (Or.inl ⟨by kernel_rfl, ?_⟩) (by assumption) ?_
            rotate_left
            · (intro w hSw; (try dsimp only at hSw); go_simp) <;> (try (with_reducible rfl))
            try simp only [Act.put, Array.getInternal_eq_getElem, List.getElem_toArray, List.getElem_cons_zero, List.getElem_cons_succ, List.setIfInBounds_toArray, List.set_cons_zero, List.set_cons_succ]
            refine wpAnyH_take (i := 2) (v := ?_) rfl (by kernel_rfl) (by kernel_rfl) (by kernel_rfl) (fun _ _ _ h => h) (Or.inl ⟨by kernel_rfl, ?_⟩) (by assumption) ?_
            rotate_left
            · (intro w hSw; have hcell := hSw.2.1; go_simp) <;> (try (with_reducible rfl))
            try simp only [Act.put, Array.getInternal_eq_getElem, List.getElem_toArray, List.getElem_cons_zero, List.getElem_cons_succ, List.setIfInBounds_toArray, List.set_cons_zero, List.set_cons_succ]
            refine wpAnyH_take (i := 3) (v := ?_) rfl (by kernel_rfl) (by kernel_rfl) (by kernel_rfl) (fun _ _ _ h => h) (Or.inl ⟨by kernel_rfl, ?_⟩) (by assumption) ?_
            rotate_left
            · (intro w hSw; (try dsimp only at hSw); go_simp) <;> (try (with_reducible rfl))
            try simp only [Act.put, Array.getInternal_eq_getElem, List.getElem_toArray, List.getElem_cons_zero, List.getElem_cons_succ, List.setIfInBounds_toArray, List.set_cons_zero, List.set_cons_succ]
            refine wpAnyH_take (i := 4) (v := ?_) rfl (by kernel_rfl) (by kernel_rfl) (by kernel_rfl) (fun _ _ _ h => h) (Or.inl ⟨by kernel_rfl, ?_⟩) (by assumption) ?_
            rotate_left
            · (intro w hSw; (try dsimp only at hSw); go_simp) <;> (try (with_reducible rfl))
            try simp only [Act.put, Array.getInternal_eq_getElem, List.getElem_toArray, List.getElem_cons_zero, List.getElem_cons_succ, List.setIfInBounds_toArray, List.set_cons_zero, List.set_cons_succ]
            refine wpAnyH_take (i := 5) (v := ?_) rfl (by kernel_rfl) (by kernel_rfl) (by kernel_rfl) (fun _ _ _ h => h) (Or.inl ⟨by kernel_rfl, ?_⟩) (by assumption) ?_
            rotate_left
            · (intro w hSw; (try dsimp only at hSw); go_simp) <;> (try (with_reducible rfl))
            try simp only [Act.put, Array.getInternal_eq_getElem, List.getElem_toArray, List.getElem_cons_zero, List.getElem_cons_succ, List.setIfInBounds_toArray, List.set_cons_zero, List.set_cons_succ]
            refine' wpAnyH_take (i := 6) (v := _) rfl (by kernel_rfl) (by kernel_rfl) (by kernel_rfl) (fun _ _ _ h => h) (yieldsIf_load_mid (by kernel_rfl) _ _ rfl _ _ rfl _ _ (fun w hSw => hSw.1) Try.underlying29 rfl HSZ.out) (by assumption) ?_
            try simp only [Act.put, Array.getInternal_eq_getElem, List.getElem_toArray, List.getElem_cons_zero, List.getElem_cons_succ, List.setIfInBounds_toArray, List.set_cons_zero, List.set_cons_succ]
            refine wpAnyH_take (i := 8) (v := ?_) rfl (by kernel_rfl) (by kernel_rfl) (by kernel_rfl) (fun _ _ _ h => h) (Or.inl ⟨by kernel_rfl, ?_⟩) (by assumption) ?_
            rotate_left
            · (intro w hSw; (try dsimp only at hSw); go_simp) <;> (try (with_reducible rfl))
            try simp only [Act.put, Array.getInternal_eq_getElem, List.getElem_toArray, List.getElem_cons_zero, List.getElem_cons_succ, List.setIfInBounds_toArray, List.set_cons_zero, List.set_cons_succ]
            refine wpAnyH_take (i := 9) (v := ?_) rfl (by kernel_rfl) (by kernel_rfl) (by kernel_rfl) (fun _ _ _ h => h) (Or.inl ⟨by kernel_rfl, ?_⟩) (by assumption) ?_
            rotate_left
            · (intro w hSw; have hcell := hSw.2.2; go_simp) <;> (try (with_reducible rfl))
            try simp only [Act.put, Array.getInternal_eq_getElem, List.getElem_toArray, List.getElem_cons_zero, List.getElem_cons_succ, List.setIfInBounds_toArray, List.set_cons_zero, List.set_cons_succ]
            refine wpAnyH_take (i := 12) (v := ?_) rfl (by kernel_rfl) (by kernel_rfl) (by kernel_rfl) (fun _ _ _ h => h) (Or.inl ⟨by kernel_rfl, ?_⟩) (by assumption) ?_
            rotate_left
            · (intro w hSw; (try dsimp only at hSw); go_simp) <;> (try (with_reducible rfl))
            try simp only [Act.put, Array.getInternal_eq_getElem, List.getElem_toArray, List.getElem_cons_zero, List.getElem_cons_succ, List.setIfInBounds_toArray, List.set_cons_zero, List.set_cons_succ]
            refine wpAnyH_ready (rs := [7]) (by kernel_rfl) (by simp) ?_
            refine AllReadyH.cons rfl (fun K hK => ?_) AllReadyH.nil
            (rw [if_pos (by kernel_rfl)]; go_simp; go_at_call 33; refine ((HFR _).out).mono ?_; rintro e ua ⟨rfl, ka⟩; have KA := Lib.hid (((Keeps.refl (fun _ => False) wr).drew).trans (ka _)); clear ka)
            refine hK.out _ _ (HCL.out _ KA.out) (fun hHeld => ?_)
            clear hK K
            try simp only [Act.put, Array.getInternal_eq_getElem, List.getElem_toArray, List.getElem_cons_zero, List.getElem_cons_succ, List.setIfInBounds_toArray, List.set_cons_zero, List.set_cons_succ]
            refine wpAnyH_ready (rs := [10]) (by kernel_rfl) (by simp) ?_
            refine AllReadyH.cons rfl (fun K hK => ?_) AllReadyH.nil
            (rw [if_pos (by kernel_rfl)]; go_simp; go_at_call 32; refine ((HM _).out).mono ?_; rintro e wx ⟨rfl, h9⟩; subst wx)
            refine hK.out _ _ (HCL.out _ KA.out) (fun hHeld => ?_)
            clear hK K
            try simp only [Act.put, Array.getInternal_eq_getElem, List.getElem_toArray, List.getElem_cons_zero, List.getElem_cons_succ, List.setIfInBounds_toArray, List.set_cons_zero, List.set_cons_succ]
            refine wpAnyH_take (i := 11) (v := ?_) rfl (by kernel_rfl) (by kernel_rfl) (by kernel_rfl) (fun _ _ _ h => h) (Or.inl ⟨by kernel_rfl, ?_⟩) (by assumption) ?_
            rotate_left
            · (intro w hSw; (try dsimp only at hSw); go_simp) <;> (try (with_reducible rfl))
            try simp only [Act.put, Array.getInternal_eq_getElem, List.getElem_toArray, List.getElem_cons_zero, List.getElem_cons_succ, List.setIfInBounds_toArray, List.set_cons_zero, List.set_cons_succ]
            refine wpAnyH_take (i := 13) (v := ?_) rfl (by kernel_rfl) (by kernel_rfl) (by kernel_rfl) (fun _ _ _ h => h) (Or.inl ⟨by kernel_rfl, ?_⟩) (by assumption) ?_
            rotate_left
            · (intro w hSw; (try dsimp only at hSw); go_simp) <;> (try (with_reducible rfl))
            try simp only [Act.put, Array.getInternal_eq_getElem, List.getElem_toArray, List.getElem_cons_zero, List.getElem_cons_succ, List.setIfInBounds_toArray, List.set_cons_zero, List.set_cons_succ]
            refine wpAnyH_take (i := 14) (v := ?_) rfl (by kernel_rfl) (by kernel_rfl) (by kernel_rfl) (fun _ _ _ h => h) (Or.inl ⟨by kernel_rfl, ?_⟩) (by assumption) ?_
            rotate_left
            · (intro w hSw; (try dsimp only at hSw); go_simp) <;> (try (with_reducible rfl))
            try simp only [Act.put, Array.getInternal_eq_getElem, List.getElem_toArray, List.getElem_cons_zero, List.getElem_cons_succ, List.setIfInBounds_toArray, List.set_cons_zero, List.set_cons_succ]
            refine wpAnyH_take (i := 15) (v := ?_) rfl (by kernel_rfl) (by kernel_rfl) (by kernel_rfl) (fun _ _ _ h => h) (Or.inl ⟨by kernel_rfl, ?_⟩) (by assumption) ?_
            rotate_left
            · (intro w hSw; (try dsimp only at hSw); go_simp) <;> (try (with_reducible rfl))
            try simp only [Act.put, Array.getInternal_eq_getElem, List.getElem_toArray, List.getElem_cons_zero, List.getElem_cons_succ, List.setIfInBounds_toArray, List.set_cons_zero, List.set_cons_succ]
            refine wpAnyH_done ?_ ?_ _
            · kernel_rfl
            have YU := Lib.hid (By.grown hy.out (fun S => (KA.out.mono (fun _ _ z => z.elim))))
            have x42 := (HCL.out _ KA.out).2.1
            have xb := rd_cell (rd_old HR.out ((keeps_own HK2.out PL.out (Nat.le_refl _) (fun _ => False)).trans ((hy.out.keep _).trans KA.out))) (k := k) (by have := HLR.out.1; omega)
            obtain ⟨x, hx⟩ : ∃ x, x = h.dat.getD k 0 := ⟨_, rfl⟩
            rw [← hx] at xb
            have hkl : k < h.dat.length := by have := HLR.out.1; omega
            have hkk : (h.dat.take k).length = k := by rw [List.length_take]; omega
            have HKK := Lib.hid hkk
            have htk : h.dat.take (k + 1) = h.dat.take k ++ [x] := by rw [List.take_succ_eq_append_getElem hkl, hx, List.getD_eq_getElem?_getD, List.getElem?_eq_getElem hkl]; rfl
            have HTK := Lib.hid htk
            clear hx hkl hkk htk
            go_wp2_with ((with_reducible show wpList _ _ _ (⟨some 71, _, _, _, _, _⟩ :: _) _ _); refine By.wpList_append rfl _ _ rfl (YU.out.alloc _) rfl (some ⟨ua.heap.size, 0, none⟩) 1 1 _ [x] rfl rfl (lit_rd ua [x] _ rfl) (by have := HKK.out; simp; omega) ?_; intro v3 w3 y3 k3; have Y3 : Hid (By wL w3 v3 (h.dat.take (k + 1))) := Lib.hid (by rw [HTK.out]; exact y3); clear y3 k3)
            --@RR
            go_roundw
            case rel => exact ⟨k + 1, by omega, by omega, by go_num, Y3⟩
            case measure => simp [intOf]; omega
          · have HKE : Hid (k = 2008) := Lib.hid (by omega)
            have d9 : ¬ (s9 : Int) < 2048 := by omega
            clear hs9
            go_wp2_with fail
            refine wp_region_held_drew (S := fun w' => w'.rangeAt w.heap.size 0 (hcs (fitX h) (.slice A n c)) ∧ w'.cell? ⟨w.heap.size, 42, none⟩ = some (.slice A n c) ∧ w'.cell? ⟨w.heap.size, 34, none⟩ = some (.int .u8 (h.pr : Int))) (by kernel_rfl) (HCL.out _ ((Keeps.refl _ wr).drew)) (fun hHeld => ?_)
            refine wpAnyH_take (i := 0) (v := ?_) rfl (by kernel_rfl) (by kernel_rfl) (by kernel_rfl) (fun _ _ _ h => h) (Or.inl ⟨by kernel_rfl, ?_⟩) (by assumption) ?_
            rotate_left
            · (intro w hSw; (try dsimp only at hSw); go_simp) <;> (try (with_reducible rfl))
            try simp only [Act.put, Array.getInternal_eq_getElem, List.getElem_toArray, List.getElem_cons_zero, List.getElem_cons_succ, List.setIfInBounds_toArray, List.set_cons_zero, List.set_cons_succ]
            refine wpAnyH_take (i := 1) (v := ?_) rfl (by kernel_rfl) (by kernel_rfl) (by kernel_rfl) (fun _ _ _ h => h) (Or.inl ⟨by kernel_rfl, ?_⟩) (by assumption) ?_
            rotate_left
            · (intro w hSw; (try dsimp only at hSw); go_simp) <;> (try (with_reducible rfl))
            try simp only [Act.put, Array.getInternal_eq_getElem, List.getElem_toArray, List.getElem_cons_zero, List.getElem_cons_succ, List.setIfInBounds_toArray, List.set_cons_zero, List.set_cons_succ]
            refine wpAnyH_take (i := 2) (v := ?_) rfl (by kernel_rfl) (by kernel_rfl) (by kernel_rfl) (fun _ _ _ h => h) (Or.inl ⟨by kernel_rfl, ?_⟩) (by assumption) ?_
            rotate_left
            · (intro w hSw; have hcell := hSw.2.1; go_simp) <;> (try (with_reducible rfl))
            try simp only [Act.put, Array.getInternal_eq_getElem, List.getElem_toArray, List.getElem_cons_zero, List.getElem_cons_succ, List.setIfInBounds_toArray, List.set_cons_zero, List.set_cons_succ]
            refine wpAnyH_take (i := 3) (v := ?_) rfl (by kernel_rfl) (by kernel_rfl) (by kernel_rfl) (fun _ _ _ h => h) (Or.inl ⟨by kernel_rfl, ?_⟩) (by assumption) ?_
            rotate_left
            · (intro w hSw; (try dsimp only at hSw); go_simp) <;> (try (with_reducible rfl))
            try simp only [Act.put, Array.getInternal_eq_getElem, List.getElem_toArray, List.getElem_cons_zero, List.getElem_cons_succ, List.setIfInBounds_toArray, List.set_cons_zero, List.set_cons_succ]
            refine wpAnyH_take (i := 4) (v := ?_) rfl (by kernel_rfl) (by kernel_rfl) (by kernel_rfl) (fun _ _ _ h => h) (Or.inl ⟨by kernel_rfl, ?_⟩) (by assumption) ?_
            rotate_left
            · (intro w hSw; (try dsimp only at hSw); go_simp) <;> (try (with_reducible rfl))
            try simp only [Act.put, Array.getInternal_eq_getElem, List.getElem_toArray, List.getElem_cons_zero, List.getElem_cons_succ, List.setIfInBounds_toArray, List.set_cons_zero, List.set_cons_succ]
            refine wpAnyH_take (i := 5) (v := ?_) rfl (by kernel_rfl) (by kernel_rfl) (by kernel_rfl) (fun _ _ _ h => h) (Or.inl ⟨by kernel_rfl, ?_⟩) (by assumption) ?_
            rotate_left
            · (intro w hSw; (try dsimp only at hSw); go_simp) <;> (try (with_reducible rfl))
            try simp only [Act.put, Array.getInternal_eq_getElem, List.getElem_toArray, List.getElem_cons_zero, List.getElem_cons_succ, List.setIfInBounds_toArray, List.set_cons_zero, List.set_cons_succ]
            refine' wpAnyH_take (i := 6) (v := _) rfl (by kernel_rfl) (by kernel_rfl) (by kernel_rfl) (fun _ _ _ h => h) (yieldsIf_load_mid (by kernel_rfl) _ _ rfl _ _ rfl _ _ (fun w hSw => hSw.1) Try.underlying29 rfl HSZ.out) (by assumption) ?_
            try simp only [Act.put, Array.getInternal_eq_getElem, List.getElem_toArray, List.getElem_cons_zero, List.getElem_cons_succ, List.setIfInBounds_toArray, List.set_cons_zero, List.set_cons_succ]
            refine wpAnyH_take (i := 8) (v := ?_) rfl (by kernel_rfl) (by kernel_rfl) (by kernel_rfl) (fun _ _ _ h => h) (Or.inl ⟨by kernel_rfl, ?_⟩) (by assumption) ?_
            rotate_left
            · (intro w hSw; (try dsimp only at hSw); go_simp) <;> (try (with_reducible rfl))
            try simp only [Act.put, Array.getInternal_eq_getElem, List.getElem_toArray, List.getElem_cons_zero, List.getElem_cons_succ, List.setIfInBounds_toArray, List.set_cons_zero, List.set_cons_succ]
            refine wpAnyH_take (i := 9) (v := ?_) rfl (by kernel_rfl) (by kernel_rfl) (by kernel_rfl) (fun _ _ _ h => h) (Or.inl ⟨by kernel_rfl, ?_⟩) (by assumption) ?_
            rotate_left
            · (intro w hSw; have hcell := hSw.2.2; go_simp) <;> (try (with_reducible rfl))
            try simp only [Act.put, Array.getInternal_eq_getElem, List.getElem_toArray, List.getElem_cons_zero, List.getElem_cons_succ, List.setIfInBounds_toArray, List.set_cons_zero, List.set_cons_succ]
            refine wpAnyH_take (i := 12) (v := ?_) rfl (by kernel_rfl) (by kernel_rfl) (by kernel_rfl) (fun _ _ _ h => h) (Or.inl ⟨by kernel_rfl, ?_⟩) (by assumption) ?_
            rotate_left
            · (intro w hSw; (try dsimp only at hSw); go_simp) <;> (try (with_reducible rfl))
            try simp only [Act.put, Array.getInternal_eq_getElem, List.getElem_toArray, List.getElem_cons_zero, List.getElem_cons_succ, List.setIfInBounds_toArray, List.set_cons_zero, List.set_cons_succ]
            refine wpAnyH_ready (rs := [7]) (by kernel_rfl) (by simp) ?_
            refine AllReadyH.cons rfl (fun K hK => ?_) AllReadyH.nil
            (rw [if_pos (by kernel_rfl)]; go_simp; go_at_call 33; refine ((HFR _).out).mono ?_; rintro e ua ⟨rfl, ka⟩; have KA := Lib.hid (((Keeps.refl (fun _ => False) wr).drew).trans (ka _)); clear ka)
            refine hK.out _ _ (HCL.out _ KA.out) (fun hHeld => ?_)
            clear hK K
            try simp only [Act.put, Array.getInternal_eq_getElem, List.getElem_toArray, List.getElem_cons_zero, List.getElem_cons_succ, List.setIfInBounds_toArray, List.set_cons_zero, List.set_cons_succ]
            refine wpAnyH_ready (rs := [10]) (by kernel_rfl) (by simp) ?_
            refine AllReadyH.cons rfl (fun K hK => ?_) AllReadyH.nil
            (rw [if_pos (by kernel_rfl)]; go_simp; go_at_call 32; refine ((HM _).out).mono ?_; rintro e wx ⟨rfl, h9⟩; subst wx)
            refine hK.out _ _ (HCL.out _ KA.out) (fun hHeld => ?_)
            clear hK K
            try simp only [Act.put, Array.getInternal_eq_getElem, List.getElem_toArray, List.getElem_cons_zero, List.getElem_cons_succ, List.setIfInBounds_toArray, List.set_cons_zero, List.set_cons_succ]
            refine wpAnyH_take (i := 11) (v := ?_) rfl (by kernel_rfl) (by kernel_rfl) (by kernel_rfl) (fun _ _ _ h => h) (Or.inl ⟨by kernel_rfl, ?_⟩) (by assumption) ?_
            rotate_left
            · (intro w hSw; (try dsimp only at hSw); go_simp) <;> (try (with_reducible rfl))
            try simp only [Act.put, Array.getInternal_eq_getElem, List.getElem_toArray, List.getElem_cons_zero, List.getElem_cons_succ, List.setIfInBounds_toArray, List.set_cons_zero, List.set_cons_succ]
            refine wpAnyH_take (i := 13) (v := ?_) rfl (by kernel_rfl) (by kernel_rfl) (by kernel_rfl) (fun _ _ _ h => h) (Or.inl ⟨by kernel_rfl, ?_⟩) (by assumption) ?_
            rotate_left
            · (intro w hSw; (try dsimp only at hSw); go_simp) <;> (try (with_reducible rfl))
            try simp only [Act.put, Array.getInternal_eq_getElem, List.getElem_toArray, List.getElem_cons_zero, List.getElem_cons_succ, List.setIfInBounds_toArray, List.set_cons_zero, List.set_cons_succ]
            refine wpAnyH_take (i := 14) (v := ?_) rfl (by kernel_rfl) (by kernel_rfl) (by kernel_rfl) (fun _ _ _ h => h) (Or.inl ⟨by kernel_rfl, ?_⟩) (by assumption) ?_
            rotate_left
            · (intro w hSw; (try dsimp only at hSw); go_simp) <;> (try (with_reducible rfl))
            try simp only [Act.put, Array.getInternal_eq_getElem, List.getElem_toArray, List.getElem_cons_zero, List.getElem_cons_succ, List.setIfInBounds_toArray, List.set_cons_zero, List.set_cons_succ]
            refine wpAnyH_take (i := 15) (v := ?_) rfl (by kernel_rfl) (by kernel_rfl) (by kernel_rfl) (fun _ _ _ h => h) (Or.inl ⟨by kernel_rfl, ?_⟩) (by assumption) ?_
            rotate_left
            · (intro w hSw; (try dsimp only at hSw); go_simp) <;> (try (with_reducible rfl))
            try simp only [Act.put, Array.getInternal_eq_getElem, List.getElem_toArray, List.getElem_cons_zero, List.getElem_cons_succ, List.setIfInBounds_toArray, List.set_cons_zero, List.set_cons_succ]
            refine wpAnyH_done ?_ ?_ _
            · kernel_rfl
            obtain ⟨A5, c5, rfl, r5⟩ := hy.out.rd
            obtain ⟨m5, hm5⟩ : ∃ m5, (h.dat.take k).length = m5 := ⟨_, rfl⟩
            rw [hm5] at hy ⊢
            have ed : (fit h).dat = h.dat.take k := by
              show h.dat.take (2048 - (fsz h + mids h.pr)) = _
              rw [HLR.out.2.2.2, HLR.out.2.2.1]
              rw [HKE.out]
            have kwL : ∀ S, Keeps S w wL := keeps_own HK2.out PL.out (Nat.le_refl _)
            have sL : w.heap.size + 2 ≤ wL.heap.size := by have := PL.out.size; have := HZ.out.lt; omega
            have kx : ∀ S, Keeps S wL ua := fun S => (hy.out.keep S).trans (KA.out.mono (fun _ _ z => z.elim))
            have gx := Blk.keeps GL.out (kx (fun _ => False)) (fun z => z)
            have wfx := fitX_wf HWF.out
            have c42 : (ua).cell? ⟨w.heap.size, 42, none⟩ = some _ := h_cell gx wfx.s wfx.d 8 _ rfl
            have f42 : (ua).frozen? ⟨w.heap.size, 42, none⟩ = false := gx.frozen 42
            have g6 := st_dat gx wfx.s wfx.d (.slice A5 m5 c5) (fit h).dat
            have p6 := keeps_put (G := w.heap.size) (Keeps.refl _ (ua)) 42 (.slice A5 m5 c5)
            obtain ⟨w6, hw6⟩ : ∃ y, y = (ua).setCell ⟨w.heap.size, 42, none⟩ (.slice A5 m5 c5) := ⟨_, rfl⟩
            rw [← hw6] at g6 p6
            have GF : Hid (Blk w6 w.heap.size 29 (hcs (fit h) (.slice A5 m5 c5))) := Lib.hid g6
            have zz := Blk.keeps (Blk.keeps (Blk.keeps HZ.out PL.out (by omega)) (kx (fun _ => False)) (fun z => z)) p6 (by omega)
            obtain ⟨tz, bz, kz⟩ := p_store zz (cs := hcs (fit h) (.slice A5 m5 c5)) (by rw [hcs_len (fit_wf HWF.out)]; rfl)
            have yy : By w (w6.setCells (w.heap.size + 1) 0 (hcs (fit h) (.slice A5 m5 c5))) (.slice A5 m5 c5) (fit h).dat := by
              rw [ed]
              exact past_ (past_ (By.base (By.grown hy.out (fun S => (KA.out.mono (fun _ _ z => z.elim)))) kwL) p6 (Nat.le_refl _) (hy.out.apart (by omega))) kz (by omega) (hy.out.apart (by omega))
            have HTZ := Lib.hid tz
            have HBZ := Lib.hid bz
            have HYY := Lib.hid yy
            have HW6 := Lib.hid hw6
            have HSF := Lib.hid (hd_sz (fit_wf HWF.out) (.slice A5 m5 c5))
            have HSG := Lib.hid (all_oneCell_toArray (hcs_one (h := fit h) (v := .slice A5 m5 c5) rfl))
            clear hw6 g6 p6 zz tz bz kz yy gx kx kwL sL r5 wfx ed
            go_wp2_with (first
              | ((with_reducible show wpList _ _ _ (⟨some 74, _, _, _, _, _⟩ :: _) _ _); (try rw [← HW6.out]); refine wpList_load_mid rfl 29 _ rfl w.heap.size 0 rfl (hcs (fit h) (.slice A5 m5 c5)) _ (Blk.range GF.out) Try.underlying29 rfl HSF.out ?_)
              | ((with_reducible show wpList _ _ _ (⟨none, .store _ (.tmp 2) _, _, _, _, _⟩ :: _) _ _); refine' wpList_store_mid rfl 29 _ _ rfl (w.heap.size + 1) 0 (hcs (fit h) (.slice A5 m5 c5)).toArray ?hx rfl ?ht HSF.out HSG.out ?_; (case hx => rfl); (case ht => exact HTZ.out)))
            try rw [Exit.noGoto_ret]
            refine bodyPost_ret (results_cell_row (p := 2) (ty := 29) (by kernel_rfl) _ _ (w.heap.size + 1) _ _ _ _ (by rfl) HBZ.out Try.underlying29 rfl (by rw [List.size_toArray]; exact HSF.out)) rfl ?_
            exact ⟨_, rfl, HYY.out⟩

        · have dlt : ¬ (k : Int) < (n : Int) := by omega
          clear hs9
          go_wp2_with fail
          refine wp_region_held_drew (S := fun w' => w'.rangeAt w.heap.size 0 (hcs (fitX h) (.slice A n c)) ∧ w'.cell? ⟨w.heap.size, 42, none⟩ = some (.slice A n c) ∧ w'.cell? ⟨w.heap.size, 34, none⟩ = some (.int .u8 (h.pr : Int))) (by kernel_rfl) (HCL.out _ ((Keeps.refl _ wr).drew)) (fun hHeld => ?_)
          refine wpAnyH_take (i := 0) (v := ?_) rfl (by kernel_rfl) (by kernel_rfl) (by kernel_rfl) (fun _ _ _ h => h) (Or.inl ⟨by kernel_rfl, ?_⟩) (by assumption) ?_
          rotate_left
          · (intro w hSw; (try dsimp only at hSw); go_simp) <;> (try (with_reducible rfl))
          try simp only [Act.put, Array.getInternal_eq_getElem, List.getElem_toArray, List.getElem_cons_zero, List.getElem_cons_succ, List.setIfInBounds_toArray, List.set_cons_zero, List.set_cons_succ]
          refine wpAnyH_take (i := 1) (v := ?_) rfl (by kernel_rfl) (by kernel_rfl) (by kernel_rfl) (fun _ _ _ h => h) (Or.inl ⟨by kernel_rfl, ?_⟩) (by assumption) ?_
          rotate_left
          · (intro w hSw; (try dsimp only at hSw); go_simp) <;> (try (with_reducible rfl))
          try simp only [Act.put, Array.getInternal_eq_getElem, List.getElem_toArray, List.getElem_cons_zero, List.getElem_cons_succ, List.setIfInBounds_toArray, List.set_cons_zero, List.set_cons_succ]
          refine wpAnyH_take (i := 2) (v := ?_) rfl (by kernel_rfl) (by kernel_rfl) (by kernel_rfl) (fun _ _ _ h => h) (Or.inl ⟨by kernel_rfl, ?_⟩) (by assumption) ?_
          rotate_left
          · (intro w hSw; have hcell := hSw.2.1; go_simp) <;> (try (with_reducible rfl))
          try simp only [Act.put, Array.getInternal_eq_getElem, List.getElem_toArray, List.getElem_cons_zero, List.getElem_cons_succ, List.setIfInBounds_toArray, List.set_cons_zero, List.set_cons_succ]
          refine wpAnyH_take (i := 3) (v := ?_) rfl (by kernel_rfl) (by kernel_rfl) (by kernel_rfl) (fun _ _ _ h => h) (Or.inl ⟨by kernel_rfl, ?_⟩) (by assumption) ?_
          rotate_left
          · (intro w hSw; (try dsimp only at hSw); go_simp) <;> (try (with_reducible rfl))
          try simp only [Act.put, Array.getInternal_eq_getElem, List.getElem_toArray, List.getElem_cons_zero, List.getElem_cons_succ, List.setIfInBounds_toArray, List.set_cons_zero, List.set_cons_succ]
          refine wpAnyH_take (i := 4) (v := ?_) rfl (by kernel_rfl) (by kernel_rfl) (by kernel_rfl) (fun _ _ _ h => h) (Or.inl ⟨by kernel_rfl, ?_⟩) (by assumption) ?_
          rotate_left
          · (intro w hSw; (try dsimp only at hSw); go_simp) <;> (try (with_reducible rfl))
          try simp only [Act.put, Array.getInternal_eq_getElem, List.getElem_toArray, List.getElem_cons_zero, List.getElem_cons_succ, List.setIfInBounds_toArray, List.set_cons_zero, List.set_cons_succ]
          refine wpAnyH_take (i := 5) (v := ?_) rfl (by kernel_rfl) (by kernel_rfl) (by kernel_rfl) (fun _ _ _ h => h) (Or.inl ⟨by kernel_rfl, ?_⟩) (by assumption) ?_
          rotate_left
          · (intro w hSw; (try dsimp only at hSw); go_simp) <;> (try (with_reducible rfl))
          try simp only [Act.put, Array.getInternal_eq_getElem, List.getElem_toArray, List.getElem_cons_zero, List.getElem_cons_succ, List.setIfInBounds_toArray, List.set_cons_zero, List.set_cons_succ]
          refine wpAnyH_take (i := 6) (v := undef) rfl (by kernel_rfl) (by kernel_rfl) (by kernel_rfl) (fun _ _ _ h => h) (Or.inr ⟨by kernel_rfl, rfl⟩) (by assumption) ?_
          try simp only [Act.put, Array.getInternal_eq_getElem, List.getElem_toArray, List.getElem_cons_zero, List.getElem_cons_succ, List.setIfInBounds_toArray, List.set_cons_zero, List.set_cons_succ]
          refine wpAnyH_take (i := 7) (v := undef) rfl (by kernel_rfl) (by kernel_rfl) (by kernel_rfl) (fun _ _ _ h => h) (Or.inr ⟨by kernel_rfl, rfl⟩) (by assumption) ?_
          try simp only [Act.put, Array.getInternal_eq_getElem, List.getElem_toArray, List.getElem_cons_zero, List.getElem_cons_succ, List.setIfInBounds_toArray, List.set_cons_zero, List.set_cons_succ]
          refine wpAnyH_take (i := 8) (v := undef) rfl (by kernel_rfl) (by kernel_rfl) (by kernel_rfl) (fun _ _ _ h => h) (Or.inr ⟨by kernel_rfl, rfl⟩) (by assumption) ?_
          try simp only [Act.put, Array.getInternal_eq_getElem, List.getElem_toArray, List.getElem_cons_zero, List.getElem_cons_succ, List.setIfInBounds_toArray, List.set_cons_zero, List.set_cons_succ]
          refine wpAnyH_take (i := 9) (v := undef) rfl (by kernel_rfl) (by kernel_rfl) (by kernel_rfl) (fun _ _ _ h => h) (Or.inr ⟨by kernel_rfl, rfl⟩) (by assumption) ?_
          try simp only [Act.put, Array.getInternal_eq_getElem, List.getElem_toArray, List.getElem_cons_zero, List.getElem_cons_succ, List.setIfInBounds_toArray, List.set_cons_zero, List.set_cons_succ]
          refine wpAnyH_take (i := 10) (v := undef) rfl (by kernel_rfl) (by kernel_rfl) (by kernel_rfl) (fun _ _ _ h => h) (Or.inr ⟨by kernel_rfl, rfl⟩) (by assumption) ?_
          try simp only [Act.put, Array.getInternal_eq_getElem, List.getElem_toArray, List.getElem_cons_zero, List.getElem_cons_succ, List.setIfInBounds_toArray, List.set_cons_zero, List.set_cons_succ]
          refine wpAnyH_take (i := 11) (v := undef) rfl (by kernel_rfl) (by kernel_rfl) (by kernel_rfl) (fun _ _ _ h => h) (Or.inr ⟨by kernel_rfl, rfl⟩) (by assumption) ?_
          try simp only [Act.put, Array.getInternal_eq_getElem, List.getElem_toArray, List.getElem_cons_zero, List.getElem_cons_succ, List.setIfInBounds_toArray, List.set_cons_zero, List.set_cons_succ]
          refine wpAnyH_take (i := 12) (v := undef) rfl (by kernel_rfl) (by kernel_rfl) (by kernel_rfl) (fun _ _ _ h => h) (Or.inr ⟨by kernel_rfl, rfl⟩) (by assumption) ?_
          try simp only [Act.put, Array.getInternal_eq_getElem, List.getElem_toArray, List.getElem_cons_zero, List.getElem_cons_succ, List.setIfInBounds_toArray, List.set_cons_zero, List.set_cons_succ]
          refine wpAnyH_take (i := 13) (v := undef) rfl (by kernel_rfl) (by kernel_rfl) (by kernel_rfl) (fun _ _ _ h => h) (Or.inr ⟨by kernel_rfl, rfl⟩) (by assumption) ?_
          try simp only [Act.put, Array.getInternal_eq_getElem, List.getElem_toArray, List.getElem_cons_zero, List.getElem_cons_succ, List.setIfInBounds_toArray, List.set_cons_zero, List.set_cons_succ]
          refine wpAnyH_take (i := 14) (v := undef) rfl (by kernel_rfl) (by kernel_rfl) (by kernel_rfl) (fun _ _ _ h => h) (Or.inr ⟨by kernel_rfl, rfl⟩) (by assumption) ?_
          try simp only [Act.put, Array.getInternal_eq_getElem, List.getElem_toArray, List.getElem_cons_zero, List.getElem_cons_succ, List.setIfInBounds_toArray, List.set_cons_zero, List.set_cons_succ]
          refine wpAnyH_take (i := 15) (v := ?_) rfl (by kernel_rfl) (by kernel_rfl) (by kernel_rfl) (fun _ _ _ h => h) (Or.inl ⟨by kernel_rfl, ?_⟩) (by assumption) ?_
          rotate_left
          · (intro w hSw; (try dsimp only at hSw); go_simp) <;> (try (with_reducible rfl))
          try simp only [Act.put, Array.getInternal_eq_getElem, List.getElem_toArray, List.getElem_cons_zero, List.getElem_cons_succ, List.setIfInBounds_toArray, List.set_cons_zero, List.set_cons_succ]
          refine wpAnyH_done ?_ ?_ _
          · kernel_rfl
          obtain ⟨wq, hwq⟩ : ∃ y, y = wr.drew := ⟨_, rfl⟩
          rw [← hwq]
          have KQ : Hid (∀ S, Keeps S wr wq) := Lib.hid (fun S => by rw [hwq]; exact (Keeps.refl S wr).drew)
          clear hwq
          obtain ⟨A5, c5, rfl, r5⟩ := hy.out.rd
          obtain ⟨m5, hm5⟩ : ∃ m5, (h.dat.take k).length = m5 := ⟨_, rfl⟩
          rw [hm5] at hy ⊢
          have ed : (fit h).dat = h.dat.take k := by
            show h.dat.take (2048 - (fsz h + mids h.pr)) = _
            rw [HLR.out.2.2.2, HLR.out.2.2.1]
            rw [List.take_of_length_le (by have := HLR.out.1; omega), List.take_of_length_le (by have := HLR.out.1; omega)]
          have kwL : ∀ S, Keeps S w wL := keeps_own HK2.out PL.out (Nat.le_refl _)
          have sL : w.heap.size + 2 ≤ wL.heap.size := by have := PL.out.size; have := HZ.out.lt; omega
          have kx : ∀ S, Keeps S wL wq := fun S => (hy.out.keep S).trans (KQ.out S)
          have gx := Blk.keeps GL.out (kx (fun _ => False)) (fun z => z)
          have wfx := fitX_wf HWF.out
          have c42 : (wq).cell? ⟨w.heap.size, 42, none⟩ = some _ := h_cell gx wfx.s wfx.d 8 _ rfl
          have f42 : (wq).frozen? ⟨w.heap.size, 42, none⟩ = false := gx.frozen 42
          have g6 := st_dat gx wfx.s wfx.d (.slice A5 m5 c5) (fit h).dat
          have p6 := keeps_put (G := w.heap.size) (Keeps.refl _ (wq)) 42 (.slice A5 m5 c5)
          obtain ⟨w6, hw6⟩ : ∃ y, y = (wq).setCell ⟨w.heap.size, 42, none⟩ (.slice A5 m5 c5) := ⟨_, rfl⟩
          rw [← hw6] at g6 p6
          have GF : Hid (Blk w6 w.heap.size 29 (hcs (fit h) (.slice A5 m5 c5))) := Lib.hid g6
          have zz := Blk.keeps (Blk.keeps (Blk.keeps HZ.out PL.out (by omega)) (kx (fun _ => False)) (fun z => z)) p6 (by omega)
          obtain ⟨tz, bz, kz⟩ := p_store zz (cs := hcs (fit h) (.slice A5 m5 c5)) (by rw [hcs_len (fit_wf HWF.out)]; rfl)
          have yy : By w (w6.setCells (w.heap.size + 1) 0 (hcs (fit h) (.slice A5 m5 c5))) (.slice A5 m5 c5) (fit h).dat := by
            rw [ed]
            exact past_ (past_ (By.base (By.grown hy.out (fun S => (KQ.out S))) kwL) p6 (Nat.le_refl _) (hy.out.apart (by omega))) kz (by omega) (hy.out.apart (by omega))
          have HTZ := Lib.hid tz
          have HBZ := Lib.hid bz
          have HYY := Lib.hid yy
          have HW6 := Lib.hid hw6
          have HSF := Lib.hid (hd_sz (fit_wf HWF.out) (.slice A5 m5 c5))
          have HSG := Lib.hid (all_oneCell_toArray (hcs_one (h := fit h) (v := .slice A5 m5 c5) rfl))
          clear hw6 g6 p6 zz tz bz kz yy gx kx kwL sL r5 wfx ed
          go_wp2_with (first
            | ((with_reducible show wpList _ _ _ (⟨some 74, _, _, _, _, _⟩ :: _) _ _); (try rw [← HW6.out]); refine wpList_load_mid rfl 29 _ rfl w.heap.size 0 rfl (hcs (fit h) (.slice A5 m5 c5)) _ (Blk.range GF.out) Try.underlying29 rfl HSF.out ?_)
            | ((with_reducible show wpList _ _ _ (⟨none, .store _ (.tmp 2) _, _, _, _, _⟩ :: _) _ _); refine' wpList_store_mid rfl 29 _ _ rfl (w.heap.size + 1) 0 (hcs (fit h) (.slice A5 m5 c5)).toArray ?hx rfl ?ht HSF.out HSG.out ?_; (case hx => rfl); (case ht => exact HTZ.out)))
          try rw [Exit.noGoto_ret]
          refine bodyPost_ret (results_cell_row (p := 2) (ty := 29) (by kernel_rfl) _ _ (w.heap.size + 1) _ _ _ _ (by rfl) HBZ.out Try.underlying29 rfl (by rw [List.size_toArray]; exact HSF.out)) rfl ?_
          exact ⟨_, rfl, HYY.out⟩

set_option maxRecDepth 100000 in
set_option maxHeartbeats 4000000 in
theorem rfit_f17 (h : Hd) (A : Option Addr) (n c : Nat) (hw : h.Wf) (hl : h.dat.length = n) (hn : n ≤ 140737488355328) (hr : Rd w w.heap.size A (by_ h.dat)) (hv : h.src.v6 = false) (hp : h.pr = 17) :
    Calls Try.prog 22 #[hvv h (.slice A n c)] w fun e w' => ∃ v, e = .returned (hvv (fit h) v) ∧ By w w' v (fit h).dat := by
  obtain ⟨w2, hw2, k2, bG, bZ, s2⟩ := box2 w (hcs h (.slice A n c)) zhd 29 29
  dsimp only [zhd] at hw2
  have hms : mids h.pr = 8 := by rw [hp]; rfl
  have hfs : fsz h = 20 := by unfold fsz; rw [hv]; rfl
  have HM : ∀ u, Hid (Calls Try.prog 32 #[.int .u8 (h.pr : Int)] u fun e w' => e = .returned (.int .i64 8) ∧ w' = u) := fun u => Lib.hid (by have := rmids_ u h.pr; rw [hms] at this; exact this)
  have h1 := hw.s
  have h2 := hw.d
  have c00 := (HF.of_blk hw bG).v6s
  rw [hv] at c00
  have c17 := c_dv6 bG h1
  have f17 := bG.frozen 17
  have g0 := st_dv6 bG h1 false
  have p0 := keeps_put (G := w.heap.size) (Keeps.refl _ w2) 17 (.bool false)
  have c01 : (w2.setCell ⟨w.heap.size, 17, none⟩ (.bool false)).cell? ⟨w.heap.size, 0, none⟩ = some (.bool false) := by rw [g0.cell, ← hv]; rfl
  have HW2 := Lib.hid hw2
  have HWF := Lib.hid hw
  have HLR := Lib.hid (And.intro hl (And.intro hv (And.intro hms hfs)))
  have HR := Lib.hid hr
  have HP := Lib.hid hp
  have HK2 := Lib.hid k2
  have HG0 := Lib.hid g0
  have HP0 := Lib.hid p0
  have HZ := Lib.hid bZ
  unfold hvv
  clear hw2 k2 bG bZ s2 hw hl hr g0 p0 h1 h2 hms hfs hv hp
  generalize hC : hcs h (.slice A n c) = C at *
  have HCC := Lib.hid hC
  clear hC
  go_enter Try.func22, Try.ntmps22
  go_wp2_with ((with_reducible show wpList _ _ _ (⟨some 6, _, _, _, _, _⟩ :: _) _ _); (try rw [← HW2.out]); refine rest_of ?_)
  unfold Rest_
  obtain ⟨y0, hy0⟩ : ∃ y, y = w2.setCell ⟨w.heap.size, 17, none⟩ (.bool false) := ⟨_, rfl⟩
  have G0 : Hid (Blk y0 w.heap.size 29 _) := Lib.hid (by rw [hy0]; exact HG0.out)
  have P0 : Hid (Keeps (· = w.heap.size) w2 y0) := Lib.hid (by rw [hy0]; exact HP0.out)
  have HY0 := Lib.hid hy0
  clear hy0
  go_wp2_with fail
  rw [← HY0.out]
  clear c00 c17 f17 c01
  --@L1
  go_loopw [3] (fun i wr => ∃ k : Nat, 4 ≤ k ∧ k ≤ 16 ∧ i = .int .i64 k ∧ Hid (Blk wr w.heap.size 29 (hcs (zh k h) (.slice A n c))) ∧ Hid (Keeps (· = w.heap.size) w2 wr)) (fun i _ => 16 - (intOf i).toNat)
  case atStart =>
    refine ⟨4, by omega, by omega, rfl, Lib.hid ?_, P0⟩
    have e : zh 4 h = ⟨h.src, ⟨false, h.dst.B⟩, h.pr, h.sp, h.dp, h.ttl, h.cls, h.id, h.fl, h.seq, h.dat⟩ := Hd.eq_of (by show (⟨false, zrB 4 h.src.B⟩ : Ad) = h.src; rw [zrB_4, ← HLR.out.2.1]) (by show (⟨false, zrB 4 h.dst.B⟩ : Ad) = _; rw [zrB_4]) rfl rfl rfl rfl rfl rfl rfl rfl rfl
    rw [e]; exact G0.out
  case round =>
    obtain ⟨k, hk4, hk16, rfl, hb, hk⟩ := hrel
    by_cases hlt : k < 16
    · have z1 := zh_s HWF.out hk4 hk16
      have z2 := zh_d HWF.out hk4 hk16
      obtain ⟨u1, cx1⟩ := c_at hb.out (hcs_len2 z1 z2 _) (k := 1 + k) (by omega)
      have fx1 := hb.out.frozen (1 + k)
      have b1 := st_sB hb.out z1 hlt
      have p1 := keeps_put (G := w.heap.size) hk.out (1 + k) (.int .u8 0)
      obtain ⟨u2, cx2⟩ := c_at b1 (hcs_len2 (h := ⟨⟨(zh k h).src.v6, (zh k h).src.B.set k 0⟩, (zh k h).dst, (zh k h).pr, (zh k h).sp, (zh k h).dp, (zh k h).ttl, (zh k h).cls, (zh k h).id, (zh k h).fl, (zh k h).seq, (zh k h).dat⟩) (set_wf z1 k) z2 _) (k := 18 + k) (by omega)
      have fx2 := b1.frozen (18 + k)
      have b2 := st_dB b1 (set_wf z1 k) z2 hlt
      have p2 := keeps_put (G := w.heap.size) p1 (18 + k) (.int .u8 0)
      have b3 : Hid (Blk ((wr.setCell ⟨w.heap.size, 1 + k, none⟩ (.int .u8 0)).setCell ⟨w.heap.size, 18 + k, none⟩ (.int .u8 0)) w.heap.size 29 (hcs (zh (k + 1) h) (.slice A n c))) := Lib.hid (by
        have e : zh (k + 1) h = ⟨⟨false, (zrB k h.src.B).set k 0⟩, ⟨false, (zrB k h.dst.B).set k 0⟩, h.pr, h.sp, h.dp, h.ttl, h.cls, h.id, h.fl, h.seq, h.dat⟩ := by unfold zh; rw [zrB_step HWF.out.s.len hk4 hlt, zrB_step HWF.out.d.len hk4 hlt]
        rw [e]; exact b2)
      have p3 := Lib.hid p2
      clear b1 p1 b2 p2 z1 z2
      go_wp2
      --@LR
      go_roundw
      case rel => exact ⟨k + 1, by omega, by omega, by go_num, b3, p3⟩
      case measure => simp [intOf]; omega
    · obtain rfl : k = 16 := by omega
      have z1 := zh_s HWF.out hk4 hk16
      have z2 := zh_d HWF.out hk4 hk16
      have ci0 : (wr).cell? ⟨w.heap.size, 39, none⟩ = some (.int .u32 (h.id : Int)) := h_cell (hb.out) z1 z2 5 _ rfl
      obtain ⟨i1, hi1⟩ : ∃ i1, i1 = h.id % 65536 := ⟨_, rfl⟩
      have zi1 : (h.id : Int) % 65536 = (i1 : Int) := (by omega)
      have zi2 : Int.tmod (h.id : Int) 65536 = (i1 : Int) := (by rw [Int.tmod_eq_emod_of_nonneg (Int.natCast_nonneg _)]; omega)
      have cx1 : (wr).cell? ⟨w.heap.size, 39, none⟩ = some _ := h_cell (hb.out) z1 z2 5 _ rfl
      have fx1 : (wr).frozen? ⟨w.heap.size, 39, none⟩ = false := (hb.out).frozen 39
      have gg1 := st_id (hb.out) z1 z2 i1
      have pq1 := keeps_put (G := w.heap.size) (hk.out) 39 (.int .u32 (i1 : Int))
      have ci1 : ((wr).setCell ⟨w.heap.size, 39, none⟩ (.int .u32 (i1 : Int))).cell? ⟨w.heap.size, 39, none⟩ = some (.int .u32 (i1 : Int)) := h_cell (gg1) z1 z2 5 _ rfl
      have zi3 : (i1 : Int) % 1048576 = (i1 : Int) := (by omega)
      have zi4 : Int.tmod (i1 : Int) 1048576 = (i1 : Int) := (by rw [Int.tmod_eq_emod_of_nonneg (Int.natCast_nonneg _)]; omega)
      have cx2 : ((wr).setCell ⟨w.heap.size, 39, none⟩ (.int .u32 (i1 : Int))).cell? ⟨w.heap.size, 39, none⟩ = some _ := h_cell (gg1) z1 z2 5 _ rfl
      have fx2 : ((wr).setCell ⟨w.heap.size, 39, none⟩ (.int .u32 (i1 : Int))).frozen? ⟨w.heap.size, 39, none⟩ = false := (gg1).frozen 39
      have gg2 := st_id (gg1) z1 z2 i1
      have pq2 := keeps_put (G := w.heap.size) (pq1) 39 (.int .u32 (i1 : Int))
      have cp0 : (((wr).setCell ⟨w.heap.size, 39, none⟩ (.int .u32 (i1 : Int))).setCell ⟨w.heap.size, 39, none⟩ (.int .u32 (i1 : Int))).cell? ⟨w.heap.size, 34, none⟩ = some (.int .u8 (h.pr : Int)) := h_cell (gg2) z1 z2 0 _ rfl
      have d6 : ((h.pr : Int) != 6) = true := bne_iff_ne.2 (by have := HP.out; omega)
      have cx3 : (((wr).setCell ⟨w.heap.size, 39, none⟩ (.int .u32 (i1 : Int))).setCell ⟨w.heap.size, 39, none⟩ (.int .u32 (i1 : Int))).cell? ⟨w.heap.size, 40, none⟩ = some _ := h_cell (gg2) z1 z2 6 _ rfl
      have fx3 : (((wr).setCell ⟨w.heap.size, 39, none⟩ (.int .u32 (i1 : Int))).setCell ⟨w.heap.size, 39, none⟩ (.int .u32 (i1 : Int))).frozen? ⟨w.heap.size, 40, none⟩ = false := (gg2).frozen 40
      have gg3 := st_fl (gg2) z1 z2 0
      have pq3 := keeps_put (G := w.heap.size) (pq2) 40 (.int .u8 0)
      have cx4 : ((((wr).setCell ⟨w.heap.size, 39, none⟩ (.int .u32 (i1 : Int))).setCell ⟨w.heap.size, 39, none⟩ (.int .u32 (i1 : Int))).setCell ⟨w.heap.size, 40, none⟩ (.int .u8 0)).cell? ⟨w.heap.size, 41, none⟩ = some _ := h_cell (gg3) z1 z2 7 _ rfl
      have fx4 : ((((wr).setCell ⟨w.heap.size, 39, none⟩ (.int .u32 (i1 : Int))).setCell ⟨w.heap.size, 39, none⟩ (.int .u32 (i1 : Int))).setCell ⟨w.heap.size, 40, none⟩ (.int .u8 0)).frozen? ⟨w.heap.size, 41, none⟩ = false := (gg3).frozen 41
      have gg4 := st_seq (gg3) z1 z2 0
      have pq4 := keeps_put (G := w.heap.size) (pq3) 41 (.int .u32 0)
      have cp1 : (((((wr).setCell ⟨w.heap.size, 39, none⟩ (.int .u32 (i1 : Int))).setCell ⟨w.heap.size, 39, none⟩ (.int .u32 (i1 : Int))).setCell ⟨w.heap.size, 40, none⟩ (.int .u8 0)).setCell ⟨w.heap.size, 41, none⟩ (.int .u32 0)).cell? ⟨w.heap.size, 34, none⟩ = some (.int .u8 (h.pr : Int)) := h_cell (gg4) z1 z2 0 _ rfl
      obtain ⟨wL, hwL⟩ : ∃ y, y = ((((wr).setCell ⟨w.heap.size, 39, none⟩ (.int .u32 (i1 : Int))).setCell ⟨w.heap.size, 39, none⟩ (.int .u32 (i1 : Int))).setCell ⟨w.heap.size, 40, none⟩ (.int .u8 0)).setCell ⟨w.heap.size, 41, none⟩ (.int .u32 0) := ⟨_, rfl⟩
      have GL : Hid (Blk wL w.heap.size 29 (hcs (fitX h) (.slice A n c))) := Lib.hid (by rw [hwL]; have e := gg4; rw [fitX_f17 HWF.out HLR.out.2.1 HP.out, ← hi1]; exact e)
      have PL : Hid (Keeps (· = w.heap.size) w2 wL) := Lib.hid (by rw [hwL]; exact pq4)
      have HWL := Lib.hid hwL
      clear hwL hi1 gg1 pq1 gg2 pq2 gg3 pq3 gg4 pq4
      go_wp2_with (first | ((with_reducible show Calls _ 32 _ _ _); refine (HM _).out.mono ?_; rintro e wx ⟨rfl, h9⟩; subst wx))
      try rw [← HWL.out]
      clear cx1 fx1 cx2 fx2 cx3 fx3 cx4 fx4 ci0 zi1 zi2 cp0 d6 ci1 zi3 zi4 cp1 z1 z2
      have HSZ := Lib.hid (hd_sz (fitX_wf HWF.out) (.slice A n c))
      have HFR : ∀ u, Hid (Calls Try.prog 33 #[.agg (hcs (fitX h) (.slice A n c)).toArray] u fun e w' => e = .returned (.int .i64 20) ∧ ∀ S, Keeps S u w') := fun u => Lib.hid (by
        have := rfsz_ u (fitX h) (.slice A n c) (fitX_wf HWF.out)
        rw [show fsz (fitX h) = 20 from by show (if (fitA _ _).v6 = true then 40 else 20) = _; rw [fit_v6, HLR.out.2.1]; rfl] at this
        exact this)
      have ew : IntKind.i64.wrap 28 = 28 := by decide
      --@L2
      go_loopw [4, 5] (fun v i wr => ∃ k : Nat, k ≤ n ∧ k ≤ 2020 ∧ i = .int .i64 k ∧ Hid (By wL wr v (h.dat.take k))) (fun _ i _ => 2021 - (intOf i).toNat)
      case atStart => exact ⟨0, by omega, by omega, rfl, Lib.hid (by rw [List.take_zero]; exact By.nil_ (fun S => Keeps.refl S wL))⟩
      case round =>
        obtain ⟨k, hkn, hkL, rfl, hy⟩ := hrel
        have HCL : Hid (∀ wq, Keeps (fun _ => False) wr wq → wq.rangeAt w.heap.size 0 (hcs (fitX h) (.slice A n c)) ∧ wq.cell? ⟨w.heap.size, 42, none⟩ = some (.slice A n c) ∧ wq.cell? ⟨w.heap.size, 34, none⟩ = some (.int .u8 (h.pr : Int))) := Lib.hid (fun wq kq => by
          have b := Blk.keeps GL.out ((hy.out.keep _).trans kq) (fun z => z)
          exact ⟨Blk.range b, (HF.of_blk (fitX_wf HWF.out) b).dat, (HF.of_blk (fitX_wf HWF.out) b).pr⟩)
        obtain ⟨s9, hs9⟩ : ∃ s9 : Nat, s9 = 28 + k := ⟨_, rfl⟩
        have e9 : IntKind.i64.wrap ((28 : Int) + (k : Int)) = (s9 : Int) := by rw [wi64 (by omega) (by omega)]; omega
        by_cases hlt : k < n
        · have dlt : (k : Int) < (n : Int) := by omega
          by_cases hl2 : k < 2020
          · have d9 : (s9 : Int) < 2048 := by omega
            obtain ⟨b, o, hA, _, _⟩ := HR.out.byte (getq (bs := h.dat) (k := k) (by have := HLR.out.1; omega))
            subst hA
            clear hs9
            go_wp2_with fail
            --@R
            refine wp_region_held_drew (S := fun w' => w'.rangeAt w.heap.size 0 (hcs (fitX h) (.slice (some ⟨b, o, none⟩) n c)) ∧ w'.cell? ⟨w.heap.size, 42, none⟩ = some (.slice (some ⟨b, o, none⟩) n c) ∧ w'.cell? ⟨w.heap.size, 34, none⟩ = some (.int .u8 (h.pr : Int))) (by kernel_rfl) (HCL.out _ ((Keeps.refl _ wr).drew)) (fun hHeld => ?_)
            refine wpAnyH_take (i := 0) (v := ?_) rfl (by kernel_rfl) (by kernel_rfl) (by kernel_rfl) (fun _ _ _ h => h) (Or.inl ⟨by kernel_rfl, ?_⟩) (by assumption) ?_
            rotate_left
            · (intro w hSw; (try dsimp only at hSw); go_simp) <;> (try (with_reducible rfl))
            try simp only [Act.put, Array.getInternal_eq_getElem, List.getElem_toArray, List.getElem_cons_zero, List.getElem_cons_succ, List.setIfInBounds_toArray, List.set_cons_zero, List.set_cons_succ]
            refine wpAnyH_take (i := 1) (v := ?_) rfl (by kernel_rfl) (by kernel_rfl) (by kernel_rfl) (fun _ _ _ h => h) (Or.inl ⟨by kernel_rfl, ?_⟩) (by assumption) ?_
            rotate_left
            · (intro w hSw; (try dsimp only at hSw); go_simp) <;> (try (with_reducible rfl))
            try simp only [Act.put, Array.getInternal_eq_getElem, List.getElem_toArray, List.getElem_cons_zero, List.getElem_cons_succ, List.setIfInBounds_toArray, List.set_cons_zero, List.set_cons_succ]
            refine wpAnyH_take (i := 2) (v := ?_) rfl (by kernel_rfl) (by kernel_rfl) (by kernel_rfl) (fun _ _ _ h => h) (Or.inl ⟨by kernel_rfl, ?_⟩) (by assumption) ?_
            rotate_left
            · (intro w hSw; have hcell := hSw.2.1; go_simp) <;> (try (with_reducible rfl))
            try simp only [Act.put, Array.getInternal_eq_getElem, List.getElem_toArray, List.getElem_cons_zero, List.getElem_cons_succ, List.setIfInBounds_toArray, List.set_cons_zero, List.set_cons_succ]
            refine wpAnyH_take (i := 3) (v := ?_) rfl (by kernel_rfl) (by kernel_rfl) (by kernel_rfl) (fun _ _ _ h => h) (Or.inl ⟨by kernel_rfl, ?_⟩) (by assumption) ?_
            rotate_left
            · (intro w hSw; (try dsimp only at hSw); go_simp) <;> (try (with_reducible rfl))
            try simp only [Act.put, Array.getInternal_eq_getElem, List.getElem_toArray, List.getElem_cons_zero, List.getElem_cons_succ, List.setIfInBounds_toArray, List.set_cons_zero, List.set_cons_succ]
            refine wpAnyH_take (i := 4) (v := ?_) rfl (by kernel_rfl) (by kernel_rfl) (by kernel_rfl) (fun _ _ _ h => h) (Or.inl ⟨by kernel_rfl, ?_⟩) (by assumption) ?_
            rotate_left
            · (intro w hSw; (try dsimp only at hSw); go_simp) <;> (try (with_reducible rfl))
            try simp only [Act.put, Array.getInternal_eq_getElem, List.getElem_toArray, List.getElem_cons_zero, List.getElem_cons_succ, List.setIfInBounds_toArray, List.set_cons_zero, List.set_cons_succ]
            refine wpAnyH_take (i := 5) (v := ?_) rfl (by kernel_rfl) (by kernel_rfl) (by kernel_rfl) (fun _ _ _ h => h) (Or.inl ⟨by kernel_rfl, ?_⟩) (by assumption) ?_
            rotate_left
            · (intro w hSw; (try dsimp only at hSw); go_simp) <;> (try (with_reducible rfl))
            try simp only [Act.put, Array.getInternal_eq_getElem, List.getElem_toArray, List.getElem_cons_zero, List.getElem_cons_succ, List.setIfInBounds_toArray, List.set_cons_zero, List.set_cons_succ]
            refine' wpAnyH_take (i := 6) (v := _) rfl (by kernel_rfl) (by kernel_rfl) (by kernel_rfl) (fun _ _ _ h => h) (yieldsIf_load_mid (by kernel_rfl) _ _ rfl _ _ rfl _ _ (fun w hSw => hSw.1) Try.underlying29 rfl HSZ.out) (by assumption) ?_
            try simp only [Act.put, Array.getInternal_eq_getElem, List.getElem_toArray, List.getElem_cons_zero, List.getElem_cons_succ, List.setIfInBounds_toArray, List.set_cons_zero, List.set_cons_succ]
            refine wpAnyH_take (i := 8) (v := ?_) rfl (by kernel_rfl) (by kernel_rfl) (by kernel_rfl) (fun _ _ _ h => h) (Or.inl ⟨by kernel_rfl, ?_⟩) (by assumption) ?_
            rotate_left
            · (intro w hSw; (try dsimp only at hSw); go_simp) <;> (try (with_reducible rfl))
            try simp only [Act.put, Array.getInternal_eq_getElem, List.getElem_toArray, List.getElem_cons_zero, List.getElem_cons_succ, List.setIfInBounds_toArray, List.set_cons_zero, List.set_cons_succ]
            refine wpAnyH_take (i := 9) (v := ?_) rfl (by kernel_rfl) (by kernel_rfl) (by kernel_rfl) (fun _ _ _ h => h) (Or.inl ⟨by kernel_rfl, ?_⟩) (by assumption) ?_
            rotate_left
            · (intro w hSw; have hcell := hSw.2.2; go_simp) <;> (try (with_reducible rfl))
            try simp only [Act.put, Array.getInternal_eq_getElem, List.getElem_toArray, List.getElem_cons_zero, List.getElem_cons_succ, List.setIfInBounds_toArray, List.set_cons_zero, List.set_cons_succ]
            refine wpAnyH_take (i := 12) (v := ?_) rfl (by kernel_rfl) (by kernel_rfl) (by kernel_rfl) (fun _ _ _ h => h) (Or.inl ⟨by kernel_rfl, ?_⟩) (by assumption) ?_
            rotate_left
            · (intro w hSw; (try dsimp only at hSw); go_simp) <;> (try (with_reducible rfl))
            try simp only [Act.put, Array.getInternal_eq_getElem, List.getElem_toArray, List.getElem_cons_zero, List.getElem_cons_succ, List.setIfInBounds_toArray, List.set_cons_zero, List.set_cons_succ]
            refine wpAnyH_ready (rs := [7]) (by kernel_rfl) (by simp) ?_
            refine AllReadyH.cons rfl (fun K hK => ?_) AllReadyH.nil
            (rw [if_pos (by kernel_rfl)]; go_simp; go_at_call 33; refine ((HFR _).out).mono ?_; rintro e ua ⟨rfl, ka⟩; have KA := Lib.hid (((Keeps.refl (fun _ => False) wr).drew).trans (ka _)); clear ka)
            refine hK.out _ _ (HCL.out _ KA.out) (fun hHeld => ?_)
            clear hK K
            try simp only [Act.put, Array.getInternal_eq_getElem, List.getElem_toArray, List.getElem_cons_zero, List.getElem_cons_succ, List.setIfInBounds_toArray, List.set_cons_zero, List.set_cons_succ]
            refine wpAnyH_ready (rs := [10]) (by kernel_rfl) (by simp) ?_
            refine AllReadyH.cons rfl (fun K hK => ?_) AllReadyH.nil
            (rw [if_pos (by kernel_rfl)]; go_simp; go_at_call 32; refine ((HM _).out).mono ?_; rintro e wx ⟨rfl, h9⟩; subst wx)
            refine hK.out _ _ (HCL.out _ KA.out) (fun hHeld => ?_)
            clear hK K
            try simp only [Act.put, Array.getInternal_eq_getElem, List.getElem_toArray, List.getElem_cons_zero, List.getElem_cons_succ, List.setIfInBounds_toArray, List.set_cons_zero, List.set_cons_succ]
            refine wpAnyH_take (i := 11) (v := ?_) rfl (by kernel_rfl) (by kernel_rfl) (by kernel_rfl) (fun _ _ _ h => h) (Or.inl ⟨by kernel_rfl, ?_⟩) (by assumption) ?_
            rotate_left
            · (intro w hSw; (try dsimp only at hSw); go_simp) <;> (try (with_reducible rfl))
            try simp only [Act.put, Array.getInternal_eq_getElem, List.getElem_toArray, List.getElem_cons_zero, List.getElem_cons_succ, List.setIfInBounds_toArray, List.set_cons_zero, List.set_cons_succ]
            refine wpAnyH_take (i := 13) (v := ?_) rfl (by kernel_rfl) (by kernel_rfl) (by kernel_rfl) (fun _ _ _ h => h) (Or.inl ⟨by kernel_rfl, ?_⟩) (by assumption) ?_
            rotate_left
            · (intro w hSw; (try dsimp only at hSw); go_simp) <;> (try (with_reducible rfl))
            try simp only [Act.put, Array.getInternal_eq_getElem, List.getElem_toArray, List.getElem_cons_zero, List.getElem_cons_succ, List.setIfInBounds_toArray, List.set_cons_zero, List.set_cons_succ]
            refine wpAnyH_take (i := 14) (v := ?_) rfl (by kernel_rfl) (by kernel_rfl) (by kernel_rfl) (fun _ _ _ h => h) (Or.inl ⟨by kernel_rfl, ?_⟩) (by assumption) ?_
            rotate_left
            · (intro w hSw; (try dsimp only at hSw); go_simp) <;> (try (with_reducible rfl))
            try simp only [Act.put, Array.getInternal_eq_getElem, List.getElem_toArray, List.getElem_cons_zero, List.getElem_cons_succ, List.setIfInBounds_toArray, List.set_cons_zero, List.set_cons_succ]
            refine wpAnyH_take (i := 15) (v := ?_) rfl (by kernel_rfl) (by kernel_rfl) (by kernel_rfl) (fun _ _ _ h => h) (Or.inl ⟨by kernel_rfl, ?_⟩) (by assumption) ?_
            rotate_left
            · (intro w hSw; (try dsimp only at hSw); go_simp) <;> (try (with_reducible rfl))
            try simp only [Act.put, Array.getInternal_eq_getElem, List.getElem_toArray, List.getElem_cons_zero, List.getElem_cons_succ, List.setIfInBounds_toArray, List.set_cons_zero, List.set_cons_succ]
            refine wpAnyH_done ?_ ?_ _
            · kernel_rfl
            have YU := Lib.hid (By.grown hy.out (fun S => (KA.out.mono (fun _ _ z => z.elim))))
            have x42 := (HCL.out _ KA.out).2.1
            have xb := rd_cell (rd_old HR.out ((keeps_own HK2.out PL.out (Nat.le_refl _) (fun _ => False)).trans ((hy.out.keep _).trans KA.out))) (k := k) (by have := HLR.out.1; omega)
            obtain ⟨x, hx⟩ : ∃ x, x = h.dat.getD k 0 := ⟨_, rfl⟩
            rw [← hx] at xb
            have hkl : k < h.dat.length := by have := HLR.out.1; omega
            have hkk : (h.dat.take k).length = k := by rw [List.length_take]; omega
            have HKK := Lib.hid hkk
            have htk : h.dat.take (k + 1) = h.dat.take k ++ [x] := by rw [List.take_succ_eq_append_getElem hkl, hx, List.getD_eq_getElem?_getD, List.getElem?_eq_getElem hkl]; rfl
            have HTK := Lib.hid htk
            clear hx hkl hkk htk
            go_wp2_with ((with_reducible show wpList _ _ _ (⟨some 71, _, _, _, _, _⟩ :: _) _ _); refine By.wpList_append rfl _ _ rfl (YU.out.alloc _) rfl (some ⟨ua.heap.size, 0, none⟩) 1 1 _ [x] rfl rfl (lit_rd ua [x] _ rfl) (by have := HKK.out; simp; omega) ?_; intro v3 w3 y3 k3; have Y3 : Hid (By wL w3 v3 (h.dat.take (k + 1))) := Lib.hid (by rw [HTK.out]; exact y3); clear y3 k3)
            --@RR
            go_roundw
            case rel => exact ⟨k + 1, by omega, by omega, by go_num, Y3⟩
            case measure => simp [intOf]; omega
          · have HKE : Hid (k = 2020) := Lib.hid (by omega)
            have d9 : ¬ (s9 : Int) < 2048 := by omega
            clear hs9
            go_wp2_with fail
            refine wp_region_held_drew (S := fun w' => w'.rangeAt w.heap.size 0 (hcs (fitX h) (.slice A n c)) ∧ w'.cell? ⟨w.heap.size, 42, none⟩ = some (.slice A n c) ∧ w'.cell? ⟨w.heap.size, 34, none⟩ = some (.int .u8 (h.pr : Int))) (by kernel_rfl) (HCL.out _ ((Keeps.refl _ wr).drew)) (fun hHeld => ?_)
            refine wpAnyH_take (i := 0) (v := ?_) rfl (by kernel_rfl) (by kernel_rfl) (by kernel_rfl) (fun _ _ _ h => h) (Or.inl ⟨by kernel_rfl, ?_⟩) (by assumption) ?_
            rotate_left
            · (intro w hSw; (try dsimp only at hSw); go_simp) <;> (try (with_reducible rfl))
            try simp only [Act.put, Array.getInternal_eq_getElem, List.getElem_toArray, List.getElem_cons_zero, List.getElem_cons_succ, List.setIfInBounds_toArray, List.set_cons_zero, List.set_cons_succ]
            refine wpAnyH_take (i := 1) (v := ?_) rfl (by kernel_rfl) (by kernel_rfl) (by kernel_rfl) (fun _ _ _ h => h) (Or.inl ⟨by kernel_rfl, ?_⟩) (by assumption) ?_
            rotate_left
            · (intro w hSw; (try dsimp only at hSw); go_simp) <;> (try (with_reducible rfl))
            try simp only [Act.put, Array.getInternal_eq_getElem, List.getElem_toArray, List.getElem_cons_zero, List.getElem_cons_succ, List.setIfInBounds_toArray, List.set_cons_zero, List.set_cons_succ]
            refine wpAnyH_take (i := 2) (v := ?_) rfl (by kernel_rfl) (by kernel_rfl) (by kernel_rfl) (fun _ _ _ h => h) (Or.inl ⟨by kernel_rfl, ?_⟩) (by assumption) ?_
            rotate_left
            · (intro w hSw; have hcell := hSw.2.1; go_simp) <;> (try (with_reducible rfl))
            try simp only [Act.put, Array.getInternal_eq_getElem, List.getElem_toArray, List.getElem_cons_zero, List.getElem_cons_succ, List.setIfInBounds_toArray, List.set_cons_zero, List.set_cons_succ]
            refine wpAnyH_take (i := 3) (v := ?_) rfl (by kernel_rfl) (by kernel_rfl) (by kernel_rfl) (fun _ _ _ h => h) (Or.inl ⟨by kernel_rfl, ?_⟩) (by assumption) ?_
            rotate_left
            · (intro w hSw; (try dsimp only at hSw); go_simp) <;> (try (with_reducible rfl))
            try simp only [Act.put, Array.getInternal_eq_getElem, List.getElem_toArray, List.getElem_cons_zero, List.getElem_cons_succ, List.setIfInBounds_toArray, List.set_cons_zero, List.set_cons_succ]
            refine wpAnyH_take (i := 4) (v := ?_) rfl (by kernel_rfl) (by kernel_rfl) (by kernel_rfl) (fun _ _ _ h => h) (Or.inl ⟨by kernel_rfl, ?_⟩) (by assumption) ?_
            rotate_left
            · (intro w hSw; (try dsimp only at hSw); go_simp) <;> (try (with_reducible rfl))
            try simp only [Act.put, Array.getInternal_eq_getElem, List.getElem_toArray, List.getElem_cons_zero, List.getElem_cons_succ, List.setIfInBounds_toArray, List.set_cons_zero, List.set_cons_succ]
            refine wpAnyH_take (i := 5) (v := ?_) rfl (by kernel_rfl) (by kernel_rfl) (by kernel_rfl) (fun _ _ _ h => h) (Or.inl ⟨by kernel_rfl, ?_⟩) (by assumption) ?_
            rotate_left
            · (intro w hSw; (try dsimp only at hSw); go_simp) <;> (try (with_reducible rfl))
            try simp only [Act.put, Array.getInternal_eq_getElem, List.getElem_toArray, List.getElem_cons_zero, List.getElem_cons_succ, List.setIfInBounds_toArray, List.set_cons_zero, List.set_cons_succ]
            refine' wpAnyH_take (i := 6) (v := _) rfl (by kernel_rfl) (by kernel_rfl) (by kernel_rfl) (fun _ _ _ h => h) (yieldsIf_load_mid (by kernel_rfl) _ _ rfl _ _ rfl _ _ (fun w hSw => hSw.1) Try.underlying29 rfl HSZ.out) (by assumption) ?_
            try simp only [Act.put, Array.getInternal_eq_getElem, List.getElem_toArray, List.getElem_cons_zero, List.getElem_cons_succ, List.setIfInBounds_toArray, List.set_cons_zero, List.set_cons_succ]
            refine wpAnyH_take (i := 8) (v := ?_) rfl (by kernel_rfl) (by kernel_rfl) (by kernel_rfl) (fun _ _ _ h => h) (Or.inl ⟨by kernel_rfl, ?_⟩) (by assumption) ?_
            rotate_left
            · (intro w hSw; (try dsimp only at hSw); go_simp) <;> (try (with_reducible rfl))
            try simp only [Act.put, Array.getInternal_eq_getElem, List.getElem_toArray, List.getElem_cons_zero, List.getElem_cons_succ, List.setIfInBounds_toArray, List.set_cons_zero, List.set_cons_succ]
            refine wpAnyH_take (i := 9) (v := ?_) rfl (by kernel_rfl) (by kernel_rfl) (by kernel_rfl) (fun _ _ _ h => h) (Or.inl ⟨by kernel_rfl, ?_⟩) (by assumption) ?_
            rotate_left
            · (intro w hSw; have hcell := hSw.2.2; go_simp) <;> (try (with_reducible rfl))
            try simp only [Act.put, Array.getInternal_eq_getElem, List.getElem_toArray, List.getElem_cons_zero, List.getElem_cons_succ, List.setIfInBounds_toArray, List.set_cons_zero, List.set_cons_succ]
            refine wpAnyH_take (i := 12) (v := ?_) rfl (by kernel_rfl) (by kernel_rfl) (by kernel_rfl) (fun _ _ _ h => h) (Or.inl ⟨by kernel_rfl, ?_⟩) (by assumption) ?_
            rotate_left
            · (intro w hSw; (try dsimp only at hSw); go_simp) <;> (try (with_reducible rfl))
            try simp only [Act.put, Array.getInternal_eq_getElem, List.getElem_toArray, List.getElem_cons_zero, List.getElem_cons_succ, List.setIfInBounds_toArray, List.set_cons_zero, List.set_cons_succ]
            refine wpAnyH_ready (rs := [7]) (by kernel_rfl) (by simp) ?_
            refine AllReadyH.cons rfl (fun K hK => ?_) AllReadyH.nil
            (rw [if_pos (by kernel_rfl)]; go_simp; go_at_call 33; refine ((HFR _).out).mono ?_; rintro e ua ⟨rfl, ka⟩; have KA := Lib.hid (((Keeps.refl (fun _ => False) wr).drew).trans (ka _)); clear ka)
            refine hK.out _ _ (HCL.out _ KA.out) (fun hHeld => ?_)
            clear hK K
            try simp only [Act.put, Array.getInternal_eq_getElem, List.getElem_toArray, List.getElem_cons_zero, List.getElem_cons_succ, List.setIfInBounds_toArray, List.set_cons_zero, List.set_cons_succ]
            refine wpAnyH_ready (rs := [10]) (by kernel_rfl) (by simp) ?_
            refine AllReadyH.cons rfl (fun K hK => ?_) AllReadyH.nil
            (rw [if_pos (by kernel_rfl)]; go_simp; go_at_call 32; refine ((HM _).out).mono ?_; rintro e wx ⟨rfl, h9⟩; subst wx)
            refine hK.out _ _ (HCL.out _ KA.out) (fun hHeld => ?_)
            clear hK K
            try simp only [Act.put, Array.getInternal_eq_getElem, List.getElem_toArray, List.getElem_cons_zero, List.getElem_cons_succ, List.setIfInBounds_toArray, List.set_cons_zero, List.set_cons_succ]
            refine wpAnyH_take (i := 11) (v := ?_) rfl (by kernel_rfl) (by kernel_rfl) (by kernel_rfl) (fun _ _ _ h => h) (Or.inl ⟨by kernel_rfl, ?_⟩) (by assumption) ?_
            rotate_left
            · (intro w hSw; (try dsimp only at hSw); go_simp) <;> (try (with_reducible rfl))
            try simp only [Act.put, Array.getInternal_eq_getElem, List.getElem_toArray, List.getElem_cons_zero, List.getElem_cons_succ, List.setIfInBounds_toArray, List.set_cons_zero, List.set_cons_succ]
            refine wpAnyH_take (i := 13) (v := ?_) rfl (by kernel_rfl) (by kernel_rfl) (by kernel_rfl) (fun _ _ _ h => h) (Or.inl ⟨by kernel_rfl, ?_⟩) (by assumption) ?_
            rotate_left
            · (intro w hSw; (try dsimp only at hSw); go_simp) <;> (try (with_reducible rfl))
            try simp only [Act.put, Array.getInternal_eq_getElem, List.getElem_toArray, List.getElem_cons_zero, List.getElem_cons_succ, List.setIfInBounds_toArray, List.set_cons_zero, List.set_cons_succ]
            refine wpAnyH_take (i := 14) (v := ?_) rfl (by kernel_rfl) (by kernel_rfl) (by kernel_rfl) (fun _ _ _ h => h) (Or.inl ⟨by kernel_rfl, ?_⟩) (by assumption) ?_
            rotate_left
            · (intro w hSw; (try dsimp only at hSw); go_simp) <;> (try (with_reducible rfl))
            try simp only [Act.put, Array.getInternal_eq_getElem, List.getElem_toArray, List.getElem_cons_zero, List.getElem_cons_succ, List.setIfInBounds_toArray, List.set_cons_zero, List.set_cons_succ]
            refine wpAnyH_take (i := 15) (v := ?_) rfl (by kernel_rfl) (by kernel_rfl) (by kernel_rfl) (fun _ _ _ h => h) (Or.inl ⟨by kernel_rfl, ?_⟩) (by assumption) ?_
            rotate_left
            · (intro w hSw; (try dsimp only at hSw); go_simp) <;> (try (with_reducible rfl))
            try simp only [Act.put, Array.getInternal_eq_getElem, List.getElem_toArray, List.getElem_cons_zero, List.getElem_cons_succ, List.setIfInBounds_toArray, List.set_cons_zero, List.set_cons_succ]
            refine wpAnyH_done ?_ ?_ _
            · kernel_rfl
            obtain ⟨A5, c5, rfl, r5⟩ := hy.out.rd
            obtain ⟨m5, hm5⟩ : ∃ m5, (h.dat.take k).length = m5 := ⟨_, rfl⟩
            rw [hm5] at hy ⊢
            have ed : (fit h).dat = h.dat.take k := by
              show h.dat.take (2048 - (fsz h + mids h.pr)) = _
              rw [HLR.out.2.2.2, HLR.out.2.2.1]
              rw [HKE.out]
            have kwL : ∀ S, Keeps S w wL := keeps_own HK2.out PL.out (Nat.le_refl _)
            have sL : w.heap.size + 2 ≤ wL.heap.size := by have := PL.out.size; have := HZ.out.lt; omega
            have kx : ∀ S, Keeps S wL ua := fun S => (hy.out.keep S).trans (KA.out.mono (fun _ _ z => z.elim))
            have gx := Blk.keeps GL.out (kx (fun _ => False)) (fun z => z)
            have wfx := fitX_wf HWF.out
            have c42 : (ua).cell? ⟨w.heap.size, 42, none⟩ = some _ := h_cell gx wfx.s wfx.d 8 _ rfl
            have f42 : (ua).frozen? ⟨w.heap.size, 42, none⟩ = false := gx.frozen 42
            have g6 := st_dat gx wfx.s wfx.d (.slice A5 m5 c5) (fit h).dat
            have p6 := keeps_put (G := w.heap.size) (Keeps.refl _ (ua)) 42 (.slice A5 m5 c5)
            obtain ⟨w6, hw6⟩ : ∃ y, y = (ua).setCell ⟨w.heap.size, 42, none⟩ (.slice A5 m5 c5) := ⟨_, rfl⟩
            rw [← hw6] at g6 p6
            have GF : Hid (Blk w6 w.heap.size 29 (hcs (fit h) (.slice A5 m5 c5))) := Lib.hid g6
            have zz := Blk.keeps (Blk.keeps (Blk.keeps HZ.out PL.out (by omega)) (kx (fun _ => False)) (fun z => z)) p6 (by omega)
            obtain ⟨tz, bz, kz⟩ := p_store zz (cs := hcs (fit h) (.slice A5 m5 c5)) (by rw [hcs_len (fit_wf HWF.out)]; rfl)
            have yy : By w (w6.setCells (w.heap.size + 1) 0 (hcs (fit h) (.slice A5 m5 c5))) (.slice A5 m5 c5) (fit h).dat := by
              rw [ed]
              exact past_ (past_ (By.base (By.grown hy.out (fun S => (KA.out.mono (fun _ _ z => z.elim)))) kwL) p6 (Nat.le_refl _) (hy.out.apart (by omega))) kz (by omega) (hy.out.apart (by omega))
            have HTZ := Lib.hid tz
            have HBZ := Lib.hid bz
            have HYY := Lib.hid yy
            have HW6 := Lib.hid hw6
            have HSF := Lib.hid (hd_sz (fit_wf HWF.out) (.slice A5 m5 c5))
            have HSG := Lib.hid (all_oneCell_toArray (hcs_one (h := fit h) (v := .slice A5 m5 c5) rfl))
            clear hw6 g6 p6 zz tz bz kz yy gx kx kwL sL r5 wfx ed
            go_wp2_with (first
              | ((with_reducible show wpList _ _ _ (⟨some 74, _, _, _, _, _⟩ :: _) _ _); (try rw [← HW6.out]); refine wpList_load_mid rfl 29 _ rfl w.heap.size 0 rfl (hcs (fit h) (.slice A5 m5 c5)) _ (Blk.range GF.out) Try.underlying29 rfl HSF.out ?_)
              | ((with_reducible show wpList _ _ _ (⟨none, .store _ (.tmp 2) _, _, _, _, _⟩ :: _) _ _); refine' wpList_store_mid rfl 29 _ _ rfl (w.heap.size + 1) 0 (hcs (fit h) (.slice A5 m5 c5)).toArray ?hx rfl ?ht HSF.out HSG.out ?_; (case hx => rfl); (case ht => exact HTZ.out)))
            try rw [Exit.noGoto_ret]
            refine bodyPost_ret (results_cell_row (p := 2) (ty := 29) (by kernel_rfl) _ _ (w.heap.size + 1) _ _ _ _ (by rfl) HBZ.out Try.underlying29 rfl (by rw [List.size_toArray]; exact HSF.out)) rfl ?_
            exact ⟨_, rfl, HYY.out⟩

        · have dlt : ¬ (k : Int) < (n : Int) := by omega
          clear hs9
          go_wp2_with fail
          refine wp_region_held_drew (S := fun w' => w'.rangeAt w.heap.size 0 (hcs (fitX h) (.slice A n c)) ∧ w'.cell? ⟨w.heap.size, 42, none⟩ = some (.slice A n c) ∧ w'.cell? ⟨w.heap.size, 34, none⟩ = some (.int .u8 (h.pr : Int))) (by kernel_rfl) (HCL.out _ ((Keeps.refl _ wr).drew)) (fun hHeld => ?_)
          refine wpAnyH_take (i := 0) (v := ?_) rfl (by kernel_rfl) (by kernel_rfl) (by kernel_rfl) (fun _ _ _ h => h) (Or.inl ⟨by kernel_rfl, ?_⟩) (by assumption) ?_
          rotate_left
          · (intro w hSw; (try dsimp only at hSw); go_simp) <;> (try (with_reducible rfl))
          try simp only [Act.put, Array.getInternal_eq_getElem, List.getElem_toArray, List.getElem_cons_zero, List.getElem_cons_succ, List.setIfInBounds_toArray, List.set_cons_zero, List.set_cons_succ]
          refine wpAnyH_take (i := 1) (v := ?_) rfl (by kernel_rfl) (by kernel_rfl) (by kernel_rfl) (fun _ _ _ h => h) (Or.inl ⟨by kernel_rfl, ?_⟩) (by assumption) ?_
          rotate_left
          · (intro w hSw; (try dsimp only at hSw); go_simp) <;> (try (with_reducible rfl))
          try simp only [Act.put, Array.getInternal_eq_getElem, List.getElem_toArray, List.getElem_cons_zero, List.getElem_cons_succ, List.setIfInBounds_toArray, List.set_cons_zero, List.set_cons_succ]
          refine wpAnyH_take (i := 2) (v := ?_) rfl (by kernel_rfl) (by kernel_rfl) (by kernel_rfl) (fun _ _ _ h => h) (Or.inl ⟨by kernel_rfl, ?_⟩) (by assumption) ?_
          rotate_left
          · (intro w hSw; have hcell := hSw.2.1; go_simp) <;> (try (with_reducible rfl))
          try simp only [Act.put, Array.getInternal_eq_getElem, List.getElem_toArray, List.getElem_cons_zero, List.getElem_cons_succ, List.setIfInBounds_toArray, List.set_cons_zero, List.set_cons_succ]
          refine wpAnyH_take (i := 3) (v := ?_) rfl (by kernel_rfl) (by kernel_rfl) (by kernel_rfl) (fun _ _ _ h => h) (Or.inl ⟨by kernel_rfl, ?_⟩) (by assumption) ?_
          rotate_left
          · (intro w hSw; (try dsimp only at hSw); go_simp) <;> (try (with_reducible rfl))
          try simp only [Act.put, Array.getInternal_eq_getElem, List.getElem_toArray, List.getElem_cons_zero, List.getElem_cons_succ, List.setIfInBounds_toArray, List.set_cons_zero, List.set_cons_succ]
          refine wpAnyH_take (i := 4) (v := ?_) rfl (by kernel_rfl) (by kernel_rfl) (by kernel_rfl) (fun _ _ _ h => h) (Or.inl ⟨by kernel_rfl, ?_⟩) (by assumption) ?_
          rotate_left
          · (intro w hSw; (try dsimp only at hSw); go_simp) <;> (try (with_reducible rfl))
          try simp only [Act.put, Array.getInternal_eq_getElem, List.getElem_toArray, List.getElem_cons_zero, List.getElem_cons_succ, List.setIfInBounds_toArray, List.set_cons_zero, List.set_cons_succ]
          refine wpAnyH_take (i := 5) (v := ?_) rfl (by kernel_rfl) (by kernel_rfl) (by kernel_rfl) (fun _ _ _ h => h) (Or.inl ⟨by kernel_rfl, ?_⟩) (by assumption) ?_
          rotate_left
          · (intro w hSw; (try dsimp only at hSw); go_simp) <;> (try (with_reducible rfl))
          try simp only [Act.put, Array.getInternal_eq_getElem, List.getElem_toArray, List.getElem_cons_zero, List.getElem_cons_succ, List.setIfInBounds_toArray, List.set_cons_zero, List.set_cons_succ]
          refine wpAnyH_take (i := 6) (v := undef) rfl (by kernel_rfl) (by kernel_rfl) (by kernel_rfl) (fun _ _ _ h => h) (Or.inr ⟨by kernel_rfl, rfl⟩) (by assumption) ?_
          try simp only [Act.put, Array.getInternal_eq_getElem, List.getElem_toArray, List.getElem_cons_zero, List.getElem_cons_succ, List.setIfInBounds_toArray, List.set_cons_zero, List.set_cons_succ]
          refine wpAnyH_take (i := 7) (v := undef) rfl (by kernel_rfl) (by kernel_rfl) (by kernel_rfl) (fun _ _ _ h => h) (Or.inr ⟨by kernel_rfl, rfl⟩) (by assumption) ?_
          try simp only [Act.put, Array.getInternal_eq_getElem, List.getElem_toArray, List.getElem_cons_zero, List.getElem_cons_succ, List.setIfInBounds_toArray, List.set_cons_zero, List.set_cons_succ]
          refine wpAnyH_take (i := 8) (v := undef) rfl (by kernel_rfl) (by kernel_rfl) (by kernel_rfl) (fun _ _ _ h => h) (Or.inr ⟨by kernel_rfl, rfl⟩) (by assumption) ?_
          try simp only [Act.put, Array.getInternal_eq_getElem, List.getElem_toArray, List.getElem_cons_zero, List.getElem_cons_succ, List.setIfInBounds_toArray, List.set_cons_zero, List.set_cons_succ]
          refine wpAnyH_take (i := 9) (v := undef) rfl (by kernel_rfl) (by kernel_rfl) (by kernel_rfl) (fun _ _ _ h => h) (Or.inr ⟨by kernel_rfl, rfl⟩) (by assumption) ?_
          try simp only [Act.put, Array.getInternal_eq_getElem, List.getElem_toArray, List.getElem_cons_zero, List.getElem_cons_succ, List.setIfInBounds_toArray, List.set_cons_zero, List.set_cons_succ]
          refine wpAnyH_take (i := 10) (v := undef) rfl (by kernel_rfl) (by kernel_rfl) (by kernel_rfl) (fun _ _ _ h => h) (Or.inr ⟨by kernel_rfl, rfl⟩) (by assumption) ?_
          try simp only [Act.put, Array.getInternal_eq_getElem, List.getElem_toArray, List.getElem_cons_zero, List.getElem_cons_succ, List.setIfInBounds_toArray, List.set_cons_zero, List.set_cons_succ]
          refine wpAnyH_take (i := 11) (v := undef) rfl (by kernel_rfl) (by kernel_rfl) (by kernel_rfl) (fun _ _ _ h => h) (Or.inr ⟨by kernel_rfl, rfl⟩) (by assumption) ?_
          try simp only [Act.put, Array.getInternal_eq_getElem, List.getElem_toArray, List.getElem_cons_zero, List.getElem_cons_succ, List.setIfInBounds_toArray, List.set_cons_zero, List.set_cons_succ]
          refine wpAnyH_take (i := 12) (v := undef) rfl (by kernel_rfl) (by kernel_rfl) (by kernel_rfl) (fun _ _ _ h => h) (Or.inr ⟨by kernel_rfl, rfl⟩) (by assumption) ?_
          try simp only [Act.put, Array.getInternal_eq_getElem, List.getElem_toArray, List.getElem_cons_zero, List.getElem_cons_succ, List.setIfInBounds_toArray, List.set_cons_zero, List.set_cons_succ]
          refine wpAnyH_take (i := 13) (v := undef) rfl (by kernel_rfl) (by kernel_rfl) (by kernel_rfl) (fun _ _ _ h => h) (Or.inr ⟨by kernel_rfl, rfl⟩) (by assumption) ?_
          try simp only [Act.put, Array.getInternal_eq_getElem, List.getElem_toArray, List.getElem_cons_zero, List.getElem_cons_succ, List.setIfInBounds_toArray, List.set_cons_zero, List.set_cons_succ]
          refine wpAnyH_take (i := 14) (v := undef) rfl (by kernel_rfl) (by kernel_rfl) (by kernel_rfl) (fun _ _ _ h => h) (Or.inr ⟨by kernel_rfl, rfl⟩) (by assumption) ?_
          try simp only [Act.put, Array.getInternal_eq_getElem, List.getElem_toArray, List.getElem_cons_zero, List.getElem_cons_succ, List.setIfInBounds_toArray, List.set_cons_zero, List.set_cons_succ]
          refine wpAnyH_take (i := 15) (v := ?_) rfl (by kernel_rfl) (by kernel_rfl) (by kernel_rfl) (fun _ _ _ h => h) (Or.inl ⟨by kernel_rfl, ?_⟩) (by assumption) ?_
          rotate_left
          · (intro w hSw; (try dsimp only at hSw); go_simp) <;> (try (with_reducible rfl))
          try simp only [Act.put, Array.getInternal_eq_getElem, List.getElem_toArray, List.getElem_cons_zero, List.getElem_cons_succ, List.setIfInBounds_toArray, List.set_cons_zero, List.set_cons_succ]
          refine wpAnyH_done ?_ ?_ _
          · kernel_rfl
          obtain ⟨wq, hwq⟩ : ∃ y, y = wr.drew := ⟨_, rfl⟩
          rw [← hwq]
          have KQ : Hid (∀ S, Keeps S wr wq) := Lib.hid (fun S => by rw [hwq]; exact (Keeps.refl S wr).drew)
          clear hwq
          obtain ⟨A5, c5, rfl, r5⟩ := hy.out.rd
          obtain ⟨m5, hm5⟩ : ∃ m5, (h.dat.take k).length = m5 := ⟨_, rfl⟩
          rw [hm5] at hy ⊢
          have ed : (fit h).dat = h.dat.take k := by
            show h.dat.take (2048 - (fsz h + mids h.pr)) = _
            rw [HLR.out.2.2.2, HLR.out.2.2.1]
            rw [List.take_of_length_le (by have := HLR.out.1; omega), List.take_of_length_le (by have := HLR.out.1; omega)]
          have kwL : ∀ S, Keeps S w wL := keeps_own HK2.out PL.out (Nat.le_refl _)
          have sL : w.heap.size + 2 ≤ wL.heap.size := by have := PL.out.size; have := HZ.out.lt; omega
          have kx : ∀ S, Keeps S wL wq := fun S => (hy.out.keep S).trans (KQ.out S)
          have gx := Blk.keeps GL.out (kx (fun _ => False)) (fun z => z)
          have wfx := fitX_wf HWF.out
          have c42 : (wq).cell? ⟨w.heap.size, 42, none⟩ = some _ := h_cell gx wfx.s wfx.d 8 _ rfl
          have f42 : (wq).frozen? ⟨w.heap.size, 42, none⟩ = false := gx.frozen 42
          have g6 := st_dat gx wfx.s wfx.d (.slice A5 m5 c5) (fit h).dat
          have p6 := keeps_put (G := w.heap.size) (Keeps.refl _ (wq)) 42 (.slice A5 m5 c5)
          obtain ⟨w6, hw6⟩ : ∃ y, y = (wq).setCell ⟨w.heap.size, 42, none⟩ (.slice A5 m5 c5) := ⟨_, rfl⟩
          rw [← hw6] at g6 p6
          have GF : Hid (Blk w6 w.heap.size 29 (hcs (fit h) (.slice A5 m5 c5))) := Lib.hid g6
          have zz := Blk.keeps (Blk.keeps (Blk.keeps HZ.out PL.out (by omega)) (kx (fun _ => False)) (fun z => z)) p6 (by omega)
          obtain ⟨tz, bz, kz⟩ := p_store zz (cs := hcs (fit h) (.slice A5 m5 c5)) (by rw [hcs_len (fit_wf HWF.out)]; rfl)
          have yy : By w (w6.setCells (w.heap.size + 1) 0 (hcs (fit h) (.slice A5 m5 c5))) (.slice A5 m5 c5) (fit h).dat := by
            rw [ed]
            exact past_ (past_ (By.base (By.grown hy.out (fun S => (KQ.out S))) kwL) p6 (Nat.le_refl _) (hy.out.apart (by omega))) kz (by omega) (hy.out.apart (by omega))
          have HTZ := Lib.hid tz
          have HBZ := Lib.hid bz
          have HYY := Lib.hid yy
          have HW6 := Lib.hid hw6
          have HSF := Lib.hid (hd_sz (fit_wf HWF.out) (.slice A5 m5 c5))
          have HSG := Lib.hid (all_oneCell_toArray (hcs_one (h := fit h) (v := .slice A5 m5 c5) rfl))
          clear hw6 g6 p6 zz tz bz kz yy gx kx kwL sL r5 wfx ed
          go_wp2_with (first
            | ((with_reducible show wpList _ _ _ (⟨some 74, _, _, _, _, _⟩ :: _) _ _); (try rw [← HW6.out]); refine wpList_load_mid rfl 29 _ rfl w.heap.size 0 rfl (hcs (fit h) (.slice A5 m5 c5)) _ (Blk.range GF.out) Try.underlying29 rfl HSF.out ?_)
            | ((with_reducible show wpList _ _ _ (⟨none, .store _ (.tmp 2) _, _, _, _, _⟩ :: _) _ _); refine' wpList_store_mid rfl 29 _ _ rfl (w.heap.size + 1) 0 (hcs (fit h) (.slice A5 m5 c5)).toArray ?hx rfl ?ht HSF.out HSG.out ?_; (case hx => rfl); (case ht => exact HTZ.out)))
          try rw [Exit.noGoto_ret]
          refine bodyPost_ret (results_cell_row (p := 2) (ty := 29) (by kernel_rfl) _ _ (w.heap.size + 1) _ _ _ _ (by rfl) HBZ.out Try.underlying29 rfl (by rw [List.size_toArray]; exact HSF.out)) rfl ?_
          exact ⟨_, rfl, HYY.out⟩

set_option maxRecDepth 100000 in
set_option maxHeartbeats 4000000 in
theorem rfit_fn (h : Hd) (A : Option Addr) (n c : Nat) (hw : h.Wf) (hl : h.dat.length = n) (hn : n ≤ 140737488355328) (hr : Rd w w.heap.size A (by_ h.dat)) (hv : h.src.v6 = false) (h6 : h.pr ≠ 6) (h7 : h.pr ≠ 17) :
    Calls Try.prog 22 #[hvv h (.slice A n c)] w fun e w' => ∃ v, e = .returned (hvv (fit h) v) ∧ By w w' v (fit h).dat := by
  obtain ⟨w2, hw2, k2, bG, bZ, s2⟩ := box2 w (hcs h (.slice A n c)) zhd 29 29
  dsimp only [zhd] at hw2
  have hms : mids h.pr = 0 := midsN h6 h7
  have hfs : fsz h = 20 := by unfold fsz; rw [hv]; rfl
  have HM : ∀ u, Hid (Calls Try.prog 32 #[.int .u8 (h.pr : Int)] u fun e w' => e = .returned (.int .i64 0) ∧ w' = u) := fun u => Lib.hid (by have := rmids_ u h.pr; rw [hms] at this; exact this)
  have h1 := hw.s
  have h2 := hw.d
  have c00 := (HF.of_blk hw bG).v6s
  rw [hv] at c00
  have c17 := c_dv6 bG h1
  have f17 := bG.frozen 17
  have g0 := st_dv6 bG h1 false
  have p0 := keeps_put (G := w.heap.size) (Keeps.refl _ w2) 17 (.bool false)
  have c01 : (w2.setCell ⟨w.heap.size, 17, none⟩ (.bool false)).cell? ⟨w.heap.size, 0, none⟩ = some (.bool false) := by rw [g0.cell, ← hv]; rfl
  have HW2 := Lib.hid hw2
  have HWF := Lib.hid hw
  have HLR := Lib.hid (And.intro hl (And.intro hv (And.intro hms hfs)))
  have HR := Lib.hid hr
  have HP := Lib.hid (And.intro h6 h7)
  have HK2 := Lib.hid k2
  have HG0 := Lib.hid g0
  have HP0 := Lib.hid p0
  have HZ := Lib.hid bZ
  unfold hvv
  clear hw2 k2 bG bZ s2 hw hl hr g0 p0 h1 h2 hms hfs hv h6 h7
  generalize hC : hcs h (.slice A n c) = C at *
  have HCC := Lib.hid hC
  clear hC
  go_enter Try.func22, Try.ntmps22
  go_wp2_with ((with_reducible show wpList _ _ _ (⟨some 6, _, _, _, _, _⟩ :: _) _ _); (try rw [← HW2.out]); refine rest_of ?_)
  unfold Rest_
  obtain ⟨y0, hy0⟩ : ∃ y, y = w2.setCell ⟨w.heap.size, 17, none⟩ (.bool false) := ⟨_, rfl⟩
  have G0 : Hid (Blk y0 w.heap.size 29 _) := Lib.hid (by rw [hy0]; exact HG0.out)
  have P0 : Hid (Keeps (· = w.heap.size) w2 y0) := Lib.hid (by rw [hy0]; exact HP0.out)
  have HY0 := Lib.hid hy0
  clear hy0
  go_wp2_with fail
  rw [← HY0.out]
  clear c00 c17 f17 c01
  --@L1
  go_loopw [3] (fun i wr => ∃ k : Nat, 4 ≤ k ∧ k ≤ 16 ∧ i = .int .i64 k ∧ Hid (Blk wr w.heap.size 29 (hcs (zh k h) (.slice A n c))) ∧ Hid (Keeps (· = w.heap.size) w2 wr)) (fun i _ => 16 - (intOf i).toNat)
  case atStart =>
    refine ⟨4, by omega, by omega, rfl, Lib.hid ?_, P0⟩
    have e : zh 4 h = ⟨h.src, ⟨false, h.dst.B⟩, h.pr, h.sp, h.dp, h.ttl, h.cls, h.id, h.fl, h.seq, h.dat⟩ := Hd.eq_of (by show (⟨false, zrB 4 h.src.B⟩ : Ad) = h.src; rw [zrB_4, ← HLR.out.2.1]) (by show (⟨false, zrB 4 h.dst.B⟩ : Ad) = _; rw [zrB_4]) rfl rfl rfl rfl rfl rfl rfl rfl rfl
    rw [e]; exact G0.out
  case round =>
    obtain ⟨k, hk4, hk16, rfl, hb, hk⟩ := hrel
    by_cases hlt : k < 16
    · have z1 := zh_s HWF.out hk4 hk16
      have z2 := zh_d HWF.out hk4 hk16
      obtain ⟨u1, cx1⟩ := c_at hb.out (hcs_len2 z1 z2 _) (k := 1 + k) (by omega)
      have fx1 := hb.out.frozen (1 + k)
      have b1 := st_sB hb.out z1 hlt
      have p1 := keeps_put (G := w.heap.size) hk.out (1 + k) (.int .u8 0)
      obtain ⟨u2, cx2⟩ := c_at b1 (hcs_len2 (h := ⟨⟨(zh k h).src.v6, (zh k h).src.B.set k 0⟩, (zh k h).dst, (zh k h).pr, (zh k h).sp, (zh k h).dp, (zh k h).ttl, (zh k h).cls, (zh k h).id, (zh k h).fl, (zh k h).seq, (zh k h).dat⟩) (set_wf z1 k) z2 _) (k := 18 + k) (by omega)
      have fx2 := b1.frozen (18 + k)
      have b2 := st_dB b1 (set_wf z1 k) z2 hlt
      have p2 := keeps_put (G := w.heap.size) p1 (18 + k) (.int .u8 0)
      have b3 : Hid (Blk ((wr.setCell ⟨w.heap.size, 1 + k, none⟩ (.int .u8 0)).setCell ⟨w.heap.size, 18 + k, none⟩ (.int .u8 0)) w.heap.size 29 (hcs (zh (k + 1) h) (.slice A n c))) := Lib.hid (by
        have e : zh (k + 1) h = ⟨⟨false, (zrB k h.src.B).set k 0⟩, ⟨false, (zrB k h.dst.B).set k 0⟩, h.pr, h.sp, h.dp, h.ttl, h.cls, h.id, h.fl, h.seq, h.dat⟩ := by unfold zh; rw [zrB_step HWF.out.s.len hk4 hlt, zrB_step HWF.out.d.len hk4 hlt]
        rw [e]; exact b2)
      have p3 := Lib.hid p2
      clear b1 p1 b2 p2 z1 z2
      go_wp2
      --@LR
      go_roundw
      case rel => exact ⟨k + 1, by omega, by omega, by go_num, b3, p3⟩
      case measure => simp [intOf]; omega
    · obtain rfl : k = 16 := by omega
      have z1 := zh_s HWF.out hk4 hk16
      have z2 := zh_d HWF.out hk4 hk16
      have ci0 : (wr).cell? ⟨w.heap.size, 39, none⟩ = some (.int .u32 (h.id : Int)) := h_cell (hb.out) z1 z2 5 _ rfl
      obtain ⟨i1, hi1⟩ : ∃ i1, i1 = h.id % 65536 := ⟨_, rfl⟩
      have zi1 : (h.id : Int) % 65536 = (i1 : Int) := (by omega)
      have zi2 : Int.tmod (h.id : Int) 65536 = (i1 : Int) := (by rw [Int.tmod_eq_emod_of_nonneg (Int.natCast_nonneg _)]; omega)
      have cx1 : (wr).cell? ⟨w.heap.size, 39, none⟩ = some _ := h_cell (hb.out) z1 z2 5 _ rfl
      have fx1 : (wr).frozen? ⟨w.heap.size, 39, none⟩ = false := (hb.out).frozen 39
      have gg1 := st_id (hb.out) z1 z2 i1
      have pq1 := keeps_put (G := w.heap.size) (hk.out) 39 (.int .u32 (i1 : Int))
      have ci1 : ((wr).setCell ⟨w.heap.size, 39, none⟩ (.int .u32 (i1 : Int))).cell? ⟨w.heap.size, 39, none⟩ = some (.int .u32 (i1 : Int)) := h_cell (gg1) z1 z2 5 _ rfl
      have zi3 : (i1 : Int) % 1048576 = (i1 : Int) := (by omega)
      have zi4 : Int.tmod (i1 : Int) 1048576 = (i1 : Int) := (by rw [Int.tmod_eq_emod_of_nonneg (Int.natCast_nonneg _)]; omega)
      have cx2 : ((wr).setCell ⟨w.heap.size, 39, none⟩ (.int .u32 (i1 : Int))).cell? ⟨w.heap.size, 39, none⟩ = some _ := h_cell (gg1) z1 z2 5 _ rfl
      have fx2 : ((wr).setCell ⟨w.heap.size, 39, none⟩ (.int .u32 (i1 : Int))).frozen? ⟨w.heap.size, 39, none⟩ = false := (gg1).frozen 39
      have gg2 := st_id (gg1) z1 z2 i1
      have pq2 := keeps_put (G := w.heap.size) (pq1) 39 (.int .u32 (i1 : Int))
      have cp0 : (((wr).setCell ⟨w.heap.size, 39, none⟩ (.int .u32 (i1 : Int))).setCell ⟨w.heap.size, 39, none⟩ (.int .u32 (i1 : Int))).cell? ⟨w.heap.size, 34, none⟩ = some (.int .u8 (h.pr : Int)) := h_cell (gg2) z1 z2 0 _ rfl
      have d6 : ((h.pr : Int) != 6) = true := bne_iff_ne.2 (by have := HP.out; omega)
      have cx3 : (((wr).setCell ⟨w.heap.size, 39, none⟩ (.int .u32 (i1 : Int))).setCell ⟨w.heap.size, 39, none⟩ (.int .u32 (i1 : Int))).cell? ⟨w.heap.size, 40, none⟩ = some _ := h_cell (gg2) z1 z2 6 _ rfl
      have fx3 : (((wr).setCell ⟨w.heap.size, 39, none⟩ (.int .u32 (i1 : Int))).setCell ⟨w.heap.size, 39, none⟩ (.int .u32 (i1 : Int))).frozen? ⟨w.heap.size, 40, none⟩ = false := (gg2).frozen 40
      have gg3 := st_fl (gg2) z1 z2 0
      have pq3 := keeps_put (G := w.heap.size) (pq2) 40 (.int .u8 0)
      have cx4 : ((((wr).setCell ⟨w.heap.size, 39, none⟩ (.int .u32 (i1 : Int))).setCell ⟨w.heap.size, 39, none⟩ (.int .u32 (i1 : Int))).setCell ⟨w.heap.size, 40, none⟩ (.int .u8 0)).cell? ⟨w.heap.size, 41, none⟩ = some _ := h_cell (gg3) z1 z2 7 _ rfl
      have fx4 : ((((wr).setCell ⟨w.heap.size, 39, none⟩ (.int .u32 (i1 : Int))).setCell ⟨w.heap.size, 39, none⟩ (.int .u32 (i1 : Int))).setCell ⟨w.heap.size, 40, none⟩ (.int .u8 0)).frozen? ⟨w.heap.size, 41, none⟩ = false := (gg3).frozen 41
      have gg4 := st_seq (gg3) z1 z2 0
      have pq4 := keeps_put (G := w.heap.size) (pq3) 41 (.int .u32 0)
      have cp1 : (((((wr).setCell ⟨w.heap.size, 39, none⟩ (.int .u32 (i1 : Int))).setCell ⟨w.heap.size, 39, none⟩ (.int .u32 (i1 : Int))).setCell ⟨w.heap.size, 40, none⟩ (.int .u8 0)).setCell ⟨w.heap.size, 41, none⟩ (.int .u32 0)).cell? ⟨w.heap.size, 34, none⟩ = some (.int .u8 (h.pr : Int)) := h_cell (gg4) z1 z2 0 _ rfl
      have cx5 : (((((wr).setCell ⟨w.heap.size, 39, none⟩ (.int .u32 (i1 : Int))).setCell ⟨w.heap.size, 39, none⟩ (.int .u32 (i1 : Int))).setCell ⟨w.heap.size, 40, none⟩ (.int .u8 0)).setCell ⟨w.heap.size, 41, none⟩ (.int .u32 0)).cell? ⟨w.heap.size, 35, none⟩ = some _ := h_cell (gg4) z1 z2 1 _ rfl
      have fx5 : (((((wr).setCell ⟨w.heap.size, 39, none⟩ (.int .u32 (i1 : Int))).setCell ⟨w.heap.size, 39, none⟩ (.int .u32 (i1 : Int))).setCell ⟨w.heap.size, 40, none⟩ (.int .u8 0)).setCell ⟨w.heap.size, 41, none⟩ (.int .u32 0)).frozen? ⟨w.heap.size, 35, none⟩ = false := (gg4).frozen 35
      have gg5 := st_sp (gg4) z1 z2 0
      have pq5 := keeps_put (G := w.heap.size) (pq4) 35 (.int .u16 0)
      have cx6 : ((((((wr).setCell ⟨w.heap.size, 39, none⟩ (.int .u32 (i1 : Int))).setCell ⟨w.heap.size, 39, none⟩ (.int .u32 (i1 : Int))).setCell ⟨w.heap.size, 40, none⟩ (.int .u8 0)).setCell ⟨w.heap.size, 41, none⟩ (.int .u32 0)).setCell ⟨w.heap.size, 35, none⟩ (.int .u16 0)).cell? ⟨w.heap.size, 36, none⟩ = some _ := h_cell (gg5) z1 z2 2 _ rfl
      have fx6 : ((((((wr).setCell ⟨w.heap.size, 39, none⟩ (.int .u32 (i1 : Int))).setCell ⟨w.heap.size, 39, none⟩ (.int .u32 (i1 : Int))).setCell ⟨w.heap.size, 40, none⟩ (.int .u8 0)).setCell ⟨w.heap.size, 41, none⟩ (.int .u32 0)).setCell ⟨w.heap.size, 35, none⟩ (.int .u16 0)).frozen? ⟨w.heap.size, 36, none⟩ = false := (gg5).frozen 36
      have gg6 := st_dp (gg5) z1 z2 0
      have pq6 := keeps_put (G := w.heap.size) (pq5) 36 (.int .u16 0)
      obtain ⟨wL, hwL⟩ : ∃ y, y = ((((((wr).setCell ⟨w.heap.size, 39, none⟩ (.int .u32 (i1 : Int))).setCell ⟨w.heap.size, 39, none⟩ (.int .u32 (i1 : Int))).setCell ⟨w.heap.size, 40, none⟩ (.int .u8 0)).setCell ⟨w.heap.size, 41, none⟩ (.int .u32 0)).setCell ⟨w.heap.size, 35, none⟩ (.int .u16 0)).setCell ⟨w.heap.size, 36, none⟩ (.int .u16 0) := ⟨_, rfl⟩
      have GL : Hid (Blk wL w.heap.size 29 (hcs (fitX h) (.slice A n c))) := Lib.hid (by rw [hwL]; have e := gg6; rw [fitX_fn HWF.out HLR.out.2.1 HP.out.1 HP.out.2, ← hi1]; exact e)
      have PL : Hid (Keeps (· = w.heap.size) w2 wL) := Lib.hid (by rw [hwL]; exact pq6)
      have HWL := Lib.hid hwL
      clear hwL hi1 gg1 pq1 gg2 pq2 gg3 pq3 gg4 pq4 gg5 pq5 gg6 pq6
      go_wp2_with (first | ((with_reducible show Calls _ 32 _ _ _); refine (HM _).out.mono ?_; rintro e wx ⟨rfl, h9⟩; subst wx))
      try rw [← HWL.out]
      clear cx1 fx1 cx2 fx2 cx3 fx3 cx4 fx4 cx5 fx5 cx6 fx6 ci0 zi1 zi2 cp0 d6 ci1 zi3 zi4 cp1 z1 z2
      have HSZ := Lib.hid (hd_sz (fitX_wf HWF.out) (.slice A n c))
      have HFR : ∀ u, Hid (Calls Try.prog 33 #[.agg (hcs (fitX h) (.slice A n c)).toArray] u fun e w' => e = .returned (.int .i64 20) ∧ ∀ S, Keeps S u w') := fun u => Lib.hid (by
        have := rfsz_ u (fitX h) (.slice A n c) (fitX_wf HWF.out)
        rw [show fsz (fitX h) = 20 from by show (if (fitA _ _).v6 = true then 40 else 20) = _; rw [fit_v6, HLR.out.2.1]; rfl] at this
        exact this)
      have ew : IntKind.i64.wrap 20 = 20 := by decide
      --@L2
      go_loopw [4, 5] (fun v i wr => ∃ k : Nat, k ≤ n ∧ k ≤ 2028 ∧ i = .int .i64 k ∧ Hid (By wL wr v (h.dat.take k))) (fun _ i _ => 2029 - (intOf i).toNat)
      case atStart => exact ⟨0, by omega, by omega, rfl, Lib.hid (by rw [List.take_zero]; exact By.nil_ (fun S => Keeps.refl S wL))⟩
      case round =>
        obtain ⟨k, hkn, hkL, rfl, hy⟩ := hrel
        have HCL : Hid (∀ wq, Keeps (fun _ => False) wr wq → wq.rangeAt w.heap.size 0 (hcs (fitX h) (.slice A n c)) ∧ wq.cell? ⟨w.heap.size, 42, none⟩ = some (.slice A n c) ∧ wq.cell? ⟨w.heap.size, 34, none⟩ = some (.int .u8 (h.pr : Int))) := Lib.hid (fun wq kq => by
          have b := Blk.keeps GL.out ((hy.out.keep _).trans kq) (fun z => z)
          exact ⟨Blk.range b, (HF.of_blk (fitX_wf HWF.out) b).dat, (HF.of_blk (fitX_wf HWF.out) b).pr⟩)
        obtain ⟨s9, hs9⟩ : ∃ s9 : Nat, s9 = 20 + k := ⟨_, rfl⟩
        have e9 : IntKind.i64.wrap ((20 : Int) + (k : Int)) = (s9 : Int) := by rw [wi64 (by omega) (by omega)]; omega
        by_cases hlt : k < n
        · have dlt : (k : Int) < (n : Int) := by omega
          by_cases hl2 : k < 2028
          · have d9 : (s9 : Int) < 2048 := by omega
            obtain ⟨b, o, hA, _, _⟩ := HR.out.byte (getq (bs := h.dat) (k := k) (by have := HLR.out.1; omega))
            subst hA
            clear hs9
            go_wp2_with fail
            --@R
            refine wp_region_held_drew (S := fun w' => w'.rangeAt w.heap.size 0 (hcs (fitX h) (.slice (some ⟨b, o, none⟩) n c)) ∧ w'.cell? ⟨w.heap.size, 42, none⟩ = some (.slice (some ⟨b, o, none⟩) n c) ∧ w'.cell? ⟨w.heap.size, 34, none⟩ = some (.int .u8 (h.pr : Int))) (by kernel_rfl) (HCL.out _ ((Keeps.refl _ wr).drew)) (fun hHeld => ?_)
            refine wpAnyH_take (i := 0) (v := ?_) rfl (by kernel_rfl) (by kernel_rfl) (by kernel_rfl) (fun _ _ _ h => h) (Or.inl ⟨by kernel_rfl, ?_⟩) (by assumption) ?_
            rotate_left
            · (intro w hSw; (try dsimp only at hSw); go_simp) <;> (try (with_reducible rfl))
            try simp only [Act.put, Array.getInternal_eq_getElem, List.getElem_toArray, List.getElem_cons_zero, List.getElem_cons_succ, List.setIfInBounds_toArray, List.set_cons_zero, List.set_cons_succ]
            refine wpAnyH_take (i := 1) (v := ?_) rfl (by kernel_rfl) (by kernel_rfl) (by kernel_rfl) (fun _ _ _ h => h) (Or.inl ⟨by kernel_rfl, ?_⟩) (by assumption) ?_
            rotate_left
            · (intro w hSw; (try dsimp only at hSw); go_simp) <;> (try (with_reducible rfl))
            try simp only [Act.put, Array.getInternal_eq_getElem, List.getElem_toArray, List.getElem_cons_zero, List.getElem_cons_succ, List.setIfInBounds_toArray, List.set_cons_zero, List.set_cons_succ]
            refine wpAnyH_take (i := 2) (v := ?_) rfl (by kernel_rfl) (by kernel_rfl) (by kernel_rfl) (fun _ _ _ h => h) (Or.inl ⟨by kernel_rfl, ?_⟩) (by assumption) ?_
            rotate_left
            · (intro w hSw; have hcell := hSw.2.1; go_simp) <;> (try (with_reducible rfl))
            try simp only [Act.put, Array.getInternal_eq_getElem, List.getElem_toArray, List.getElem_cons_zero, List.getElem_cons_succ, List.setIfInBounds_toArray, List.set_cons_zero, List.set_cons_succ]
            refine wpAnyH_take (i := 3) (v := ?_) rfl (by kernel_rfl) (by kernel_rfl) (by kernel_rfl) (fun _ _ _ h => h) (Or.inl ⟨by kernel_rfl, ?_⟩) (by assumption) ?_
            rotate_left
            · (intro w hSw; (try dsimp only at hSw); go_simp) <;> (try (with_reducible rfl))
            try simp only [Act.put, Array.getInternal_eq_getElem, List.getElem_toArray, List.getElem_cons_zero, List.getElem_cons_succ, List.setIfInBounds_toArray, List.set_cons_zero, List.set_cons_succ]
            refine wpAnyH_take (i := 4) (v := ?_) rfl (by kernel_rfl) (by kernel_rfl) (by kernel_rfl) (fun _ _ _ h => h) (Or.inl ⟨by kernel_rfl, ?_⟩) (by assumption) ?_
            rotate_left
            · (intro w hSw; (try dsimp only at hSw); go_simp) <;> (try (with_reducible rfl))
            try simp only [Act.put, Array.getInternal_eq_getElem, List.getElem_toArray, List.getElem_cons_zero, List.getElem_cons_succ, List.setIfInBounds_toArray, List.set_cons_zero, List.set_cons_succ]
            refine wpAnyH_take (i := 5) (v := ?_) rfl (by kernel_rfl) (by kernel_rfl) (by kernel_rfl) (fun _ _ _ h => h) (Or.inl ⟨by kernel_rfl, ?_⟩) (by assumption) ?_
            rotate_left
            · (intro w hSw; (try dsimp only at hSw); go_simp) <;> (try (with_reducible rfl))
            try simp only [Act.put, Array.getInternal_eq_getElem, List.getElem_toArray, List.getElem_cons_zero, List.getElem_cons_succ, List.setIfInBounds_toArray, List.set_cons_zero, List.set_cons_succ]
            refine' wpAnyH_take (i := 6) (v := _) rfl (by kernel_rfl) (by kernel_rfl) (by kernel_rfl) (fun _ _ _ h => h) (yieldsIf_load_mid (by kernel_rfl) _ _ rfl _ _ rfl _ _ (fun w hSw => hSw.1) Try.underlying29 rfl HSZ.out) (by assumption) ?_
            try simp only [Act.put, Array.getInternal_eq_getElem, List.getElem_toArray, List.getElem_cons_zero, List.getElem_cons_succ, List.setIfInBounds_toArray, List.set_cons_zero, List.set_cons_succ]
            refine wpAnyH_take (i := 8) (v := ?_) rfl (by kernel_rfl) (by kernel_rfl) (by kernel_rfl) (fun _ _ _ h => h) (Or.inl ⟨by kernel_rfl, ?_⟩) (by assumption) ?_
            rotate_left
            · (intro w hSw; (try dsimp only at hSw); go_simp) <;> (try (with_reducible rfl))
            try simp only [Act.put, Array.getInternal_eq_getElem, List.getElem_toArray, List.getElem_cons_zero, List.getElem_cons_succ, List.setIfInBounds_toArray, List.set_cons_zero, List.set_cons_succ]
            refine wpAnyH_take (i := 9) (v := ?_) rfl (by kernel_rfl) (by kernel_rfl) (by kernel_rfl) (fun _ _ _ h => h) (Or.inl ⟨by kernel_rfl, ?_⟩) (by assumption) ?_
            rotate_left
            · (intro w hSw; have hcell := hSw.2.2; go_simp) <;> (try (with_reducible rfl))
            try simp only [Act.put, Array.getInternal_eq_getElem, List.getElem_toArray, List.getElem_cons_zero, List.getElem_cons_succ, List.setIfInBounds_toArray, List.set_cons_zero, List.set_cons_succ]
            refine wpAnyH_take (i := 12) (v := ?_) rfl (by kernel_rfl) (by kernel_rfl) (by kernel_rfl) (fun _ _ _ h => h) (Or.inl ⟨by kernel_rfl, ?_⟩) (by assumption) ?_
            rotate_left
            · (intro w hSw; (try dsimp only at hSw); go_simp) <;> (try (with_reducible rfl))
            try simp only [Act.put, Array.getInternal_eq_getElem, List.getElem_toArray, List.getElem_cons_zero, List.getElem_cons_succ, List.setIfInBounds_toArray, List.set_cons_zero, List.set_cons_succ]
            refine wpAnyH_ready (rs := [7]) (by kernel_rfl) (by simp) ?_
            refine AllReadyH.cons rfl (fun K hK => ?_) AllReadyH.nil
            (rw [if_pos (by kernel_rfl)]; go_simp; go_at_call 33; refine ((HFR _).out).mono ?_; rintro e ua ⟨rfl, ka⟩; have KA := Lib.hid (((Keeps.refl (fun _ => False) wr).drew).trans (ka _)); clear ka)
            refine hK.out _ _ (HCL.out _ KA.out) (fun hHeld => ?_)
            clear hK K
            try simp only [Act.put, Array.getInternal_eq_getElem, List.getElem_toArray, List.getElem_cons_zero, List.getElem_cons_succ, List.setIfInBounds_toArray, List.set_cons_zero, List.set_cons_succ]
            refine wpAnyH_ready (rs := [10]) (by kernel_rfl) (by simp) ?_
            refine AllReadyH.cons rfl (fun K hK => ?_) AllReadyH.nil
            (rw [if_pos (by kernel_rfl)]; go_simp; go_at_call 32; refine ((HM _).out).mono ?_; rintro e wx ⟨rfl, h9⟩; subst wx)
            refine hK.out _ _ (HCL.out _ KA.out) (fun hHeld => ?_)
            clear hK K
            try simp only [Act.put, Array.getInternal_eq_getElem, List.getElem_toArray, List.getElem_cons_zero, List.getElem_cons_succ, List.setIfInBounds_toArray, List.set_cons_zero, List.set_cons_succ]
            refine wpAnyH_take (i := 11) (v := ?_) rfl (by kernel_rfl) (by kernel_rfl) (by kernel_rfl) (fun _ _ _ h => h) (Or.inl ⟨by kernel_rfl, ?_⟩) (by assumption) ?_
            rotate_left
            · (intro w hSw; (try dsimp only at hSw); go_simp) <;> (try (with_reducible rfl))
            try simp only [Act.put, Array.getInternal_eq_getElem, List.getElem_toArray, List.getElem_cons_zero, List.getElem_cons_succ, List.setIfInBounds_toArray, List.set_cons_zero, List.set_cons_succ]
            refine wpAnyH_take (i := 13) (v := ?_) rfl (by kernel_rfl) (by kernel_rfl) (by kernel_rfl) (fun _ _ _ h => h) (Or.inl ⟨by kernel_rfl, ?_⟩) (by assumption) ?_
            rotate_left
            · (intro w hSw; (try dsimp only at hSw); go_simp) <;> (try (with_reducible rfl))
            try simp only [Act.put, Array.getInternal_eq_getElem, List.getElem_toArray, List.getElem_cons_zero, List.getElem_cons_succ, List.setIfInBounds_toArray, List.set_cons_zero, List.set_cons_succ]
            refine wpAnyH_take (i := 14) (v := ?_) rfl (by kernel_rfl) (by kernel_rfl) (by kernel_rfl) (fun _ _ _ h => h) (Or.inl ⟨by kernel_rfl, ?_⟩) (by assumption) ?_
            rotate_left
            · (intro w hSw; (try dsimp only at hSw); go_simp) <;> (try (with_reducible rfl))
            try simp only [Act.put, Array.getInternal_eq_getElem, List.getElem_toArray, List.getElem_cons_zero, List.getElem_cons_succ, List.setIfInBounds_toArray, List.set_cons_zero, List.set_cons_succ]
            refine wpAnyH_take (i := 15) (v := ?_) rfl (by kernel_rfl) (by kernel_rfl) (by kernel_rfl) (fun _ _ _ h => h) (Or.inl ⟨by kernel_rfl, ?_⟩) (by assumption) ?_
            rotate_left
            · (intro w hSw; (try dsimp only at hSw); go_simp) <;> (try (with_reducible rfl))
            try simp only [Act.put, Array.getInternal_eq_getElem, List.getElem_toArray, List.getElem_cons_zero, List.getElem_cons_succ, List.setIfInBounds_toArray, List.set_cons_zero, List.set_cons_succ]
            refine wpAnyH_done ?_ ?_ _
            · kernel_rfl
            have YU := Lib.hid (By.grown hy.out (fun S => (KA.out.mono (fun _ _ z => z.elim))))
            have x42 := (HCL.out _ KA.out).2.1
            have xb := rd_cell (rd_old HR.out ((keeps_own HK2.out PL.out (Nat.le_refl _) (fun _ => False)).trans ((hy.out.keep _).trans KA.out))) (k := k) (by have := HLR.out.1; omega)
            obtain ⟨x, hx⟩ : ∃ x, x = h.dat.getD k 0 := ⟨_, rfl⟩
            rw [← hx] at xb
            have hkl : k < h.dat.length := by have := HLR.out.1; omega
            have hkk : (h.dat.take k).length = k := by rw [List.length_take]; omega
            have HKK := Lib.hid hkk
            have htk : h.dat.take (k + 1) = h.dat.take k ++ [x] := by rw [List.take_succ_eq_append_getElem hkl, hx, List.getD_eq_getElem?_getD, List.getElem?_eq_getElem hkl]; rfl
            have HTK := Lib.hid htk
            clear hx hkl hkk htk
            go_wp2_with ((with_reducible show wpList _ _ _ (⟨some 71, _, _, _, _, _⟩ :: _) _ _); refine By.wpList_append rfl _ _ rfl (YU.out.alloc _) rfl (some ⟨ua.heap.size, 0, none⟩) 1 1 _ [x] rfl rfl (lit_rd ua [x] _ rfl) (by have := HKK.out; simp; omega) ?_; intro v3 w3 y3 k3; have Y3 : Hid (By wL w3 v3 (h.dat.take (k + 1))) := Lib.hid (by rw [HTK.out]; exact y3); clear y3 k3)
            --@RR
            go_roundw
            case rel => exact ⟨k + 1, by omega, by omega, by go_num, Y3⟩
            case measure => simp [intOf]; omega
          · have HKE : Hid (k = 2028) := Lib.hid (by omega)
            have d9 : ¬ (s9 : Int) < 2048 := by omega
            clear hs9
            go_wp2_with fail
            refine wp_region_held_drew (S := fun w' => w'.rangeAt w.heap.size 0 (hcs (fitX h) (.slice A n c)) ∧ w'.cell? ⟨w.heap.size, 42, none⟩ = some (.slice A n c) ∧ w'.cell? ⟨w.heap.size, 34, none⟩ = some (.int .u8 (h.pr : Int))) (by kernel_rfl) (HCL.out _ ((Keeps.refl _ wr).drew)) (fun hHeld => ?_)
            refine wpAnyH_take (i := 0) (v := ?_) rfl (by kernel_rfl) (by kernel_rfl) (by kernel_rfl) (fun _ _ _ h => h) (Or.inl ⟨by kernel_rfl, ?_⟩) (by assumption) ?_
            rotate_left
            · (intro w hSw; (try dsimp only at hSw); go_simp) <;> (try (with_reducible rfl))
            try simp only [Act.put, Array.getInternal_eq_getElem, List.getElem_toArray, List.getElem_cons_zero, List.getElem_cons_succ, List.setIfInBounds_toArray, List.set_cons_zero, List.set_cons_succ]
            refine wpAnyH_take (i := 1) (v := ?_) rfl (by kernel_rfl) (by kernel_rfl) (by kernel_rfl) (fun _ _ _ h => h) (Or.inl ⟨by kernel_rfl, ?_⟩) (by assumption) ?_
            rotate_left
            · (intro w hSw; (try dsimp only at hSw); go_simp) <;> (try (with_reducible rfl))
            try simp only [Act.put, Array.getInternal_eq_getElem, List.getElem_toArray, List.getElem_cons_zero, List.getElem_cons_succ, List.setIfInBounds_toArray, List.set_cons_zero, List.set_cons_succ]
            refine wpAnyH_take (i := 2) (v := ?_) rfl (by kernel_rfl) (by kernel_rfl) (by kernel_rfl) (fun _ _ _ h => h) (Or.inl ⟨by kernel_rfl, ?_⟩) (by assumption) ?_
            rotate_left
            · (intro w hSw; have hcell := hSw.2.1; go_simp) <;> (try (with_reducible rfl))
            try simp only [Act.put, Array.getInternal_eq_getElem, List.getElem_toArray, List.getElem_cons_zero, List.getElem_cons_succ, List.setIfInBounds_toArray, List.set_cons_zero, List.set_cons_succ]
            refine wpAnyH_take (i := 3) (v := ?_) rfl (by kernel_rfl) (by kernel_rfl) (by kernel_rfl) (fun _ _ _ h => h) (Or.inl ⟨by kernel_rfl, ?_⟩) (by assumption) ?_
            rotate_left
            · (intro w hSw; (try dsimp only at hSw); go_simp) <;> (try (with_reducible rfl))
            try simp only [Act.put, Array.getInternal_eq_getElem, List.getElem_toArray, List.getElem_cons_zero, List.getElem_cons_succ, List.setIfInBounds_toArray, List.set_cons_zero, List.set_cons_succ]
            refine wpAnyH_take (i := 4) (v := ?_) rfl (by kernel_rfl) (by kernel_rfl) (by kernel_rfl) (fun _ _ _ h => h) (Or.inl ⟨by kernel_rfl, ?_⟩) (by assumption) ?_
            rotate_left
            · (intro w hSw; (try dsimp only at hSw); go_simp) <;> (try (with_reducible rfl))
            try simp only [Act.put, Array.getInternal_eq_getElem, List.getElem_toArray, List.getElem_cons_zero, List.getElem_cons_succ, List.setIfInBounds_toArray, List.set_cons_zero, List.set_cons_succ]
            refine wpAnyH_take (i := 5) (v := ?_) rfl (by kernel_rfl) (by kernel_rfl) (by kernel_rfl) (fun _ _ _ h => h) (Or.inl ⟨by kernel_rfl, ?_⟩) (by assumption) ?_
            rotate_left
            · (intro w hSw; (try dsimp only at hSw); go_simp) <;> (try (with_reducible rfl))
            try simp only [Act.put, Array.getInternal_eq_getElem, List.getElem_toArray, List.getElem_cons_zero, List.getElem_cons_succ, List.setIfInBounds_toArray, List.set_cons_zero, List.set_cons_succ]
            refine' wpAnyH_take (i := 6) (v := _) rfl (by kernel_rfl) (by kernel_rfl) (by kernel_rfl) (fun _ _ _ h => h) (yieldsIf_load_mid (by kernel_rfl) _ _ rfl _ _ rfl _ _ (fun w hSw => hSw.1) Try.underlying29 rfl HSZ.out) (by assumption) ?_
            try simp only [Act.put, Array.getInternal_eq_getElem, List.getElem_toArray, List.getElem_cons_zero, List.getElem_cons_succ, List.setIfInBounds_toArray, List.set_cons_zero, List.set_cons_succ]
            refine wpAnyH_take (i := 8) (v := ?_) rfl (by kernel_rfl) (by kernel_rfl) (by kernel_rfl) (fun _ _ _ h => h) (Or.inl ⟨by kernel_rfl, ?_⟩) (by assumption) ?_
            rotate_left
            · (intro w hSw; (try dsimp only at hSw); go_simp) <;> (try (with_reducible rfl))
            try simp only [Act.put, Array.getInternal_eq_getElem, List.getElem_toArray, List.getElem_cons_zero, List.getElem_cons_succ, List.setIfInBounds_toArray, List.set_cons_zero, List.set_cons_succ]
            refine wpAnyH_take (i := 9) (v := ?_) rfl (by kernel_rfl) (by kernel_rfl) (by kernel_rfl) (fun _ _ _ h => h) (Or.inl ⟨by kernel_rfl, ?_⟩) (by assumption) ?_
            rotate_left
            · (intro w hSw; have hcell := hSw.2.2; go_simp) <;> (try (with_reducible rfl))
            try simp only [Act.put, Array.getInternal_eq_getElem, List.getElem_toArray, List.getElem_cons_zero, List.getElem_cons_succ, List.setIfInBounds_toArray, List.set_cons_zero, List.set_cons_succ]
            refine wpAnyH_take (i := 12) (v := ?_) rfl (by kernel_rfl) (by kernel_rfl) (by kernel_rfl) (fun _ _ _ h => h) (Or.inl ⟨by kernel_rfl, ?_⟩) (by assumption) ?_
            rotate_left
            · (intro w hSw; (try dsimp only at hSw); go_simp) <;> (try (with_reducible rfl))
            try simp only [Act.put, Array.getInternal_eq_getElem, List.getElem_toArray, List.getElem_cons_zero, List.getElem_cons_succ, List.setIfInBounds_toArray, List.set_cons_zero, List.set_cons_succ]
            refine wpAnyH_ready (rs := [7]) (by kernel_rfl) (by simp) ?_
            refine AllReadyH.cons rfl (fun K hK => ?_) AllReadyH.nil
            (rw [if_pos (by kernel_rfl)]; go_simp; go_at_call 33; refine ((HFR _).out).mono ?_; rintro e ua ⟨rfl, ka⟩; have KA := Lib.hid (((Keeps.refl (fun _ => False) wr).drew).trans (ka _)); clear ka)
            refine hK.out _ _ (HCL.out _ KA.out) (fun hHeld => ?_)
            clear hK K
            try simp only [Act.put, Array.getInternal_eq_getElem, List.getElem_toArray, List.getElem_cons_zero, List.getElem_cons_succ, List.setIfInBounds_toArray, List.set_cons_zero, List.set_cons_succ]
            refine wpAnyH_ready (rs := [10]) (by kernel_rfl) (by simp) ?_
            refine AllReadyH.cons rfl (fun K hK => ?_) AllReadyH.nil
            (rw [if_pos (by kernel_rfl)]; go_simp; go_at_call 32; refine ((HM _).out).mono ?_; rintro e wx ⟨rfl, h9⟩; subst wx)
            refine hK.out _ _ (HCL.out _ KA.out) (fun hHeld => ?_)
            clear hK K
            try simp only [Act.put, Array.getInternal_eq_getElem, List.getElem_toArray, List.getElem_cons_zero, List.getElem_cons_succ, List.setIfInBounds_toArray, List.set_cons_zero, List.set_cons_succ]
            refine wpAnyH_take (i := 11) (v := ?_) rfl (by kernel_rfl) (by kernel_rfl) (by kernel_rfl) (fun _ _ _ h => h) (Or.inl ⟨by kernel_rfl, ?_⟩) (by assumption) ?_
            rotate_left
            · (intro w hSw; (try dsimp only at hSw); go_simp) <;> (try (with_reducible rfl))
            try simp only [Act.put, Array.getInternal_eq_getElem, List.getElem_toArray, List.getElem_cons_zero, List.getElem_cons_succ, List.setIfInBounds_toArray, List.set_cons_zero, List.set_cons_succ]
            refine wpAnyH_take (i := 13) (v := ?_) rfl (by kernel_rfl) (by kernel_rfl) (by kernel_rfl) (fun _ _ _ h => h) (Or.inl ⟨by kernel_rfl, ?_⟩) (by assumption) ?_
            rotate_left
            · (intro w hSw; (try dsimp only at hSw); go_simp) <;> (try (with_reducible rfl))
            try simp only [Act.put, Array.getInternal_eq_getElem, List.getElem_toArray, List.getElem_cons_zero, List.getElem_cons_succ, List.setIfInBounds_toArray, List.set_cons_zero, List.set_cons_succ]
            refine wpAnyH_take (i := 14) (v := ?_) rfl (by kernel_rfl) (by kernel_rfl) (by kernel_rfl) (fun _ _ _ h => h) (Or.inl ⟨by kernel_rfl, ?_⟩) (by assumption) ?_
            rotate_left
            · (intro w hSw; (try dsimp only at hSw); go_simp) <;> (try (with_reducible rfl))
            try simp only [Act.put, Array.getInternal_eq_getElem, List.getElem_toArray, List.getElem_cons_zero, List.getElem_cons_succ, List.setIfInBounds_toArray, List.set_cons_zero, List.set_cons_succ]
            refine wpAnyH_take (i := 15) (v := ?_) rfl (by kernel_rfl) (by kernel_rfl) (by kernel_rfl) (fun _ _ _ h => h) (Or.inl ⟨by kernel_rfl, ?_⟩) (by assumption) ?_
            rotate_left
            · (intro w hSw; (try dsimp only at hSw); go_simp) <;> (try (with_reducible rfl))
            try simp only [Act.put, Array.getInternal_eq_getElem, List.getElem_toArray, List.getElem_cons_zero, List.getElem_cons_succ, List.setIfInBounds_toArray, List.set_cons_zero, List.set_cons_succ]
            refine wpAnyH_done ?_ ?_ _
            · kernel_rfl
            obtain ⟨A5, c5, rfl, r5⟩ := hy.out.rd
            obtain ⟨m5, hm5⟩ : ∃ m5, (h.dat.take k).length = m5 := ⟨_, rfl⟩
            rw [hm5] at hy ⊢
            have ed : (fit h).dat = h.dat.take k := by
              show h.dat.take (2048 - (fsz h + mids h.pr)) = _
              rw [HLR.out.2.2.2, HLR.out.2.2.1]
              rw [HKE.out]
            have kwL : ∀ S, Keeps S w wL := keeps_own HK2.out PL.out (Nat.le_refl _)
            have sL : w.heap.size + 2 ≤ wL.heap.size := by have := PL.out.size; have := HZ.out.lt; omega
            have kx : ∀ S, Keeps S wL ua := fun S => (hy.out.keep S).trans (KA.out.mono (fun _ _ z => z.elim))
            have gx := Blk.keeps GL.out (kx (fun _ => False)) (fun z => z)
            have wfx := fitX_wf HWF.out
            have c42 : (ua).cell? ⟨w.heap.size, 42, none⟩ = some _ := h_cell gx wfx.s wfx.d 8 _ rfl
            have f42 : (ua).frozen? ⟨w.heap.size, 42, none⟩ = false := gx.frozen 42
            have g6 := st_dat gx wfx.s wfx.d (.slice A5 m5 c5) (fit h).dat
            have p6 := keeps_put (G := w.heap.size) (Keeps.refl _ (ua)) 42 (.slice A5 m5 c5)
            obtain ⟨w6, hw6⟩ : ∃ y, y = (ua).setCell ⟨w.heap.size, 42, none⟩ (.slice A5 m5 c5) := ⟨_, rfl⟩
            rw [← hw6] at g6 p6
            have GF : Hid (Blk w6 w.heap.size 29 (hcs (fit h) (.slice A5 m5 c5))) := Lib.hid g6
            have zz := Blk.keeps (Blk.keeps (Blk.keeps HZ.out PL.out (by omega)) (kx (fun _ => False)) (fun z => z)) p6 (by omega)
            obtain ⟨tz, bz, kz⟩ := p_store zz (cs := hcs (fit h) (.slice A5 m5 c5)) (by rw [hcs_len (fit_wf HWF.out)]; rfl)
            have yy : By w (w6.setCells (w.heap.size + 1) 0 (hcs (fit h) (.slice A5 m5 c5))) (.slice A5 m5 c5) (fit h).dat := by
              rw [ed]
              exact past_ (past_ (By.base (By.grown hy.out (fun S => (KA.out.mono (fun _ _ z => z.elim)))) kwL) p6 (Nat.le_refl _) (hy.out.apart (by omega))) kz (by omega) (hy.out.apart (by omega))
            have HTZ := Lib.hid tz
            have HBZ := Lib.hid bz
            have HYY := Lib.hid yy
            have HW6 := Lib.hid hw6
            have HSF := Lib.hid (hd_sz (fit_wf HWF.out) (.slice A5 m5 c5))
            have HSG := Lib.hid (all_oneCell_toArray (hcs_one (h := fit h) (v := .slice A5 m5 c5) rfl))
            clear hw6 g6 p6 zz tz bz kz yy gx kx kwL sL r5 wfx ed
            go_wp2_with (first
              | ((with_reducible show wpList _ _ _ (⟨some 74, _, _, _, _, _⟩ :: _) _ _); (try rw [← HW6.out]); refine wpList_load_mid rfl 29 _ rfl w.heap.size 0 rfl (hcs (fit h) (.slice A5 m5 c5)) _ (Blk.range GF.out) Try.underlying29 rfl HSF.out ?_)
              | ((with_reducible show wpList _ _ _ (⟨none, .store _ (.tmp 2) _, _, _, _, _⟩ :: _) _ _); refine' wpList_store_mid rfl 29 _ _ rfl (w.heap.size + 1) 0 (hcs (fit h) (.slice A5 m5 c5)).toArray ?hx rfl ?ht HSF.out HSG.out ?_; (case hx => rfl); (case ht => exact HTZ.out)))
            try rw [Exit.noGoto_ret]
            refine bodyPost_ret (results_cell_row (p := 2) (ty := 29) (by kernel_rfl) _ _ (w.heap.size + 1) _ _ _ _ (by rfl) HBZ.out Try.underlying29 rfl (by rw [List.size_toArray]; exact HSF.out)) rfl ?_
            exact ⟨_, rfl, HYY.out⟩

        · have dlt : ¬ (k : Int) < (n : Int) := by omega
          clear hs9
          go_wp2_with fail
          refine wp_region_held_drew (S := fun w' => w'.rangeAt w.heap.size 0 (hcs (fitX h) (.slice A n c)) ∧ w'.cell? ⟨w.heap.size, 42, none⟩ = some (.slice A n c) ∧ w'.cell? ⟨w.heap.size, 34, none⟩ = some (.int .u8 (h.pr : Int))) (by kernel_rfl) (HCL.out _ ((Keeps.refl _ wr).drew)) (fun hHeld => ?_)
          refine wpAnyH_take (i := 0) (v := ?_) rfl (by kernel_rfl) (by kernel_rfl) (by kernel_rfl) (fun _ _ _ h => h) (Or.inl ⟨by kernel_rfl, ?_⟩) (by assumption) ?_
          rotate_left
          · (intro w hSw; (try dsimp only at hSw); go_simp) <;> (try (with_reducible rfl))
          try simp only [Act.put, Array.getInternal_eq_getElem, List.getElem_toArray, List.getElem_cons_zero, List.getElem_cons_succ, List.setIfInBounds_toArray, List.set_cons_zero, List.set_cons_succ]
          refine wpAnyH_take (i := 1) (v := ?_) rfl (by kernel_rfl) (by kernel_rfl) (by kernel_rfl) (fun _ _ _ h => h) (Or.inl ⟨by kernel_rfl, ?_⟩) (by assumption) ?_
          rotate_left
          · (intro w hSw; (try dsimp only at hSw); go_simp) <;> (try (with_reducible rfl))
          try simp only [Act.put, Array.getInternal_eq_getElem, List.getElem_toArray, List.getElem_cons_zero, List.getElem_cons_succ, List.setIfInBounds_toArray, List.set_cons_zero, List.set_cons_succ]
          refine wpAnyH_take (i := 2) (v := ?_) rfl (by kernel_rfl) (by kernel_rfl) (by kernel_rfl) (fun _ _ _ h => h) (Or.inl ⟨by kernel_rfl, ?_⟩) (by assumption) ?_
          rotate_left
          · (intro w hSw; have hcell := hSw.2.1; go_simp) <;> (try (with_reducible rfl))
          try simp only [Act.put, Array.getInternal_eq_getElem, List.getElem_toArray, List.getElem_cons_zero, List.getElem_cons_succ, List.setIfInBounds_toArray, List.set_cons_zero, List.set_cons_succ]
          refine wpAnyH_take (i := 3) (v := ?_) rfl (by kernel_rfl) (by kernel_rfl) (by kernel_rfl) (fun _ _ _ h => h) (Or.inl ⟨by kernel_rfl, ?_⟩) (by assumption) ?_
          rotate_left
          · (intro w hSw; (try dsimp only at hSw); go_simp) <;> (try (with_reducible rfl))
          try simp only [Act.put, Array.getInternal_eq_getElem, List.getElem_toArray, List.getElem_cons_zero, List.getElem_cons_succ, List.setIfInBounds_toArray, List.set_cons_zero, List.set_cons_succ]
          refine wpAnyH_take (i := 4) (v := ?_) rfl (by kernel_rfl) (by kernel_rfl) (by kernel_rfl) (fun _ _ _ h => h) (Or.inl ⟨by kernel_rfl, ?_⟩) (by assumption) ?_
          rotate_left
          · (intro w hSw; (try dsimp only at hSw); go_simp) <;> (try (with_reducible rfl))
          try simp only [Act.put, Array.getInternal_eq_getElem, List.getElem_toArray, List.getElem_cons_zero, List.getElem_cons_succ, List.setIfInBounds_toArray, List.set_cons_zero, List.set_cons_succ]
          refine wpAnyH_take (i := 5) (v := ?_) rfl (by kernel_rfl) (by kernel_rfl) (by kernel_rfl) (fun _ _ _ h => h) (Or.inl ⟨by kernel_rfl, ?_⟩) (by assumption) ?_
          rotate_left
          · (intro w hSw; (try dsimp only at hSw); go_simp) <;> (try (with_reducible rfl))
          try simp only [Act.put, Array.getInternal_eq_getElem, List.getElem_toArray, List.getElem_cons_zero, List.getElem_cons_succ, List.setIfInBounds_toArray, List.set_cons_zero, List.set_cons_succ]
          refine wpAnyH_take (i := 6) (v := undef) rfl (by kernel_rfl) (by kernel_rfl) (by kernel_rfl) (fun _ _ _ h => h) (Or.inr ⟨by kernel_rfl, rfl⟩) (by assumption) ?_
          try simp only [Act.put, Array.getInternal_eq_getElem, List.getElem_toArray, List.getElem_cons_zero, List.getElem_cons_succ, List.setIfInBounds_toArray, List.set_cons_zero, List.set_cons_succ]
          refine wpAnyH_take (i := 7) (v := undef) rfl (by kernel_rfl) (by kernel_rfl) (by kernel_rfl) (fun _ _ _ h => h) (Or.inr ⟨by kernel_rfl, rfl⟩) (by assumption) ?_
          try simp only [Act.put, Array.getInternal_eq_getElem, List.getElem_toArray, List.getElem_cons_zero, List.getElem_cons_succ, List.setIfInBounds_toArray, List.set_cons_zero, List.set_cons_succ]
          refine wpAnyH_take (i := 8) (v := undef) rfl (by kernel_rfl) (by kernel_rfl) (by kernel_rfl) (fun _ _ _ h => h) (Or.inr ⟨by kernel_rfl, rfl⟩) (by assumption) ?_
          try simp only [Act.put, Array.getInternal_eq_getElem, List.getElem_toArray, List.getElem_cons_zero, List.getElem_cons_succ, List.setIfInBounds_toArray, List.set_cons_zero, List.set_cons_succ]
          refine wpAnyH_take (i := 9) (v := undef) rfl (by kernel_rfl) (by kernel_rfl) (by kernel_rfl) (fun _ _ _ h => h) (Or.inr ⟨by kernel_rfl, rfl⟩) (by assumption) ?_
          try simp only [Act.put, Array.getInternal_eq_getElem, List.getElem_toArray, List.getElem_cons_zero, List.getElem_cons_succ, List.setIfInBounds_toArray, List.set_cons_zero, List.set_cons_succ]
          refine wpAnyH_take (i := 10) (v := undef) rfl (by kernel_rfl) (by kernel_rfl) (by kernel_rfl) (fun _ _ _ h => h) (Or.inr ⟨by kernel_rfl, rfl⟩) (by assumption) ?_
          try simp only [Act.put, Array.getInternal_eq_getElem, List.getElem_toArray, List.getElem_cons_zero, List.getElem_cons_succ, List.setIfInBounds_toArray, List.set_cons_zero, List.set_cons_succ]
          refine wpAnyH_take (i := 11) (v := undef) rfl (by kernel_rfl) (by kernel_rfl) (by kernel_rfl) (fun _ _ _ h => h) (Or.inr ⟨by kernel_rfl, rfl⟩) (by assumption) ?_
          try simp only [Act.put, Array.getInternal_eq_getElem, List.getElem_toArray, List.getElem_cons_zero, List.getElem_cons_succ, List.setIfInBounds_toArray, List.set_cons_zero, List.set_cons_succ]
          refine wpAnyH_take (i := 12) (v := undef) rfl (by kernel_rfl) (by kernel_rfl) (by kernel_rfl) (fun _ _ _ h => h) (Or.inr ⟨by kernel_rfl, rfl⟩) (by assumption) ?_
          try simp only [Act.put, Array.getInternal_eq_getElem, List.getElem_toArray, List.getElem_cons_zero, List.getElem_cons_succ, List.setIfInBounds_toArray, List.set_cons_zero, List.set_cons_succ]
          refine wpAnyH_take (i := 13) (v := undef) rfl (by kernel_rfl) (by kernel_rfl) (by kernel_rfl) (fun _ _ _ h => h) (Or.inr ⟨by kernel_rfl, rfl⟩) (by assumption) ?_
          try simp only [Act.put, Array.getInternal_eq_getElem, List.getElem_toArray, List.getElem_cons_zero, List.getElem_cons_succ, List.setIfInBounds_toArray, List.set_cons_zero, List.set_cons_succ]
          refine wpAnyH_take (i := 14) (v := undef) rfl (by kernel_rfl) (by kernel_rfl) (by kernel_rfl) (fun _ _ _ h => h) (Or.inr ⟨by kernel_rfl, rfl⟩) (by assumption) ?_
          try simp only [Act.put, Array.getInternal_eq_getElem, List.getElem_toArray, List.getElem_cons_zero, List.getElem_cons_succ, List.setIfInBounds_toArray, List.set_cons_zero, List.set_cons_succ]
          refine wpAnyH_take (i := 15) (v := ?_) rfl (by kernel_rfl) (by kernel_rfl) (by kernel_rfl) (fun _ _ _ h => h) (Or.inl ⟨by kernel_rfl, ?_⟩) (by assumption) ?_
          rotate_left
          · (intro w hSw; (try dsimp only at hSw); go_simp) <;> (try (with_reducible rfl))
          try simp only [Act.put, Array.getInternal_eq_getElem, List.getElem_toArray, List.getElem_cons_zero, List.getElem_cons_succ, List.setIfInBounds_toArray, List.set_cons_zero, List.set_cons_succ]
          refine wpAnyH_done ?_ ?_ _
          · kernel_rfl
          obtain ⟨wq, hwq⟩ : ∃ y, y = wr.drew := ⟨_, rfl⟩
          rw [← hwq]
          have KQ : Hid (∀ S, Keeps S wr wq) := Lib.hid (fun S => by rw [hwq]; exact (Keeps.refl S wr).drew)
          clear hwq
          obtain ⟨A5, c5, rfl, r5⟩ := hy.out.rd
          obtain ⟨m5, hm5⟩ : ∃ m5, (h.dat.take k).length = m5 := ⟨_, rfl⟩
          rw [hm5] at hy ⊢
          have ed : (fit h).dat = h.dat.take k := by
            show h.dat.take (2048 - (fsz h + mids h.pr)) = _
            rw [HLR.out.2.2.2, HLR.out.2.2.1]
            rw [List.take_of_length_le (by have := HLR.out.1; omega), List.take_of_length_le (by have := HLR.out.1; omega)]
          have kwL : ∀ S, Keeps S w wL := keeps_own HK2.out PL.out (Nat.le_refl _)
          have sL : w.heap.size + 2 ≤ wL.heap.size := by have := PL.out.size; have := HZ.out.lt; omega
          have kx : ∀ S, Keeps S wL wq := fun S => (hy.out.keep S).trans (KQ.out S)
          have gx := Blk.keeps GL.out (kx (fun _ => False)) (fun z => z)
          have wfx := fitX_wf HWF.out
          have c42 : (wq).cell? ⟨w.heap.size, 42, none⟩ = some _ := h_cell gx wfx.s wfx.d 8 _ rfl
          have f42 : (wq).frozen? ⟨w.heap.size, 42, none⟩ = false := gx.frozen 42
          have g6 := st_dat gx wfx.s wfx.d (.slice A5 m5 c5) (fit h).dat
          have p6 := keeps_put (G := w.heap.size) (Keeps.refl _ (wq)) 42 (.slice A5 m5 c5)
          obtain ⟨w6, hw6⟩ : ∃ y, y = (wq).setCell ⟨w.heap.size, 42, none⟩ (.slice A5 m5 c5) := ⟨_, rfl⟩
          rw [← hw6] at g6 p6
          have GF : Hid (Blk w6 w.heap.size 29 (hcs (fit h) (.slice A5 m5 c5))) := Lib.hid g6
          have zz := Blk.keeps (Blk.keeps (Blk.keeps HZ.out PL.out (by omega)) (kx (fun _ => False)) (fun z => z)) p6 (by omega)
          obtain ⟨tz, bz, kz⟩ := p_store zz (cs := hcs (fit h) (.slice A5 m5 c5)) (by rw [hcs_len (fit_wf HWF.out)]; rfl)
          have yy : By w (w6.setCells (w.heap.size + 1) 0 (hcs (fit h) (.slice A5 m5 c5))) (.slice A5 m5 c5) (fit h).dat := by
            rw [ed]
            exact past_ (past_ (By.base (By.grown hy.out (fun S => (KQ.out S))) kwL) p6 (Nat.le_refl _) (hy.out.apart (by omega))) kz (by omega) (hy.out.apart (by omega))
          have HTZ := Lib.hid tz
          have HBZ := Lib.hid bz
          have HYY := Lib.hid yy
          have HW6 := Lib.hid hw6
          have HSF := Lib.hid (hd_sz (fit_wf HWF.out) (.slice A5 m5 c5))
          have HSG := Lib.hid (all_oneCell_toArray (hcs_one (h := fit h) (v := .slice A5 m5 c5) rfl))
          clear hw6 g6 p6 zz tz bz kz yy gx kx kwL sL r5 wfx ed
          go_wp2_with (first
            | ((with_reducible show wpList _ _ _ (⟨some 74, _, _, _, _, _⟩ :: _) _ _); (try rw [← HW6.out]); refine wpList_load_mid rfl 29 _ rfl w.heap.size 0 rfl (hcs (fit h) (.slice A5 m5 c5)) _ (Blk.range GF.out) Try.underlying29 rfl HSF.out ?_)
            | ((with_reducible show wpList _ _ _ (⟨none, .store _ (.tmp 2) _, _, _, _, _⟩ :: _) _ _); refine' wpList_store_mid rfl 29 _ _ rfl (w.heap.size + 1) 0 (hcs (fit h) (.slice A5 m5 c5)).toArray ?hx rfl ?ht HSF.out HSG.out ?_; (case hx => rfl); (case ht => exact HTZ.out)))
          try rw [Exit.noGoto_ret]
          refine bodyPost_ret (results_cell_row (p := 2) (ty := 29) (by kernel_rfl) _ _ (w.heap.size + 1) _ _ _ _ (by rfl) HBZ.out Try.underlying29 rfl (by rw [List.size_toArray]; exact HSF.out)) rfl ?_
          exact ⟨_, rfl, HYY.out⟩

end
end Go.Proofs.Ytidengmcbppcoaa.pk
