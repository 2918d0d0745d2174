/-
  PacketKnown: for every input the law returns true and every argument reads afterwards as it read before. No condition but the form's own reach.
-/
import Derived.Test.YtidengmcbppcoaaPlM
import Derived.Test.YtidengmcbppcoaaRows
import Derived.Test.YtidengmcbppcoaaOcOpen
import Derived.ShutString
import Derived.ChangeOld
set_option linter.unusedVariables false
set_option linter.unusedSimpArgs false
namespace Go.Proofs.Ytidengmcbppcoaa.pk
open Go.RowKit Go.Proofs.Ytidengmcbppcoaa.oc Go.Proofs.Ytidengmcbppcoaa.mz Go.Proofs.Ytidengmcbppcoaa.pf Go.Proofs.Ytidengmcbppcoaa.wh Go.Proofs.Ytidengmcbppcoaa.qk Go.Proofs.Ytidengmcbppcoaa.bys
/-- what Make answers -/
noncomputable def mk (h : Hd) : List Nat := if chkE h = 0 then make h else []
/-- with a TTL one less -/
def less (h : Hd) : Hd := ⟨h.src, h.dst, h.pr, h.sp, h.dp, h.ttl - 1, h.cls, h.id, h.fl, h.seq, h.dat⟩
/-- what Older answers -/
noncomputable def old (l : List Nat) : List Nat × Int := if (rdd l).2.2 ≠ 0 then ([], (rdd l).2.2) else if (rdd l).1.ttl = 0 then ([], 3) else (mk (less (rdd l).1), chkE (less (rdd l).1))
theorem less_wf {h : Hd} (hw : h.Wf) : (less h).Wf := ⟨hw.s, hw.d, hw.p, hw.sl, hw.dl, Nat.lt_of_le_of_lt (Nat.sub_le _ _) hw.t, hw.c, hw.i, hw.f, hw.q, hw.b⟩
theorem rdd_dat_le (l : List Nat) {n : Nat} (hl : l.length = n) : (rdd l).1.dat.length ≤ n := by
  have hr : ∀ (h : Hd) (m : List Nat), (rdR h m).1.dat.length ≤ m.length := fun h m => by
    unfold rdR
    split
    · unfold rdT
      repeat' split
      all_goals first | exact Nat.zero_le _ | (show (m.drop 20).length ≤ _; rw [List.length_drop]; omega)
    · split
      · unfold rdU
        repeat' split
        all_goals first | exact Nat.zero_le _ | (show (m.drop 8).length ≤ _; rw [List.length_drop]; omega)
      · exact Nat.le_refl _
  unfold rdd
  split
  · exact Nat.zero_le _
  · split
    · exact Nat.zero_le _
    · refine Nat.le_trans (hr _ _) ?_
      unfold resto
      rw [List.length_take, List.length_drop]
      omega
section
variable (w : World)
theorem make_ (h : Hd) (A : Option Addr) (n c : Nat) (hw : h.Wf) (hl : h.dat.length = n) (hn : n ≤ 140737480000000) (hr : Rd w w.heap.size A (by_ h.dat)) :
    Calls Try.prog 16 #[hvv h (.slice A n c)] w fun e w' => ∃ v, e = .returned (.tuple #[v, .int .i64 (chkE h)]) ∧ By w w' v (mk h) := by
  by_cases hc : chkE h = 0
  · rw [show mk h = make h from if_pos hc, hc]
    rcases p_cases h.pr with e | e | ⟨h6, h7⟩
    · exact make_sum w h A n c hw hl hn hr hc (.inl e)
    · exact make_sum w h A n c hw hl hn hr hc (.inr e)
    · exact make_bare w h A n c hw hl hn hr hc ⟨h6, h7⟩
  · rw [show mk h = [] from if_neg hc]
    exact (make_no w h A n c hw hl hn hr hc).mono fun e w' ⟨he, k⟩ => ⟨.slice none 0 0, he, By.nil_ k⟩
def OA (w w' : World) (e : Ending) (x : List Nat × Int) : Prop := ∃ v, e = .returned (.tuple #[v, .int .i64 x.2]) ∧ By w w' v x.1
set_option maxRecDepth 100000 in
set_option maxHeartbeats 2000000 in
theorem old_e (A : Option Addr) (n c B : Nat) (l : List Nat) (hl : l.length = n) (hn : n ≤ 140737480000000) (hc : n ≤ c) (hc9 : c ≤ 9223372036854775807) (hs : Small l) (hr : Rd w B A (by_ l)) (hB : B ≤ w.heap.size) (he : (rdd l).2.2 ≠ 0) :
    Calls Try.prog 27 #[.slice A n c] w fun e w' => OA w w' e ([], (rdd l).2.2) := by
  have HRD := Lib.hid (read_ w A n c B l hl hn hc hc9 hs hr hB)
  have hxw := rdd_wf hs
  have hlen := rdd_dat_le l hl
  unfold RA at HRD
  obtain ⟨X, hX⟩ : ∃ X, X = rdd l := ⟨_, rfl⟩
  rw [← hX] at HRD hxw he hlen
  try rw [← hX]
  unfold OA
  have d1 : (X.2.2 != 0) = true := bne_iff_ne.2 he
  have HXW := Lib.hid hxw
  have HLE := Lib.hid hlen
  clear hX hxw hs hr hB hl hc hc9 hlen he
  go_enter Try.func27, Try.ntmps27
  go_wp2_with fail
  refine HRD.out.mono ?_
  rintro e w2 ⟨v, rfl, y⟩
  obtain ⟨A3, c3, rfl, r3⟩ := y.rd
  obtain ⟨m, hm⟩ : ∃ m, X.1.dat.length = m := ⟨_, rfl⟩
  rw [hm] at y ⊢
  obtain ⟨wz, hwz, kz, bz, sz⟩ := box1 w2 zhd 29
  dsimp only [zhd] at hwz
  obtain ⟨t3, b3, k3⟩ := p_store bz (cs := hcs X.1 (.slice A3 m c3)) (by rw [hcs_len HXW.out]; rfl)
  obtain ⟨w3, hw3⟩ : ∃ w3, w3 = wz.setCells w2.heap.size 0 (hcs X.1 (.slice A3 m c3)) := ⟨_, rfl⟩
  rw [← hw3] at b3 k3
  have k23 : ∀ S, Keeps S w2 w3 := keeps_own kz k3 (Nat.le_refl _)
  have HT3 := Lib.hid t3
  have HWZ := Lib.hid hwz
  have HW3 := Lib.hid hw3
  have HSZ := Lib.hid (hd_sz HXW.out (.slice A3 m c3))
  have HSO := Lib.hid (all_oneCell_toArray (hcs_one (h := X.1) (v := .slice A3 m c3) rfl))
  have KW3 : Hid (∀ S, Keeps S w w3) := Lib.hid (fun S => (y.keep S).trans (k23 S))
  have R3 : Hid (Rd w3 w2.heap.size A3 (by_ X.1.dat)) := Lib.hid (rd_old r3 (k23 _))
  have HM := Lib.hid hm
  have g37 := (HF.of_blk HXW.out b3).ttl
  have f37 : w3.frozen? ⟨w2.heap.size, 37, none⟩ = false := b3.frozen 37
  have HB3 := Lib.hid b3
  clear hwz kz bz sz t3 b3 k3 hw3 k23 r3 y hm
  go_wp2_with ((with_reducible show wpList _ _ _ (⟨none, .store _ (.tmp 4) _, _, _, _, _⟩ :: _) _ _); (try with_reducible rw [← HWZ.out]); refine' wpList_store_mid rfl 29 _ _ rfl w2.heap.size 0 (hcs X.1 (.slice A3 m c3)).toArray ?hx rfl ?ht HSZ.out HSO.out ?_; (case hx => rfl); (case ht => exact HT3.out); rw [← HW3.out])
  try rw [Exit.noGoto_ret]
  go_ret2
  exact ⟨_, rfl, By.nil_ KW3.out⟩
set_option maxRecDepth 100000 in
set_option maxHeartbeats 2000000 in
theorem old_t (A : Option Addr) (n c B : Nat) (l : List Nat) (hl : l.length = n) (hn : n ≤ 140737480000000) (hc : n ≤ c) (hc9 : c ≤ 9223372036854775807) (hs : Small l) (hr : Rd w B A (by_ l)) (hB : B ≤ w.heap.size) (he : (rdd l).2.2 = 0) (ht : (rdd l).1.ttl = 0) :
    Calls Try.prog 27 #[.slice A n c] w fun e w' => OA w w' e ([], 3) := by
  have HRD := Lib.hid (read_ w A n c B l hl hn hc hc9 hs hr hB)
  have hxw := rdd_wf hs
  have hlen := rdd_dat_le l hl
  unfold RA at HRD
  obtain ⟨X, hX⟩ : ∃ X, X = rdd l := ⟨_, rfl⟩
  rw [← hX] at HRD hxw he hlen ht
  try rw [← hX]
  unfold OA
  have d1 : (X.2.2 != 0) = false := by rw [he]; rfl
  have HXW := Lib.hid hxw
  have HLE := Lib.hid hlen
  clear hX hxw hs hr hB hl hc hc9 hlen he
  go_enter Try.func27, Try.ntmps27
  go_wp2_with fail
  refine HRD.out.mono ?_
  rintro e w2 ⟨v, rfl, y⟩
  obtain ⟨A3, c3, rfl, r3⟩ := y.rd
  obtain ⟨m, hm⟩ : ∃ m, X.1.dat.length = m := ⟨_, rfl⟩
  rw [hm] at y ⊢
  obtain ⟨wz, hwz, kz, bz, sz⟩ := box1 w2 zhd 29
  dsimp only [zhd] at hwz
  obtain ⟨t3, b3, k3⟩ := p_store bz (cs := hcs X.1 (.slice A3 m c3)) (by rw [hcs_len HXW.out]; rfl)
  obtain ⟨w3, hw3⟩ : ∃ w3, w3 = wz.setCells w2.heap.size 0 (hcs X.1 (.slice A3 m c3)) := ⟨_, rfl⟩
  rw [← hw3] at b3 k3
  have k23 : ∀ S, Keeps S w2 w3 := keeps_own kz k3 (Nat.le_refl _)
  have HT3 := Lib.hid t3
  have HWZ := Lib.hid hwz
  have HW3 := Lib.hid hw3
  have HSZ := Lib.hid (hd_sz HXW.out (.slice A3 m c3))
  have HSO := Lib.hid (all_oneCell_toArray (hcs_one (h := X.1) (v := .slice A3 m c3) rfl))
  have KW3 : Hid (∀ S, Keeps S w w3) := Lib.hid (fun S => (y.keep S).trans (k23 S))
  have R3 : Hid (Rd w3 w2.heap.size A3 (by_ X.1.dat)) := Lib.hid (rd_old r3 (k23 _))
  have HM := Lib.hid hm
  have g37 := (HF.of_blk HXW.out b3).ttl
  have f37 : w3.frozen? ⟨w2.heap.size, 37, none⟩ = false := b3.frozen 37
  have HB3 := Lib.hid b3
  rw [ht] at g37
  clear hwz kz bz sz t3 b3 k3 hw3 k23 r3 y hm ht
  go_wp2_with ((with_reducible show wpList _ _ _ (⟨none, .store _ (.tmp 4) _, _, _, _, _⟩ :: _) _ _); (try with_reducible rw [← HWZ.out]); refine' wpList_store_mid rfl 29 _ _ rfl w2.heap.size 0 (hcs X.1 (.slice A3 m c3)).toArray ?hx rfl ?ht HSZ.out HSO.out ?_; (case hx => rfl); (case ht => exact HT3.out); rw [← HW3.out])
  try rw [Exit.noGoto_ret]
  go_ret2
  exact ⟨_, rfl, By.nil_ KW3.out⟩
set_option maxRecDepth 100000 in
set_option maxHeartbeats 2000000 in
theorem old_ok (A : Option Addr) (n c B : Nat) (l : List Nat) (hl : l.length = n) (hn : n ≤ 140737480000000) (hc : n ≤ c) (hc9 : c ≤ 9223372036854775807) (hs : Small l) (hr : Rd w B A (by_ l)) (hB : B ≤ w.heap.size) (he : (rdd l).2.2 = 0) (ht : (rdd l).1.ttl ≠ 0) :
    Calls Try.prog 27 #[.slice A n c] w fun e w' => OA w w' e (mk (less (rdd l).1), chkE (less (rdd l).1)) := by
  have HRD := Lib.hid (read_ w A n c B l hl hn hc hc9 hs hr hB)
  have hxw := rdd_wf hs
  have hlen := rdd_dat_le l hl
  unfold RA at HRD
  obtain ⟨X, hX⟩ : ∃ X, X = rdd l := ⟨_, rfl⟩
  rw [← hX] at HRD hxw he hlen ht
  try rw [← hX]
  unfold OA
  have d1 : (X.2.2 != 0) = false := by rw [he]; rfl
  have HXW := Lib.hid hxw
  have HLE := Lib.hid hlen
  clear hX hxw hs hr hB hl hc hc9 hlen he
  go_enter Try.func27, Try.ntmps27
  go_wp2_with fail
  refine HRD.out.mono ?_
  rintro e w2 ⟨v, rfl, y⟩
  obtain ⟨A3, c3, rfl, r3⟩ := y.rd
  obtain ⟨m, hm⟩ : ∃ m, X.1.dat.length = m := ⟨_, rfl⟩
  rw [hm] at y ⊢
  obtain ⟨wz, hwz, kz, bz, sz⟩ := box1 w2 zhd 29
  dsimp only [zhd] at hwz
  obtain ⟨t3, b3, k3⟩ := p_store bz (cs := hcs X.1 (.slice A3 m c3)) (by rw [hcs_len HXW.out]; rfl)
  obtain ⟨w3, hw3⟩ : ∃ w3, w3 = wz.setCells w2.heap.size 0 (hcs X.1 (.slice A3 m c3)) := ⟨_, rfl⟩
  rw [← hw3] at b3 k3
  have k23 : ∀ S, Keeps S w2 w3 := keeps_own kz k3 (Nat.le_refl _)
  have HT3 := Lib.hid t3
  have HWZ := Lib.hid hwz
  have HW3 := Lib.hid hw3
  have HSZ := Lib.hid (hd_sz HXW.out (.slice A3 m c3))
  have HSO := Lib.hid (all_oneCell_toArray (hcs_one (h := X.1) (v := .slice A3 m c3) rfl))
  have KW3 : Hid (∀ S, Keeps S w w3) := Lib.hid (fun S => (y.keep S).trans (k23 S))
  have R3 : Hid (Rd w3 w2.heap.size A3 (by_ X.1.dat)) := Lib.hid (rd_old r3 (k23 _))
  have HM := Lib.hid hm
  have g37 := (HF.of_blk HXW.out b3).ttl
  have f37 : w3.frozen? ⟨w2.heap.size, 37, none⟩ = false := b3.frozen 37
  have HB3 := Lib.hid b3
  obtain ⟨tt, htt⟩ : ∃ tt, tt = X.1.ttl := ⟨_, rfl⟩
  have ht9 := HXW.out.t
  rw [← htt] at g37 ht ht9
  have d2 : ((tt : Int) == 0) = false := beq_eq_false_iff_ne.2 (by omega)
  obtain ⟨t1, ht1⟩ : ∃ t1, t1 = tt - 1 := ⟨_, rfl⟩
  have e1 : IntKind.u8.wrap ((tt : Int) - 1) = (t1 : Int) := by rw [IntKind.wrap_u8]; omega
  have e2 : ((tt : Int) - 1) % 256 = (t1 : Int) := by omega
  have b4 := st_ttl b3 HXW.out.s HXW.out.d t1
  have p4 := keeps_put (G := w2.heap.size) (Keeps.refl _ w3) 37 (.int .u8 (t1 : Int))
  obtain ⟨w4, hw4⟩ : ∃ w4, w4 = w3.setCell ⟨w2.heap.size, 37, none⟩ (.int .u8 (t1 : Int)) := ⟨_, rfl⟩
  rw [← hw4] at b4 p4
  have g4 : Blk w4 w2.heap.size 29 (hcs (less X.1) (.slice A3 m c3)) := by
    subst ht1 htt
    exact b4
  have kw4 : ∀ S, Keeps S w w4 := keeps_own KW3.out p4 (y.keep (fun _ => False)).size
  have r4 : Rd w4 w4.heap.size A3 (by_ (less X.1).dat) := (rd_put R3.out p4 (Nat.le_refl _)).more (by have := p4.size; have := b3.lt; omega)
  have HG4 := Lib.hid g4
  have HW4 := Lib.hid hw4
  have HSL := Lib.hid (hd_sz (less_wf HXW.out) (.slice A3 m c3))
  have HMK := Lib.hid (make_ w4 (less X.1) A3 m c3 (less_wf HXW.out) HM.out (by have := HLE.out; have := HM.out; omega) r4)
  have KW4 := Lib.hid kw4
  unfold hvv at HMK
  clear hw4 b4 p4 g4 kw4 r4 ht htt ht1
  clear hwz kz bz sz t3 b3 k3 hw3 k23 r3 y hm
  generalize hcs (less X.1) (.slice A3 m c3) = CL at *
  go_wp2_with (first
    | ((with_reducible show wpList _ _ _ (⟨none, .store _ (.tmp 4) _, _, _, _, _⟩ :: _) _ _); (try with_reducible rw [← HWZ.out]); refine' wpList_store_mid rfl 29 _ _ rfl w2.heap.size 0 (hcs X.1 (.slice A3 m c3)).toArray ?hx rfl ?ht HSZ.out HSO.out ?_; (case hx => rfl); (case ht => exact HT3.out); rw [← HW3.out])
    | ((with_reducible show wpList _ _ _ (⟨some 23, _, _, _, _, _⟩ :: _) _ _); (try rw [← HW4.out]); refine wpList_load_mid rfl 29 _ rfl w2.heap.size 0 rfl CL _ (Blk.range HG4.out) Try.underlying29 rfl HSL.out ?_))
  refine HMK.out.mono ?_
  rintro e w5 ⟨v5, rfl, y5⟩
  have Y5 := Lib.hid (y5.base KW4.out)
  clear y5
  go_wp2
  try rw [Exit.noGoto_ret]
  go_ret2
  exact ⟨v5, rfl, Y5.out⟩
theorem older_ (A : Option Addr) (n c B : Nat) (l : List Nat) (hl : l.length = n) (hn : n ≤ 140737480000000) (hc : n ≤ c) (hc9 : c ≤ 9223372036854775807) (hs : Small l) (hr : Rd w B A (by_ l)) (hB : B ≤ w.heap.size) : Calls Try.prog 27 #[.slice A n c] w fun e w' => OA w w' e (old l) := by
  unfold old
  split
  · rename_i he; exact old_e w A n c B l hl hn hc hc9 hs hr hB he
  · rename_i he
    split
    · rename_i ht; exact old_t w A n c B l hl hn hc hc9 hs hr hB (Classical.not_not.1 he) ht
    · rename_i ht; exact old_ok w A n c B l hl hn hc hc9 hs hr hB (Classical.not_not.1 he) ht
end
end Go.Proofs.Ytidengmcbppcoaa.pk
set_option linter.unusedVariables false
set_option linter.unusedSimpArgs false
namespace Go.Proofs.Ytidengmcbppcoaa.pk
open Go.RowKit Go.Proofs.Ytidengmcbppcoaa.oc Go.Proofs.Ytidengmcbppcoaa.mz Go.Proofs.Ytidengmcbppcoaa.pf Go.Proofs.Ytidengmcbppcoaa.wh Go.Proofs.Ytidengmcbppcoaa.qk Go.Proofs.Ytidengmcbppcoaa.bys
theorem rep_sm (n : Nat) : ∀ x ∈ List.replicate n 0, x < 256 := fun x hx => by rw [(List.mem_replicate.1 hx).2]; decide
theorem one_sm : ∀ x ∈ ([1] : List Nat), x < 256 := fun x hx => by simp at hx; omega
def q1 : Hd := ⟨⟨false, pA1⟩, ⟨false, pA2⟩, 1, 7, 53, 64, 0, 0, 0, 0, [1]⟩
theorem q1_wf : q1.Wf := ⟨⟨rfl, hp_wf.s.sm⟩, ⟨rfl, hp_wf.d.sm⟩, by decide, by decide, by decide, by decide, by decide, by decide, by decide, by decide, one_sm⟩
theorem q1_chk : chkE q1 = 2 := by unfold chkE; exact if_pos (fun m => by have h := (m.p rfl).1; cases h)
def q2 : Hd := ⟨⟨false, pA1⟩, ⟨false, pA2⟩, 1, 0, 0, 64, 0, 0, 0, 0, [1]⟩
theorem q2_wf : q2.Wf := ⟨⟨rfl, hp_wf.s.sm⟩, ⟨rfl, hp_wf.d.sm⟩, by decide, by decide, by decide, by decide, by decide, by decide, by decide, by decide, one_sm⟩
theorem q2_chk : chkE q2 = 0 := by
  have hm : May q2 := by
    constructor <;> first | decide | (intro _; decide) | (intro i h1 h2; exact (by decide +kernel : ∀ i : Fin 16, wid q2.src / 8 ≤ i.val → byt q2.src i.val = 0) ⟨i, h2⟩ h1) | (intro i h1 h2; exact (by decide +kernel : ∀ i : Fin 16, wid q2.dst / 8 ≤ i.val → byt q2.dst i.val = 0) ⟨i, h2⟩ h1)
  unfold chkE
  rw [if_neg (fun h => h hm), show q2.dat.length = 1 from rfl]
  decide
def q3 : Hd := ⟨⟨false, pA1⟩, ⟨false, pA2⟩, 17, 7, 53, 64, 0, 65536, 0, 0, [1]⟩
theorem q3_wf : q3.Wf := ⟨⟨rfl, hp_wf.s.sm⟩, ⟨rfl, hp_wf.d.sm⟩, by decide, by decide, by decide, by decide, by decide, by decide, by decide, by decide, one_sm⟩
theorem q3_chk : chkE q3 = 2 := by unfold chkE; exact if_pos (fun m => by have h := m.j rfl; revert h; decide)
def q4 : Hd := ⟨⟨false, pA1⟩, ⟨true, pA2⟩, 17, 7, 53, 64, 0, 0, 0, 0, [1]⟩
theorem q4_wf : q4.Wf := ⟨⟨rfl, hp_wf.s.sm⟩, ⟨rfl, hp_wf.d.sm⟩, by decide, by decide, by decide, by decide, by decide, by decide, by decide, by decide, one_sm⟩
theorem q4_chk : chkE q4 = 2 := by unfold chkE; exact if_pos (fun m => by have h := m.v; cases h)
def q5 : Hd := ⟨⟨false, pA1⟩, ⟨false, pA2⟩, 17, 7, 53, 64, 0, 0, 0, 0, List.replicate 2020 0⟩
theorem q5_wf : q5.Wf := ⟨⟨rfl, hp_wf.s.sm⟩, ⟨rfl, hp_wf.d.sm⟩, by decide, by decide, by decide, by decide, by decide, by decide, by decide, by decide, rep_sm _⟩
theorem q5_chk : chkE q5 = 0 := by
  have hm : May q5 := by
    constructor <;> first | decide | (intro _; decide) | (intro i h1 h2; exact (by decide +kernel : ∀ i : Fin 16, wid q5.src / 8 ≤ i.val → byt q5.src i.val = 0) ⟨i, h2⟩ h1) | (intro i h1 h2; exact (by decide +kernel : ∀ i : Fin 16, wid q5.dst / 8 ≤ i.val → byt q5.dst i.val = 0) ⟨i, h2⟩ h1)
  unfold chkE
  rw [if_neg (fun h => h hm), show q5.dat.length = 2020 from List.length_replicate]
  decide
def q6 : Hd := ⟨⟨false, pA1⟩, ⟨false, pA2⟩, 17, 7, 53, 64, 0, 0, 0, 0, List.replicate 2021 0⟩
theorem q6_wf : q6.Wf := ⟨⟨rfl, hp_wf.s.sm⟩, ⟨rfl, hp_wf.d.sm⟩, by decide, by decide, by decide, by decide, by decide, by decide, by decide, by decide, rep_sm _⟩
theorem q6_chk : chkE q6 = 4 := by
  have hm : May q6 := by
    constructor <;> first | decide | (intro _; decide) | (intro i h1 h2; exact (by decide +kernel : ∀ i : Fin 16, wid q6.src / 8 ≤ i.val → byt q6.src i.val = 0) ⟨i, h2⟩ h1) | (intro i h1 h2; exact (by decide +kernel : ∀ i : Fin 16, wid q6.dst / 8 ≤ i.val → byt q6.dst i.val = 0) ⟨i, h2⟩ h1)
  unfold chkE
  rw [if_neg (fun h => h hm), show q6.dat.length = 2021 from List.length_replicate]
  decide
def oldL : List Nat := [69, 0, 0, 29, 0, 0, 64, 0, 63, 17, 39, 206, 10, 0, 0, 1, 10, 0, 0, 2, 0, 7, 0, 53, 0, 9, 234, 157, 1]
theorem less_chk : chkE (less hp) = 0 := by
  have hm : May (less hp) := by
    constructor <;> first | decide | (intro _; decide) | (intro i h1 h2; exact (by decide +kernel : ∀ i : Fin 16, wid (less hp).src / 8 ≤ i.val → byt (less hp).src i.val = 0) ⟨i, h2⟩ h1) | (intro i h1 h2; exact (by decide +kernel : ∀ i : Fin 16, wid (less hp).dst / 8 ≤ i.val → byt (less hp).dst i.val = 0) ⟨i, h2⟩ h1)
  unfold chkE
  rw [if_neg (fun h => h hm)]
  decide
theorem less_make : make (less hp) = oldL := by decide +kernel
theorem old_wire : old wireL = (oldL, 0) := by
  unfold old
  rw [wire_read]
  dsimp only
  rw [if_neg (by decide), if_neg (by decide), less_chk, show mk (less hp) = make (less hp) from if_pos less_chk, less_make]
def six0 : Hd := ⟨⟨true, z16⟩, ⟨true, z16⟩, 0, 0, 0, 0, 0, 0, 0, 0, []⟩
theorem rr_28 : rdd (wireL.take 28) = (hz, 0, 160) := by
  show _ = _
  kernel_rfl
theorem rr_2 : rdd (wireL.set 28 2) = (hz, 0, 162) := by
  show _ = _
  kernel_rfl
theorem rr_nil : rdd [] = (hz, 0, 160) := by
  show _ = _
  kernel_rfl
theorem rr_0 : rdd [0] = (hz, 0, 161) := by
  show _ = _
  kernel_rfl
theorem rr_45 : rdd [69] = (hz, 0, 160) := by
  show _ = _
  kernel_rfl
theorem rr_46 : rdd ((List.replicate 20 0).set 0 70) = (hz, 0, 161) := by
  show _ = _
  kernel_rfl
theorem rr_60 : rdd ((List.replicate 40 0).set 0 96) = (six0, 40, 0) := by
  show _ = _
  kernel_rfl
theorem made_by (n : Nat) : madeCells #[.int .u8 0] n = (by_ (List.replicate n 0)).toArray := by
  apply Array.ext'
  apply List.ext_getElem?
  intro i
  simp only [madeCells, Array.toList_map, Array.toList_range, List.getElem?_map]
  by_cases hi : i < n
  · simp [hi, Nat.mod_one, by_]
  · simp [hi, by_]
theorem make_bytes (n : Nat) (w : World) (hn : n ≤ 5000) :
    (Instr.makeSlice 27 (.int .i64 (n : Int)) (.int .i64 (n : Int))).run Try.prog w = .ok (.slice (some ⟨w.heap.size, 0, none⟩) n n) (w.alloc (.cells (by_ (List.replicate n 0)).toArray 5)) := by
  obtain ⟨i0, hi0, hx⟩ := Option.map_eq_some_iff.1 bys.byte_info
  simp only [Prod.mk.injEq] at hx
  obtain ⟨hz, hsz, hby⟩ := hx
  have h := run_make (P := Try.prog) w 27 5 i0 _ Try.underlying27 hi0 hz .i64 .i64 (n : Int) (n : Int) (by omega) (Int.le_refl _) (by rw [hby]; omega) (by omega)
  rw [hsz] at h
  have h2 := (by simpa using h : _ = Result.ok (Value.slice (some ⟨w.heap.size, 0, none⟩) n n) (w.alloc (.cells (madeCells (Value.int IntKind.u8 0).cells n) 5)))
  rw [show (Value.int IntKind.u8 0).cells = #[.int .u8 0] from rfl, made_by] at h2
  exact h2
def es (l : List Int) : List Value := l.map (Value.int .i64)
theorem errno_info : (Try.prog.info? 34).map (fun i => (i.zero, i.size, i.bytes)) = some (some (.int .i64 0), 1, 8) := by kernel_rfl
/-- an error is put behind a row of errors -/
theorem er_append {w : World} {ops : Array Oper} {rest : List Oper} {o : Oper} {a : Act} {Q : Exit → Act → World → Prop} (hgd : o.guard = none) (s x : Operand) (base : Nat)
    (ho : o.op = .call { callee := .builtin .append, args := #[s, x], argTypes := #[56, 56] }) (v : Value) (n : Nat) (l : List Int) (hs : a.eval s = v) (hown : w.ownsRow base 34 1 v n (es l)) (hb : base ≤ w.heap.size)
    (A : Option Addr) (c B : Nat) (z : Int) (hx : a.eval x = .slice A 1 c) (hr : Rd w B A (es [z])) (hn : n ≤ 100)
    (hk : ∀ v' w', w'.ownsRow base 34 1 v' (n + 1) (es (l ++ [z])) → Keeps (fun b => v.ownBlock = some b) w w' → wpList Try.prog ops Q rest (a.put o.dst v') w') : wpList Try.prog ops Q (o :: rest) a w := by
  obtain ⟨i0, hi0, hz0, hz1, hz2⟩ := info_parts errno_info
  refine wpList_app hgd s x 56 ho base 34 i0 _ 8 Try.underlying56 hi0 hz0 hz1 hz2 rfl v n (es l) hs hown B A 1 c (es [z]) hx hr rfl (fun u hu => by simp [es] at hu; rw [hu]; rfl) (by omega) (by omega) hb ?_
  intro v' w' h1 hg _
  refine hk v' w' (by rw [show es (l ++ [z]) = es l ++ es [z] from by simp [es]]; exact h1) (Keeps.of_grown hg)
theorem er_cell {w : World} {base g n c : Nat} {l : List Int} (h : w.ownsRow base 34 1 (.slice (some ⟨g, 0, none⟩) n c) n (es l)) {i : Nat} {z : Int} (hz : l[i]? = some z) : w.cell? ⟨g, i, none⟩ = some (.int .i64 z) := by
  have := h.cells (g := g) rfl i (.int .i64 z) (by simp [es, hz])
  rwa [Addr.add_lit, Nat.zero_add] at this
end Go.Proofs.Ytidengmcbppcoaa.pk
set_option linter.unusedVariables false
set_option linter.unusedSimpArgs false
namespace Go.Proofs.Ytidengmcbppcoaa.pk
open Go.RowKit Go.Proofs.Ytidengmcbppcoaa.oc Go.Proofs.Ytidengmcbppcoaa.mz Go.Proofs.Ytidengmcbppcoaa.pf Go.Proofs.Ytidengmcbppcoaa.wh Go.Proofs.Ytidengmcbppcoaa.qk Go.Proofs.Ytidengmcbppcoaa.bys
theorem below_k {w w1 : World} (k : ∀ S, Keeps S w w1) : Below w.heap.size w w1 := ⟨(k (fun _ => False)).same.1, (k (fun _ => False)).same.2, (k (fun _ => False)).same.3, (k (fun _ => False)).size, fun b hb => (k (fun _ => False)).block b hb (fun z => z)⟩
theorem six0_wf : six0.Wf := ⟨⟨rfl, z16_sm⟩, ⟨rfl, z16_sm⟩, by decide, by decide, by decide, by decide, by decide, by decide, by decide, by decide, fun x hx => by cases hx⟩
theorem keeps_er {w w0 w1 : World} {P : Nat → Prop} (k : ∀ S, Keeps S w w0) (k2 : Keeps P w0 w1) (hP : ∀ b, P b → w.heap.size ≤ b) : ∀ S, Keeps S w w1 := fun S => ⟨Nat.le_trans (k S).size k2.size, fun x hx hn => by rw [k2.block x (Nat.lt_of_lt_of_le hx (k S).size) (fun h => by have := hP x h; omega), (k S).block x hx hn], (k S).same.trans k2.same⟩
theorem take28_small : Small (wireL.take 28) := wire_small.take 28
theorem set28_small : Small (wireL.set 28 2) := fun x hx => by
  rcases List.mem_or_eq_of_mem_set hx with q | q
  · exact wire_small x q
  · omega
section
variable (w : World)
set_option maxRecDepth 100000 in
set_option maxHeartbeats 8000000 in
theorem walk_packetKnown : Calls Try.prog 10 #[] w fun e w' => e = .returned (.bool true) ∧ Below w.heap.size w w' := by
  suffices hh : Calls Try.prog 10 #[] w fun e w' => e = .returned (.bool true) ∧ ∀ S, Keeps S w w' from hh.mono fun e w' ⟨h1, h2⟩ => ⟨h1, below_k h2⟩
  go_enter Try.func10, Try.ntmps10
  go_wp2_with fail
  refine (wire_ w).mono ?_
  rintro e w1 ⟨v, rfl, y1⟩
  obtain ⟨g1, c1, rfl, hg1, hl1⟩ := y1.form (by decide)
  rw [show wireL.length = 29 from rfl] at y1 ⊢
  have hc1 : 29 ≤ c1 := by_cap y1 rfl
  have hc19 := by_cap9 y1
  have R1 : Hid (∀ u, Keeps (fun _ => False) w1 u → Rd u (g1 + 1) (some ⟨g1, 0, none⟩) (by_ wireL)) := Lib.hid (fun u hu => rd_old (by_rd0 y1) hu)
  have HL1 := Lib.hid hl1
  have K1 := Lib.hid y1.keep
  have qs1 : ∀ u, (Instr.slice 27 (.slice (some ⟨g1, 0, none⟩) 29 c1) none (some (.int .i64 28)) none).run Try.prog u = .ok (.slice (some ⟨g1, 0, none⟩) 28 c1) u := fun u => cut_h (some ⟨g1, 0, none⟩) 29 c1 28 (by omega) u
  have HRa := Lib.hid (read_ w1 (some ⟨g1, 0, none⟩) 28 c1 (g1 + 1) (wireL.take 28) rfl (by omega) (by omega) hc19 take28_small (rd_take (by_rd0 y1) 28) (by omega))
  rw [rr_28] at HRa
  unfold RA at HRa
  clear y1 hg1 hl1
  go_wp2_with fail
  refine HRa.out.mono ?_
  rintro e w2 ⟨va, rfl, ya⟩
  obtain ⟨Aa, ca, rfl, ra⟩ := ya.rd
  rw [show hz.dat.length = 0 from rfl]
  have KYa := Lib.hid ya.keep
  clear ra ya
  obtain ⟨wza, hwza, kza, bza, sza⟩ := box1 w2 zhd 29
  dsimp only [zhd] at hwza
  obtain ⟨ta, ba, ka⟩ := p_store bza (cs := hcs hz (.slice Aa 0 ca)) rfl
  obtain ⟨w3, hwa⟩ : ∃ y, y = wza.setCells w2.heap.size 0 (hcs hz (.slice Aa 0 ca)) := ⟨_, rfl⟩
  rw [← hwa] at ba ka
  have kka : ∀ S, Keeps S w2 w3 := keeps_own kza ka (Nat.le_refl _)
  have HTa := Lib.hid ta
  have HWZa := Lib.hid hwza
  have HWa := Lib.hid hwa
  have HBa := Lib.hid ba
  have KKa := Lib.hid kka
  have HSZa : Hid ((Try.prog.info? 29).map (·.size) = some (hcs hz (.slice Aa 0 ca)).length) := Lib.hid zhd_info
  have HSOa := Lib.hid (all_oneCell_toArray (hcs_one (h := hz) (v := (.slice Aa 0 ca)) rfl))
  clear hwza kza bza sza ta ba ka hwa kka
  have KA3 : Hid (∀ S, Keeps S w1 w3) := Lib.hid (fun S => (KYa.out S).trans (KKa.out S))
  go_wp2_with (first
    | ((with_reducible show wpList _ _ _ (⟨none, .store _ (.tmp 2) _, _, _, _, _⟩ :: _) _ _); (try with_reducible rw [← HWZa.out]); refine' wpList_store_mid rfl 29 _ _ rfl w2.heap.size 0 (hcs hz (.slice Aa 0 ca)).toArray ?hx rfl ?ht HSZa.out HSOa.out ?_; (case hx => rfl); (case ht => exact HTa.out); rw [← HWa.out]))
  refine (wire_ _).mono ?_
  rintro e w4 ⟨v, rfl, y4⟩
  obtain ⟨g5, c5, rfl, hg5, hl5⟩ := y4.form (by decide)
  rw [show wireL.length = 29 from rfl] at y4 ⊢
  have hc5 : 29 ≤ c5 := by_cap y4 rfl
  have hc59 := by_cap9 y4
  have x28 := y4.cell (i := 28) (x := 1) rfl
  have f28 := y4.frozen 28
  have y5 := y4.set (i := 28) (by decide) 2
  obtain ⟨w5, hw5⟩ : ∃ y, y = w4.setCell ⟨g5, 28, none⟩ (.int .u8 2) := ⟨_, rfl⟩
  replace y5 : By w3 w5 (.slice (some ⟨g5, 0, none⟩) 29 c5) (wireL.set 28 2) := by rw [hw5]; exact y5
  have HW5 := Lib.hid hw5
  have hl55 : g5 + 1 ≤ w5.heap.size := (y5.own.lt g5 rfl).2
  have KA5 : Hid (∀ S, Keeps S w1 w5) := Lib.hid (fun S => (KA3.out S).trans (y5.keep S))
  have HRb := Lib.hid (read_ w5 (some ⟨g5, 0, none⟩) 29 c5 (g5 + 1) (wireL.set 28 2) rfl (by omega) hc5 hc59 set28_small (by_rd0 y5) hl55)
  rw [rr_2] at HRb
  unfold RA at HRb
  clear y4 y5 hg5 hl5 hw5 hl55
  go_wp2_with fail
  try rw [← HW5.out]
  clear x28 f28
  refine HRb.out.mono ?_
  rintro e w6 ⟨vb, rfl, yb⟩
  obtain ⟨Ab, cb, rfl, rb⟩ := yb.rd
  rw [show hz.dat.length = 0 from rfl]
  have KYb := Lib.hid yb.keep
  clear rb yb
  obtain ⟨wzb, hwzb, kzb, bzb, szb⟩ := box1 w6 zhd 29
  dsimp only [zhd] at hwzb
  obtain ⟨tb, bb, kb⟩ := p_store bzb (cs := hcs hz (.slice Ab 0 cb)) rfl
  obtain ⟨w7, hwb⟩ : ∃ y, y = wzb.setCells w6.heap.size 0 (hcs hz (.slice Ab 0 cb)) := ⟨_, rfl⟩
  rw [← hwb] at bb kb
  have kkb : ∀ S, Keeps S w6 w7 := keeps_own kzb kb (Nat.le_refl _)
  have HTb := Lib.hid tb
  have HWZb := Lib.hid hwzb
  have HWb := Lib.hid hwb
  have HBb := Lib.hid bb
  have KKb := Lib.hid kkb
  have HSZb : Hid ((Try.prog.info? 29).map (·.size) = some (hcs hz (.slice Ab 0 cb)).length) := Lib.hid zhd_info
  have HSOb := Lib.hid (all_oneCell_toArray (hcs_one (h := hz) (v := (.slice Ab 0 cb)) rfl))
  clear hwzb kzb bzb szb tb bb kb hwb kkb
  have KA7 : Hid (∀ S, Keeps S w1 w7) := Lib.hid (fun S => ((KA5.out S).trans (KYb.out S)).trans (KKb.out S))
  have HO := Lib.hid (older_ w7 (some ⟨g1, 0, none⟩) 29 c1 (g1 + 1) wireL rfl (by omega) hc1 hc19 wire_small (R1.out w7 (KA7.out _)) (by have := HL1.out; have := (KA7.out (fun _ => False)).size; omega))
  rw [old_wire] at HO
  unfold OA at HO
  go_wp2_with (first
    | ((with_reducible show wpList _ _ _ (⟨none, .store _ (.tmp 6) _, _, _, _, _⟩ :: _) _ _); (try with_reducible rw [← HWZb.out]); refine' wpList_store_mid rfl 29 _ _ rfl w6.heap.size 0 (hcs hz (.slice Ab 0 cb)).toArray ?hx rfl ?ht HSZb.out HSOb.out ?_; (case hx => rfl); (case ht => exact HTb.out); rw [← HWb.out]))
  refine HO.out.mono ?_
  rintro e w8 ⟨v, rfl, y8⟩
  dsimp only at y8 ⊢
  obtain ⟨g8, c8, rfl, hg8, hl8⟩ := y8.form (by decide)
  rw [show oldL.length = 29 from rfl] at y8 ⊢
  have z8 := y8.cell (i := 8) (x := 63) rfl
  have z10 := y8.cell (i := 10) (x := 39) rfl
  have z11 := y8.cell (i := 11) (x := 206) rfl
  have KA8 : Hid (∀ S, Keeps S w1 w8) := Lib.hid (fun S => (KA7.out S).trans (y8.keep S))
  clear y8 hg8 hl8
  go_wp2_with fail
  refine (plain_ _).mono ?_
  rintro e w9 ⟨Ap, cp, rfl, yp⟩
  clear z8 z10 z11
  unfold hvv
  have KYp := Lib.hid yp.keep
  clear yp
  obtain ⟨wzp, hwzp, kzp, bzp, szp⟩ := box1 w9 zhd 29
  dsimp only [zhd] at hwzp
  obtain ⟨tp, bp, kp⟩ := p_store bzp (cs := hcs hp (.slice Ap 1 cp)) rfl
  obtain ⟨x0, hwp⟩ : ∃ y, y = wzp.setCells w9.heap.size 0 (hcs hp (.slice Ap 1 cp)) := ⟨_, rfl⟩
  rw [← hwp] at bp kp
  have kkp : ∀ S, Keeps S w9 x0 := keeps_own kzp kp (Nat.le_refl _)
  have HTp := Lib.hid tp
  have HWZp := Lib.hid hwzp
  have HWp := Lib.hid hwp
  have HBp := Lib.hid bp
  have KKp := Lib.hid kkp
  have HSZp : Hid ((Try.prog.info? 29).map (·.size) = some (hcs hp (.slice Ap 1 cp)).length) := Lib.hid zhd_info
  have HSOp := Lib.hid (all_oneCell_toArray (hcs_one (h := hp) (v := (.slice Ap 1 cp)) rfl))
  clear hwzp kzp bzp szp tp bp kp hwp kkp
  have KX0 : Hid (∀ S, Keeps S w1 x0) := Lib.hid (fun S => ((KA8.out S).trans (KYp.out S)).trans (KKp.out S))
  have hq0 : w9.heap.size < x0.heap.size := HBp.out.lt
  have HQ0 := Lib.hid hq0
  have E0 : Hid (x0.ownsRow x0.heap.size 34 1 (.slice none 0 0) 0 (es [])) := Lib.hid (World.ownsRow_nil x0 _ _ _)
  clear hq0
  have cx00 : (x0).cell? ⟨w9.heap.size, 34, none⟩ = some _ := h_cell (HBp.out) hp_wf.s hp_wf.d 0 _ rfl
  have fx00 : (x0).frozen? ⟨w9.heap.size, 34, none⟩ = false := (HBp.out).frozen 34
  have gg00 := st_pr (HBp.out) hp_wf.s hp_wf.d 1
  have pp00 := keeps_put (G := w9.heap.size) (Keeps.refl _ x0) 34 (.int .u8 1)
  obtain ⟨x1a, hx0⟩ : ∃ y, y = (x0).setCell ⟨w9.heap.size, 34, none⟩ (.int .u8 1) := ⟨_, rfl⟩
  have GG0 : Hid (Blk x1a w9.heap.size 29 (hcs q1 (.slice Ap 1 cp))) := Lib.hid (by rw [hx0]; exact gg00)
  have PP0 : Hid (Keeps (· = w9.heap.size) x0 x1a) := Lib.hid (by rw [hx0]; exact pp00)
  have HX0 := Lib.hid hx0
  have KX0a : Hid (∀ S, Keeps S w1 x1a) := Lib.hid (keeps_own KX0.out PP0.out ((KA8.out (fun _ => False)).trans (KYp.out _)).size)
  have EE0 : Hid (x1a.ownsRow x0.heap.size 34 1 (.slice none 0 0) 0 (es [])) := Lib.hid (owns_keeps E0.out PP0.out (fun b hb hz => by have := (E0.out.lt b hb).1; have := HQ0.out; omega))
  have KJ0 : Hid (Keeps (fun b => w9.heap.size ≤ b) x0 x1a) := Lib.hid ((PP0.out.mono (fun b _ hb => by rw [hb]; exact Nat.le_refl _)))
  have HCK0 := Lib.hid (pchk_ x1a q1 Ap 1 cp q1_wf rfl (by omega))
  rw [q1_chk] at HCK0
  unfold hvv at HCK0
  have HSY0 : Hid ((Try.prog.info? 29).map (·.size) = some (hcs q1 (.slice Ap 1 cp)).length) := Lib.hid zhd_info
  clear hx0 gg00 pp00
  go_wp2_with (first
    | ((with_reducible show wpList _ _ _ (⟨none, .store _ (.tmp 13) _, _, _, _, _⟩ :: _) _ _); (try with_reducible rw [← HWZp.out]); refine' wpList_store_mid rfl 29 _ _ rfl w9.heap.size 0 (hcs hp (.slice Ap 1 cp)).toArray ?hx rfl ?ht HSZp.out HSOp.out ?_; (case hx => rfl); (case ht => exact HTp.out); rw [← HWp.out])
    | ((with_reducible show wpList _ _ _ (⟨some 83, _, _, _, _, _⟩ :: _) _ _); (try rw [← HX0.out]); refine wpList_load_mid rfl 29 _ rfl w9.heap.size 0 rfl (hcs q1 (.slice Ap 1 cp)) _ (Blk.range GG0.out) Try.underlying29 rfl HSY0.out ?_))
  refine HCK0.out.mono ?_
  rintro e x1b ⟨rfl, kb0⟩
  clear cx00 fx00
  obtain ⟨x1c, hc0, kc0, bc0, sc0⟩ := box1 x1b (es [2]) 34
  replace hc0 : x1c = x1b.alloc (.cells #[.int .i64 2] 34) := hc0
  have kbc0 : ∀ S, Keeps S x1a x1c := fun S => (kb0 S).trans (kc0 S)
  have ER0 : Hid (x1c.ownsRow x0.heap.size 34 1 (.slice none 0 0) 0 (es [])) := Lib.hid (owns_keeps EE0.out (kbc0 (fun _ => False)) (fun _ _ z => z))
  have RC0 : Hid (Rd x1c (x1b.heap.size + 1) (some ⟨x1b.heap.size, 0, none⟩) (es [2])) := Lib.hid (fun j v hj => ⟨x1b.heap.size, 0, rfl, Nat.lt_succ_self _, by rw [Nat.zero_add, bc0.cell]; exact hj⟩)
  have GC0 := Lib.hid (Blk.keeps GG0.out (kbc0 (fun _ => False)) (fun z => z))
  have KC0 : Hid (∀ S, Keeps S w1 x1c) := Lib.hid (fun S => (KX0a.out S).trans (kbc0 S))
  have KD0 : Hid (Keeps (fun b => w9.heap.size ≤ b) x0 x1c) := Lib.hid (KJ0.out.trans (kbc0 _))
  have HC0 := Lib.hid hc0
  clear kb0 hc0 kc0 bc0 sc0 kbc0
  go_wp2_with (first
    | (
      (with_reducible show wpList _ _ _ (⟨some 86, _, _, _, _, _⟩ :: _) _ _)
      try rw [← HC0.out]
      refine er_append rfl _ _ x0.heap.size rfl (.slice none 0 0) 0 [] rfl ER0.out (by have := KD0.out.size; omega) (some ⟨x1b.heap.size, 0, none⟩) 1 _ 2 rfl RC0.out (by decide) ?_
      intro v0r x1 ho0 hk0
      have EO0 : Hid (x1.ownsRow x0.heap.size 34 1 v0r 1 (es [2])) := Lib.hid ho0
      have KE0 : Hid (∀ S, Keeps S w1 x1) := Lib.hid (keeps_er KC0.out hk0 (fun b hb => by have h1 := (ER0.out.lt b hb).1; have h2 := (KX0.out (fun _ => False)).size; omega))
      have GE0 := Lib.hid (Blk.keeps GC0.out hk0 (fun hb => by have h1 := (ER0.out.lt _ hb).1; have h2 := HQ0.out; omega))
      have KI0z : Hid (Keeps (fun b => w9.heap.size ≤ b) x0 x1) := Lib.hid (KD0.out.trans (hk0.mono (fun b _ hb => by have h1 := (ER0.out.lt b hb).1; have h2 := HQ0.out; omega)))
      clear ho0 hk0
      have cx10 : (x1).cell? ⟨w9.heap.size, 35, none⟩ = some _ := h_cell (GE0.out) hp_wf.s hp_wf.d 1 _ rfl
      have fx10 : (x1).frozen? ⟨w9.heap.size, 35, none⟩ = false := (GE0.out).frozen 35
      have gg10 := st_sp (GE0.out) hp_wf.s hp_wf.d 0
      have pp10 := keeps_put (G := w9.heap.size) (Keeps.refl _ x1) 35 (.int .u16 0)
      have cx11 : ((x1).setCell ⟨w9.heap.size, 35, none⟩ (.int .u16 0)).cell? ⟨w9.heap.size, 36, none⟩ = some _ := h_cell (gg10) hp_wf.s hp_wf.d 2 _ rfl
      have fx11 : ((x1).setCell ⟨w9.heap.size, 35, none⟩ (.int .u16 0)).frozen? ⟨w9.heap.size, 36, none⟩ = false := (gg10).frozen 36
      have gg11 := st_dp (gg10) hp_wf.s hp_wf.d 0
      have pp11 := keeps_put (G := w9.heap.size) pp10 36 (.int .u16 0)
      obtain ⟨x2a, hx1⟩ : ∃ y, y = ((x1).setCell ⟨w9.heap.size, 35, none⟩ (.int .u16 0)).setCell ⟨w9.heap.size, 36, none⟩ (.int .u16 0) := ⟨_, rfl⟩
      have GG1 : Hid (Blk x2a w9.heap.size 29 (hcs q2 (.slice Ap 1 cp))) := Lib.hid (by rw [hx1]; exact gg11)
      have PP1 : Hid (Keeps (· = w9.heap.size) x1 x2a) := Lib.hid (by rw [hx1]; exact pp11)
      have HX1 := Lib.hid hx1
      have KX1a : Hid (∀ S, Keeps S w1 x2a) := Lib.hid (keeps_own KE0.out PP1.out ((KA8.out (fun _ => False)).trans (KYp.out _)).size)
      have EE1 : Hid (x2a.ownsRow x0.heap.size 34 1 v0r 1 (es [2])) := Lib.hid (owns_keeps EO0.out PP1.out (fun b hb hz => by have := (EO0.out.lt b hb).1; have := HQ0.out; omega))
      have KJ1 : Hid (Keeps (fun b => w9.heap.size ≤ b) x0 x2a) := Lib.hid (KI0z.out.trans (PP1.out.mono (fun b _ hb => by rw [hb]; exact Nat.le_refl _)))
      have HCK1 := Lib.hid (pchk_ x2a q2 Ap 1 cp q2_wf rfl (by omega))
      rw [q2_chk] at HCK1
      unfold hvv at HCK1
      have HSY1 : Hid ((Try.prog.info? 29).map (·.size) = some (hcs q2 (.slice Ap 1 cp)).length) := Lib.hid zhd_info
      clear hx1 gg10 pp10 gg11 pp11)
    | ((with_reducible show wpList _ _ _ (⟨some 90, _, _, _, _, _⟩ :: _) _ _); (try rw [← HX1.out]); refine wpList_load_mid rfl 29 _ rfl w9.heap.size 0 rfl (hcs q2 (.slice Ap 1 cp)) _ (Blk.range GG1.out) Try.underlying29 rfl HSY1.out ?_))
  refine HCK1.out.mono ?_
  rintro e x2b ⟨rfl, kb1⟩
  clear cx10 fx10 cx11 fx11
  obtain ⟨x2c, hc1, kc1, bc1, sc1⟩ := box1 x2b (es [0]) 34
  replace hc1 : x2c = x2b.alloc (.cells #[.int .i64 0] 34) := hc1
  have kbc1 : ∀ S, Keeps S x2a x2c := fun S => (kb1 S).trans (kc1 S)
  have ER1 : Hid (x2c.ownsRow x0.heap.size 34 1 v0r 1 (es [2])) := Lib.hid (owns_keeps EE1.out (kbc1 (fun _ => False)) (fun _ _ z => z))
  have RC1 : Hid (Rd x2c (x2b.heap.size + 1) (some ⟨x2b.heap.size, 0, none⟩) (es [0])) := Lib.hid (fun j v hj => ⟨x2b.heap.size, 0, rfl, Nat.lt_succ_self _, by rw [Nat.zero_add, bc1.cell]; exact hj⟩)
  have GC1 := Lib.hid (Blk.keeps GG1.out (kbc1 (fun _ => False)) (fun z => z))
  have KC1 : Hid (∀ S, Keeps S w1 x2c) := Lib.hid (fun S => (KX1a.out S).trans (kbc1 S))
  have KD1 : Hid (Keeps (fun b => w9.heap.size ≤ b) x0 x2c) := Lib.hid (KJ1.out.trans (kbc1 _))
  have HC1 := Lib.hid hc1
  clear kb1 hc1 kc1 bc1 sc1 kbc1
  go_wp2_with (first
    | (
      (with_reducible show wpList _ _ _ (⟨some 93, _, _, _, _, _⟩ :: _) _ _)
      try rw [← HC1.out]
      refine er_append rfl _ _ x0.heap.size rfl v0r 1 [2] rfl ER1.out (by have := KD1.out.size; omega) (some ⟨x2b.heap.size, 0, none⟩) 1 _ 0 rfl RC1.out (by decide) ?_
      intro v1r x2 ho1 hk1
      have EO1 : Hid (x2.ownsRow x0.heap.size 34 1 v1r 2 (es [2, 0])) := Lib.hid ho1
      have KE1 : Hid (∀ S, Keeps S w1 x2) := Lib.hid (keeps_er KC1.out hk1 (fun b hb => by have h1 := (ER1.out.lt b hb).1; have h2 := (KX0.out (fun _ => False)).size; omega))
      have GE1 := Lib.hid (Blk.keeps GC1.out hk1 (fun hb => by have h1 := (ER1.out.lt _ hb).1; have h2 := HQ0.out; omega))
      have KI1z : Hid (Keeps (fun b => w9.heap.size ≤ b) x0 x2) := Lib.hid (KD1.out.trans (hk1.mono (fun b _ hb => by have h1 := (ER1.out.lt b hb).1; have h2 := HQ0.out; omega)))
      clear ho1 hk1))
  refine (plain_ _).mono ?_
  rintro e u2 ⟨Ap2, cp2, rfl, yp2⟩
  unfold hvv
  have gb2 := Blk.keeps GE1.out (yp2.keep (fun _ => False)) (fun z => z)
  obtain ⟨tp2, bp2, kp2⟩ := p_store gb2 (cs := hcs hp (.slice Ap2 1 cp2)) rfl
  obtain ⟨s2, hs2⟩ : ∃ y, y = u2.setCells w9.heap.size 0 (hcs hp (.slice Ap2 1 cp2)) := ⟨_, rfl⟩
  rw [← hs2] at bp2 kp2
  have HTp2 := Lib.hid tp2
  have HSp2 := Lib.hid hs2
  have HBp2 := Lib.hid bp2
  have HSZp2 : Hid ((Try.prog.info? 29).map (·.size) = some (hcs hp (.slice Ap2 1 cp2)).length) := Lib.hid zhd_info
  have HSOp2 := Lib.hid (all_oneCell_toArray (hcs_one (h := hp) (v := .slice Ap2 1 cp2) rfl))
  have kk2 : Keeps (· = w9.heap.size) x2 s2 := (yp2.keep _).trans kp2
  have KXs2 : Hid (∀ S, Keeps S w1 s2) := Lib.hid (keeps_own KE1.out kk2 ((KA8.out (fun _ => False)).trans (KYp.out _)).size)
  have Es2 : Hid (s2.ownsRow x0.heap.size 34 1 v1r 2 (es [2, 0])) := Lib.hid (owns_keeps EO1.out kk2 (fun b hb hz => by have := (EO1.out.lt b hb).1; have := HQ0.out; omega))
  have KI2 : Hid (Keeps (fun b => w9.heap.size ≤ b) x0 s2) := Lib.hid (KI1z.out.trans (kk2.mono (fun b _ hb => by rw [hb]; exact Nat.le_refl _)))
  clear gb2 tp2 bp2 kp2 hs2 kk2 yp2
  have cx20 : (s2).cell? ⟨w9.heap.size, 39, none⟩ = some _ := h_cell (HBp2.out) hp_wf.s hp_wf.d 5 _ rfl
  have fx20 : (s2).frozen? ⟨w9.heap.size, 39, none⟩ = false := (HBp2.out).frozen 39
  have gg20 := st_id (HBp2.out) hp_wf.s hp_wf.d 65536
  have pp20 := keeps_put (G := w9.heap.size) (Keeps.refl _ s2) 39 (.int .u32 65536)
  obtain ⟨x3a, hx2⟩ : ∃ y, y = (s2).setCell ⟨w9.heap.size, 39, none⟩ (.int .u32 65536) := ⟨_, rfl⟩
  have GG2 : Hid (Blk x3a w9.heap.size 29 (hcs q3 (.slice Ap2 1 cp2))) := Lib.hid (by rw [hx2]; exact gg20)
  have PP2 : Hid (Keeps (· = w9.heap.size) s2 x3a) := Lib.hid (by rw [hx2]; exact pp20)
  have HX2 := Lib.hid hx2
  have KX2a : Hid (∀ S, Keeps S w1 x3a) := Lib.hid (keeps_own KXs2.out PP2.out ((KA8.out (fun _ => False)).trans (KYp.out _)).size)
  have EE2 : Hid (x3a.ownsRow x0.heap.size 34 1 v1r 2 (es [2, 0])) := Lib.hid (owns_keeps Es2.out PP2.out (fun b hb hz => by have := (Es2.out.lt b hb).1; have := HQ0.out; omega))
  have KJ2 : Hid (Keeps (fun b => w9.heap.size ≤ b) x0 x3a) := Lib.hid (KI2.out.trans (PP2.out.mono (fun b _ hb => by rw [hb]; exact Nat.le_refl _)))
  have HCK2 := Lib.hid (pchk_ x3a q3 Ap2 1 cp2 q3_wf rfl (by omega))
  rw [q3_chk] at HCK2
  unfold hvv at HCK2
  have HSY2 : Hid ((Try.prog.info? 29).map (·.size) = some (hcs q3 (.slice Ap2 1 cp2)).length) := Lib.hid zhd_info
  clear hx2 gg20 pp20
  go_wp2_with (first
    | ((with_reducible show wpList _ _ _ (⟨none, .store _ (.tmp 13) _, _, _, _, _⟩ :: _) _ _); refine' wpList_store_mid rfl 29 _ _ rfl w9.heap.size 0 (hcs hp (.slice Ap2 1 cp2)).toArray ?hx rfl ?ht HSZp2.out HSOp2.out ?_; (case hx => rfl); (case ht => exact HTp2.out); rw [← HSp2.out])
    | ((with_reducible show wpList _ _ _ (⟨some 97, _, _, _, _, _⟩ :: _) _ _); (try rw [← HX2.out]); refine wpList_load_mid rfl 29 _ rfl w9.heap.size 0 rfl (hcs q3 (.slice Ap2 1 cp2)) _ (Blk.range GG2.out) Try.underlying29 rfl HSY2.out ?_))
  refine HCK2.out.mono ?_
  rintro e x3b ⟨rfl, kb2⟩
  clear cx20 fx20
  obtain ⟨x3c, hc2, kc2, bc2, sc2⟩ := box1 x3b (es [2]) 34
  replace hc2 : x3c = x3b.alloc (.cells #[.int .i64 2] 34) := hc2
  have kbc2 : ∀ S, Keeps S x3a x3c := fun S => (kb2 S).trans (kc2 S)
  have ER2 : Hid (x3c.ownsRow x0.heap.size 34 1 v1r 2 (es [2, 0])) := Lib.hid (owns_keeps EE2.out (kbc2 (fun _ => False)) (fun _ _ z => z))
  have RC2 : Hid (Rd x3c (x3b.heap.size + 1) (some ⟨x3b.heap.size, 0, none⟩) (es [2])) := Lib.hid (fun j v hj => ⟨x3b.heap.size, 0, rfl, Nat.lt_succ_self _, by rw [Nat.zero_add, bc2.cell]; exact hj⟩)
  have GC2 := Lib.hid (Blk.keeps GG2.out (kbc2 (fun _ => False)) (fun z => z))
  have KC2 : Hid (∀ S, Keeps S w1 x3c) := Lib.hid (fun S => (KX2a.out S).trans (kbc2 S))
  have KD2 : Hid (Keeps (fun b => w9.heap.size ≤ b) x0 x3c) := Lib.hid (KJ2.out.trans (kbc2 _))
  have HC2 := Lib.hid hc2
  clear kb2 hc2 kc2 bc2 sc2 kbc2
  go_wp2_with (first
    | (
      (with_reducible show wpList _ _ _ (⟨some 100, _, _, _, _, _⟩ :: _) _ _)
      try rw [← HC2.out]
      refine er_append rfl _ _ x0.heap.size rfl v1r 2 [2, 0] rfl ER2.out (by have := KD2.out.size; omega) (some ⟨x3b.heap.size, 0, none⟩) 1 _ 2 rfl RC2.out (by decide) ?_
      intro v2r x3 ho2 hk2
      have EO2 : Hid (x3.ownsRow x0.heap.size 34 1 v2r 3 (es [2, 0, 2])) := Lib.hid ho2
      have KE2 : Hid (∀ S, Keeps S w1 x3) := Lib.hid (keeps_er KC2.out hk2 (fun b hb => by have h1 := (ER2.out.lt b hb).1; have h2 := (KX0.out (fun _ => False)).size; omega))
      have GE2 := Lib.hid (Blk.keeps GC2.out hk2 (fun hb => by have h1 := (ER2.out.lt _ hb).1; have h2 := HQ0.out; omega))
      have KI2z : Hid (Keeps (fun b => w9.heap.size ≤ b) x0 x3) := Lib.hid (KD2.out.trans (hk2.mono (fun b _ hb => by have h1 := (ER2.out.lt b hb).1; have h2 := HQ0.out; omega)))
      clear ho2 hk2))
  refine (plain_ _).mono ?_
  rintro e u3 ⟨Ap3, cp3, rfl, yp3⟩
  unfold hvv
  have gb3 := Blk.keeps GE2.out (yp3.keep (fun _ => False)) (fun z => z)
  obtain ⟨tp3, bp3, kp3⟩ := p_store gb3 (cs := hcs hp (.slice Ap3 1 cp3)) rfl
  obtain ⟨s3, hs3⟩ : ∃ y, y = u3.setCells w9.heap.size 0 (hcs hp (.slice Ap3 1 cp3)) := ⟨_, rfl⟩
  rw [← hs3] at bp3 kp3
  have HTp3 := Lib.hid tp3
  have HSp3 := Lib.hid hs3
  have HBp3 := Lib.hid bp3
  have HSZp3 : Hid ((Try.prog.info? 29).map (·.size) = some (hcs hp (.slice Ap3 1 cp3)).length) := Lib.hid zhd_info
  have HSOp3 := Lib.hid (all_oneCell_toArray (hcs_one (h := hp) (v := .slice Ap3 1 cp3) rfl))
  have kk3 : Keeps (· = w9.heap.size) x3 s3 := (yp3.keep _).trans kp3
  have KXs3 : Hid (∀ S, Keeps S w1 s3) := Lib.hid (keeps_own KE2.out kk3 ((KA8.out (fun _ => False)).trans (KYp.out _)).size)
  have Es3 : Hid (s3.ownsRow x0.heap.size 34 1 v2r 3 (es [2, 0, 2])) := Lib.hid (owns_keeps EO2.out kk3 (fun b hb hz => by have := (EO2.out.lt b hb).1; have := HQ0.out; omega))
  have KI3 : Hid (Keeps (fun b => w9.heap.size ≤ b) x0 s3) := Lib.hid (KI2z.out.trans (kk3.mono (fun b _ hb => by rw [hb]; exact Nat.le_refl _)))
  clear gb3 tp3 bp3 kp3 hs3 kk3 yp3
  have cx30 : s3.cell? ⟨w9.heap.size, 17, none⟩ = some _ := c_dv6 HBp3.out hp_wf.s
  have fx30 : s3.frozen? ⟨w9.heap.size, 17, none⟩ = false := (HBp3.out).frozen 17
  have gg30 := st_dv6 HBp3.out hp_wf.s true
  have pp30 := keeps_put (G := w9.heap.size) (Keeps.refl _ s3) 17 (.bool true)
  obtain ⟨x4a, hx3⟩ : ∃ y, y = s3.setCell ⟨w9.heap.size, 17, none⟩ (.bool true) := ⟨_, rfl⟩
  have GG3 : Hid (Blk x4a w9.heap.size 29 (hcs q4 (.slice Ap3 1 cp3))) := Lib.hid (by rw [hx3]; exact gg30)
  have PP3 : Hid (Keeps (· = w9.heap.size) s3 x4a) := Lib.hid (by rw [hx3]; exact pp30)
  have HX3 := Lib.hid hx3
  have KX3a : Hid (∀ S, Keeps S w1 x4a) := Lib.hid (keeps_own KXs3.out PP3.out ((KA8.out (fun _ => False)).trans (KYp.out _)).size)
  have EE3 : Hid (x4a.ownsRow x0.heap.size 34 1 v2r 3 (es [2, 0, 2])) := Lib.hid (owns_keeps Es3.out PP3.out (fun b hb hz => by have := (Es3.out.lt b hb).1; have := HQ0.out; omega))
  have KJ3 : Hid (Keeps (fun b => w9.heap.size ≤ b) x0 x4a) := Lib.hid (KI3.out.trans (PP3.out.mono (fun b _ hb => by rw [hb]; exact Nat.le_refl _)))
  have HCK3 := Lib.hid (pchk_ x4a q4 Ap3 1 cp3 q4_wf rfl (by omega))
  rw [q4_chk] at HCK3
  unfold hvv at HCK3
  have HSY3 : Hid ((Try.prog.info? 29).map (·.size) = some (hcs q4 (.slice Ap3 1 cp3)).length) := Lib.hid zhd_info
  clear hx3 gg30 pp30
  go_wp2_with (first
    | ((with_reducible show wpList _ _ _ (⟨none, .store _ (.tmp 13) _, _, _, _, _⟩ :: _) _ _); refine' wpList_store_mid rfl 29 _ _ rfl w9.heap.size 0 (hcs hp (.slice Ap3 1 cp3)).toArray ?hx rfl ?ht HSZp3.out HSOp3.out ?_; (case hx => rfl); (case ht => exact HTp3.out); rw [← HSp3.out])
    | ((with_reducible show wpList _ _ _ (⟨some 105, _, _, _, _, _⟩ :: _) _ _); (try rw [← HX3.out]); refine wpList_load_mid rfl 29 _ rfl w9.heap.size 0 rfl (hcs q4 (.slice Ap3 1 cp3)) _ (Blk.range GG3.out) Try.underlying29 rfl HSY3.out ?_))
  refine HCK3.out.mono ?_
  rintro e x4b ⟨rfl, kb3⟩
  clear cx30 fx30
  obtain ⟨x4c, hc3, kc3, bc3, sc3⟩ := box1 x4b (es [2]) 34
  replace hc3 : x4c = x4b.alloc (.cells #[.int .i64 2] 34) := hc3
  have kbc3 : ∀ S, Keeps S x4a x4c := fun S => (kb3 S).trans (kc3 S)
  have ER3 : Hid (x4c.ownsRow x0.heap.size 34 1 v2r 3 (es [2, 0, 2])) := Lib.hid (owns_keeps EE3.out (kbc3 (fun _ => False)) (fun _ _ z => z))
  have RC3 : Hid (Rd x4c (x4b.heap.size + 1) (some ⟨x4b.heap.size, 0, none⟩) (es [2])) := Lib.hid (fun j v hj => ⟨x4b.heap.size, 0, rfl, Nat.lt_succ_self _, by rw [Nat.zero_add, bc3.cell]; exact hj⟩)
  have GC3 := Lib.hid (Blk.keeps GG3.out (kbc3 (fun _ => False)) (fun z => z))
  have KC3 : Hid (∀ S, Keeps S w1 x4c) := Lib.hid (fun S => (KX3a.out S).trans (kbc3 S))
  have KD3 : Hid (Keeps (fun b => w9.heap.size ≤ b) x0 x4c) := Lib.hid (KJ3.out.trans (kbc3 _))
  have HC3 := Lib.hid hc3
  clear kb3 hc3 kc3 bc3 sc3 kbc3
  go_wp2_with (first
    | (
      (with_reducible show wpList _ _ _ (⟨some 108, _, _, _, _, _⟩ :: _) _ _)
      try rw [← HC3.out]
      refine er_append rfl _ _ x0.heap.size rfl v2r 3 [2, 0, 2] rfl ER3.out (by have := KD3.out.size; omega) (some ⟨x4b.heap.size, 0, none⟩) 1 _ 2 rfl RC3.out (by decide) ?_
      intro v3r x4 ho3 hk3
      have EO3 : Hid (x4.ownsRow x0.heap.size 34 1 v3r 4 (es [2, 0, 2, 2])) := Lib.hid ho3
      have KE3 : Hid (∀ S, Keeps S w1 x4) := Lib.hid (keeps_er KC3.out hk3 (fun b hb => by have h1 := (ER3.out.lt b hb).1; have h2 := (KX0.out (fun _ => False)).size; omega))
      have GE3 := Lib.hid (Blk.keeps GC3.out hk3 (fun hb => by have h1 := (ER3.out.lt _ hb).1; have h2 := HQ0.out; omega))
      have KI3z : Hid (Keeps (fun b => w9.heap.size ≤ b) x0 x4) := Lib.hid (KD3.out.trans (hk3.mono (fun b _ hb => by have h1 := (ER3.out.lt b hb).1; have h2 := HQ0.out; omega)))
      clear ho3 hk3))
  refine (plain_ _).mono ?_
  rintro e u4 ⟨Ap4, cp4, rfl, yp4⟩
  unfold hvv
  have gb4 := Blk.keeps GE3.out (yp4.keep (fun _ => False)) (fun z => z)
  obtain ⟨tp4, bp4, kp4⟩ := p_store gb4 (cs := hcs hp (.slice Ap4 1 cp4)) rfl
  obtain ⟨s4, hs4⟩ : ∃ y, y = u4.setCells w9.heap.size 0 (hcs hp (.slice Ap4 1 cp4)) := ⟨_, rfl⟩
  rw [← hs4] at bp4 kp4
  have HTp4 := Lib.hid tp4
  have HSp4 := Lib.hid hs4
  have HBp4 := Lib.hid bp4
  have HSZp4 : Hid ((Try.prog.info? 29).map (·.size) = some (hcs hp (.slice Ap4 1 cp4)).length) := Lib.hid zhd_info
  have HSOp4 := Lib.hid (all_oneCell_toArray (hcs_one (h := hp) (v := .slice Ap4 1 cp4) rfl))
  have kk4 : Keeps (· = w9.heap.size) x4 s4 := (yp4.keep _).trans kp4
  have KXs4 : Hid (∀ S, Keeps S w1 s4) := Lib.hid (keeps_own KE3.out kk4 ((KA8.out (fun _ => False)).trans (KYp.out _)).size)
  have Es4 : Hid (s4.ownsRow x0.heap.size 34 1 v3r 4 (es [2, 0, 2, 2])) := Lib.hid (owns_keeps EO3.out kk4 (fun b hb hz => by have := (EO3.out.lt b hb).1; have := HQ0.out; omega))
  have KI4 : Hid (Keeps (fun b => w9.heap.size ≤ b) x0 s4) := Lib.hid (KI3z.out.trans (kk4.mono (fun b _ hb => by rw [hb]; exact Nat.le_refl _)))
  clear gb4 tp4 bp4 kp4 hs4 kk4 yp4
  have hmk4 : ∀ u, (Instr.makeSlice 27 (.int .i64 2020) (.int .i64 2020)).run Try.prog u = .ok (.slice (some ⟨u.heap.size, 0, none⟩) 2020 2020) (u.alloc (.cells (by_ (List.replicate 2020 0)).toArray 5)) := fun u => make_bytes 2020 u (by omega)
  obtain ⟨m4, hm4, km4, bm4, sm4⟩ := box1 s4 (by_ (List.replicate 2020 0)) 5
  obtain ⟨ob4, hob4⟩ : ∃ y : Obj, y = .cells (by_ (List.replicate 2020 0)).toArray 5 := ⟨_, rfl⟩
  rw [← hob4] at hm4
  simp only [← hob4] at hmk4
  have gm4 := Blk.keeps HBp4.out (km4 (fun _ => False)) (fun z => z)
  have cx40 : m4.cell? ⟨w9.heap.size, 42, none⟩ = some _ := h_cell gm4 hp_wf.s hp_wf.d 8 _ rfl
  have fx40 : m4.frozen? ⟨w9.heap.size, 42, none⟩ = false := gm4.frozen 42
  have gg40 := st_dat gm4 hp_wf.s hp_wf.d (.slice (some ⟨s4.heap.size, 0, none⟩) 2020 2020) (List.replicate 2020 0)
  have pp40 := keeps_put (G := w9.heap.size) (km4 (· = w9.heap.size)) 42 (.slice (some ⟨s4.heap.size, 0, none⟩) 2020 2020)
  obtain ⟨x5a, hx4⟩ : ∃ y, y = m4.setCell ⟨w9.heap.size, 42, none⟩ (.slice (some ⟨s4.heap.size, 0, none⟩) 2020 2020) := ⟨_, rfl⟩
  have GG4 : Hid (Blk x5a w9.heap.size 29 (hcs q5 (.slice (some ⟨s4.heap.size, 0, none⟩) 2020 2020))) := Lib.hid (by rw [hx4]; exact gg40)
  have PP4 : Hid (Keeps (· = w9.heap.size) s4 x5a) := Lib.hid (by rw [hx4]; exact pp40)
  rw [hm4] at hx4 cx40 fx40
  have HX4 := Lib.hid hx4
  have KX4a : Hid (∀ S, Keeps S w1 x5a) := Lib.hid (keeps_own KXs4.out PP4.out ((KA8.out (fun _ => False)).trans (KYp.out _)).size)
  have EE4 : Hid (x5a.ownsRow x0.heap.size 34 1 v3r 4 (es [2, 0, 2, 2])) := Lib.hid (owns_keeps Es4.out PP4.out (fun b hb hz => by have := (Es4.out.lt b hb).1; have := HQ0.out; omega))
  have KJ4 : Hid (Keeps (fun b => w9.heap.size ≤ b) x0 x5a) := Lib.hid (KI4.out.trans (PP4.out.mono (fun b _ hb => by rw [hb]; exact Nat.le_refl _)))
  have HCK4 := Lib.hid (pchk_ x5a q5 (some ⟨s4.heap.size, 0, none⟩) 2020 2020 q5_wf List.length_replicate (by omega))
  rw [q5_chk] at HCK4
  unfold hvv at HCK4
  have HSY4 : Hid ((Try.prog.info? 29).map (·.size) = some (hcs q5 (.slice (some ⟨s4.heap.size, 0, none⟩) 2020 2020)).length) := Lib.hid zhd_info
  clear hx4 gg40 pp40 km4 bm4 sm4 gm4 hm4 hob4
  go_wp2_with (first
    | ((with_reducible show wpList _ _ _ (⟨none, .store _ (.tmp 13) _, _, _, _, _⟩ :: _) _ _); refine' wpList_store_mid rfl 29 _ _ rfl w9.heap.size 0 (hcs hp (.slice Ap4 1 cp4)).toArray ?hx rfl ?ht HSZp4.out HSOp4.out ?_; (case hx => rfl); (case ht => exact HTp4.out); rw [← HSp4.out])
    | ((with_reducible show wpList _ _ _ (⟨some 113, _, _, _, _, _⟩ :: _) _ _); (try rw [← HX4.out]); refine wpList_load_mid rfl 29 _ rfl w9.heap.size 0 rfl (hcs q5 (.slice (some ⟨s4.heap.size, 0, none⟩) 2020 2020)) _ (Blk.range GG4.out) Try.underlying29 rfl HSY4.out ?_))
  refine HCK4.out.mono ?_
  rintro e x5b ⟨rfl, kb4⟩
  clear cx40 fx40 hmk4
  obtain ⟨x5c, hc4, kc4, bc4, sc4⟩ := box1 x5b (es [0]) 34
  replace hc4 : x5c = x5b.alloc (.cells #[.int .i64 0] 34) := hc4
  have kbc4 : ∀ S, Keeps S x5a x5c := fun S => (kb4 S).trans (kc4 S)
  have ER4 : Hid (x5c.ownsRow x0.heap.size 34 1 v3r 4 (es [2, 0, 2, 2])) := Lib.hid (owns_keeps EE4.out (kbc4 (fun _ => False)) (fun _ _ z => z))
  have RC4 : Hid (Rd x5c (x5b.heap.size + 1) (some ⟨x5b.heap.size, 0, none⟩) (es [0])) := Lib.hid (fun j v hj => ⟨x5b.heap.size, 0, rfl, Nat.lt_succ_self _, by rw [Nat.zero_add, bc4.cell]; exact hj⟩)
  have GC4 := Lib.hid (Blk.keeps GG4.out (kbc4 (fun _ => False)) (fun z => z))
  have KC4 : Hid (∀ S, Keeps S w1 x5c) := Lib.hid (fun S => (KX4a.out S).trans (kbc4 S))
  have KD4 : Hid (Keeps (fun b => w9.heap.size ≤ b) x0 x5c) := Lib.hid (KJ4.out.trans (kbc4 _))
  have HC4 := Lib.hid hc4
  clear kb4 hc4 kc4 bc4 sc4 kbc4
  go_wp2_with (first
    | (
      (with_reducible show wpList _ _ _ (⟨some 116, _, _, _, _, _⟩ :: _) _ _)
      try rw [← HC4.out]
      refine er_append rfl _ _ x0.heap.size rfl v3r 4 [2, 0, 2, 2] rfl ER4.out (by have := KD4.out.size; omega) (some ⟨x5b.heap.size, 0, none⟩) 1 _ 0 rfl RC4.out (by decide) ?_
      intro v4r x5 ho4 hk4
      have EO4 : Hid (x5.ownsRow x0.heap.size 34 1 v4r 5 (es [2, 0, 2, 2, 0])) := Lib.hid ho4
      have KE4 : Hid (∀ S, Keeps S w1 x5) := Lib.hid (keeps_er KC4.out hk4 (fun b hb => by have h1 := (ER4.out.lt b hb).1; have h2 := (KX0.out (fun _ => False)).size; omega))
      have GE4 := Lib.hid (Blk.keeps GC4.out hk4 (fun hb => by have h1 := (ER4.out.lt _ hb).1; have h2 := HQ0.out; omega))
      have KI4z : Hid (Keeps (fun b => w9.heap.size ≤ b) x0 x5) := Lib.hid (KD4.out.trans (hk4.mono (fun b _ hb => by have h1 := (ER4.out.lt b hb).1; have h2 := HQ0.out; omega)))
      clear ho4 hk4
      have hmk5 : ∀ u, (Instr.makeSlice 27 (.int .i64 2021) (.int .i64 2021)).run Try.prog u = .ok (.slice (some ⟨u.heap.size, 0, none⟩) 2021 2021) (u.alloc (.cells (by_ (List.replicate 2021 0)).toArray 5)) := fun u => make_bytes 2021 u (by omega)
      obtain ⟨m5, hm5, km5, bm5, sm5⟩ := box1 x5 (by_ (List.replicate 2021 0)) 5
      obtain ⟨ob5, hob5⟩ : ∃ y : Obj, y = .cells (by_ (List.replicate 2021 0)).toArray 5 := ⟨_, rfl⟩
      rw [← hob5] at hm5
      simp only [← hob5] at hmk5
      have gm5 := Blk.keeps GE4.out (km5 (fun _ => False)) (fun z => z)
      have cx50 : m5.cell? ⟨w9.heap.size, 42, none⟩ = some _ := h_cell gm5 hp_wf.s hp_wf.d 8 _ rfl
      have fx50 : m5.frozen? ⟨w9.heap.size, 42, none⟩ = false := gm5.frozen 42
      have gg50 := st_dat gm5 hp_wf.s hp_wf.d (.slice (some ⟨x5.heap.size, 0, none⟩) 2021 2021) (List.replicate 2021 0)
      have pp50 := keeps_put (G := w9.heap.size) (km5 (· = w9.heap.size)) 42 (.slice (some ⟨x5.heap.size, 0, none⟩) 2021 2021)
      obtain ⟨x6a, hx5⟩ : ∃ y, y = m5.setCell ⟨w9.heap.size, 42, none⟩ (.slice (some ⟨x5.heap.size, 0, none⟩) 2021 2021) := ⟨_, rfl⟩
      have GG5 : Hid (Blk x6a w9.heap.size 29 (hcs q6 (.slice (some ⟨x5.heap.size, 0, none⟩) 2021 2021))) := Lib.hid (by rw [hx5]; exact gg50)
      have PP5 : Hid (Keeps (· = w9.heap.size) x5 x6a) := Lib.hid (by rw [hx5]; exact pp50)
      rw [hm5] at hx5 cx50 fx50
      have HX5 := Lib.hid hx5
      have KX5a : Hid (∀ S, Keeps S w1 x6a) := Lib.hid (keeps_own KE4.out PP5.out ((KA8.out (fun _ => False)).trans (KYp.out _)).size)
      have EE5 : Hid (x6a.ownsRow x0.heap.size 34 1 v4r 5 (es [2, 0, 2, 2, 0])) := Lib.hid (owns_keeps EO4.out PP5.out (fun b hb hz => by have := (EO4.out.lt b hb).1; have := HQ0.out; omega))
      have KJ5 : Hid (Keeps (fun b => w9.heap.size ≤ b) x0 x6a) := Lib.hid (KI4z.out.trans (PP5.out.mono (fun b _ hb => by rw [hb]; exact Nat.le_refl _)))
      have HCK5 := Lib.hid (pchk_ x6a q6 (some ⟨x5.heap.size, 0, none⟩) 2021 2021 q6_wf List.length_replicate (by omega))
      rw [q6_chk] at HCK5
      unfold hvv at HCK5
      have HSY5 : Hid ((Try.prog.info? 29).map (·.size) = some (hcs q6 (.slice (some ⟨x5.heap.size, 0, none⟩) 2021 2021)).length) := Lib.hid zhd_info
      clear hx5 gg50 pp50 km5 bm5 sm5 gm5 hm5 hob5)
    | ((with_reducible show wpList _ _ _ (⟨some 120, _, _, _, _, _⟩ :: _) _ _); (try rw [← HX5.out]); refine wpList_load_mid rfl 29 _ rfl w9.heap.size 0 rfl (hcs q6 (.slice (some ⟨x5.heap.size, 0, none⟩) 2021 2021)) _ (Blk.range GG5.out) Try.underlying29 rfl HSY5.out ?_))
  refine HCK5.out.mono ?_
  rintro e x6b ⟨rfl, kb5⟩
  clear cx50 fx50 hmk5
  obtain ⟨x6c, hc5, kc5, bc5, sc5⟩ := box1 x6b (es [4]) 34
  replace hc5 : x6c = x6b.alloc (.cells #[.int .i64 4] 34) := hc5
  have kbc5 : ∀ S, Keeps S x6a x6c := fun S => (kb5 S).trans (kc5 S)
  have ER5 : Hid (x6c.ownsRow x0.heap.size 34 1 v4r 5 (es [2, 0, 2, 2, 0])) := Lib.hid (owns_keeps EE5.out (kbc5 (fun _ => False)) (fun _ _ z => z))
  have RC5 : Hid (Rd x6c (x6b.heap.size + 1) (some ⟨x6b.heap.size, 0, none⟩) (es [4])) := Lib.hid (fun j v hj => ⟨x6b.heap.size, 0, rfl, Nat.lt_succ_self _, by rw [Nat.zero_add, bc5.cell]; exact hj⟩)
  have GC5 := Lib.hid (Blk.keeps GG5.out (kbc5 (fun _ => False)) (fun z => z))
  have KC5 : Hid (∀ S, Keeps S w1 x6c) := Lib.hid (fun S => (KX5a.out S).trans (kbc5 S))
  have KD5 : Hid (Keeps (fun b => w9.heap.size ≤ b) x0 x6c) := Lib.hid (KJ5.out.trans (kbc5 _))
  have HC5 := Lib.hid hc5
  clear kb5 hc5 kc5 bc5 sc5 kbc5
  go_wp2_with (first
    | (
      (with_reducible show wpList _ _ _ (⟨some 123, _, _, _, _, _⟩ :: _) _ _)
      try rw [← HC5.out]
      refine er_append rfl _ _ x0.heap.size rfl v4r 5 [2, 0, 2, 2, 0] rfl ER5.out (by have := KD5.out.size; omega) (some ⟨x6b.heap.size, 0, none⟩) 1 _ 4 rfl RC5.out (by decide) ?_
      intro v5r x6 ho5 hk5
      have EO5 : Hid (x6.ownsRow x0.heap.size 34 1 v5r 6 (es [2, 0, 2, 2, 0, 4])) := Lib.hid ho5
      have KE5 : Hid (∀ S, Keeps S w1 x6) := Lib.hid (keeps_er KC5.out hk5 (fun b hb => by have h1 := (ER5.out.lt b hb).1; have h2 := (KX0.out (fun _ => False)).size; omega))
      have GE5 := Lib.hid (Blk.keeps GC5.out hk5 (fun hb => by have h1 := (ER5.out.lt _ hb).1; have h2 := HQ0.out; omega))
      have KI5z : Hid (Keeps (fun b => w9.heap.size ≤ b) x0 x6) := Lib.hid (KD5.out.trans (hk5.mono (fun b _ hb => by have h1 := (ER5.out.lt b hb).1; have h2 := HQ0.out; omega)))
      clear ho5 hk5
      obtain ⟨ge, ce, rfl, hge, hgl⟩ := EO5.out.form (by decide)
      have ee0 : x6.cell? ⟨ge, 0, none⟩ = some (.int .i64 2) := er_cell EO5.out (i := 0) rfl
      have ee1 : x6.cell? ⟨ge, 1, none⟩ = some (.int .i64 0) := er_cell EO5.out (i := 1) rfl
      have ee2 : x6.cell? ⟨ge, 2, none⟩ = some (.int .i64 2) := er_cell EO5.out (i := 2) rfl
      have ee3 : x6.cell? ⟨ge, 3, none⟩ = some (.int .i64 2) := er_cell EO5.out (i := 3) rfl
      have ee4 : x6.cell? ⟨ge, 4, none⟩ = some (.int .i64 0) := er_cell EO5.out (i := 4) rfl
      have ee5 : x6.cell? ⟨ge, 5, none⟩ = some (.int .i64 4) := er_cell EO5.out (i := 5) rfl
      have HRN := Lib.hid (read_ x6 none 0 0 0 [] rfl (by omega) (by omega) (by omega) Small.nil Rd.nil_ (by omega))
      rw [rr_nil] at HRN
      unfold RA at HRN))
  --@26
  refine HRN.out.mono ?_
  rintro e n0 ⟨vn, rfl, yn⟩
  clear ee0 ee1 ee2 ee3 ee4 ee5
  obtain ⟨An, cn, rfl, rn⟩ := yn.rd
  rw [show hz.dat.length = 0 from rfl]
  have KN0 : Hid (∀ S, Keeps S w1 n0) := Lib.hid (fun S => (KE5.out S).trans (yn.keep S))
  clear rn yn
  obtain ⟨wzn, hwzn, kzn, bzn, szn⟩ := box1 n0 zhd 29
  dsimp only [zhd] at hwzn
  obtain ⟨tn, bn, kn⟩ := p_store bzn (cs := hcs hz (.slice An 0 cn)) rfl
  obtain ⟨n1, hwn⟩ : ∃ y, y = wzn.setCells n0.heap.size 0 (hcs hz (.slice An 0 cn)) := ⟨_, rfl⟩
  rw [← hwn] at bn kn
  have kkn : ∀ S, Keeps S n0 n1 := keeps_own kzn kn (Nat.le_refl _)
  have HTn := Lib.hid tn
  have HWZn := Lib.hid hwzn
  have HWn := Lib.hid hwn
  have HBn := Lib.hid bn
  have KKn := Lib.hid kkn
  have HSZn : Hid ((Try.prog.info? 29).map (·.size) = some (hcs hz (.slice An 0 cn)).length) := Lib.hid zhd_info
  have HSOn := Lib.hid (all_oneCell_toArray (hcs_one (h := hz) (v := (.slice An 0 cn)) rfl))
  clear hwzn kzn bzn szn tn bn kn hwn kkn
  have KN1 : Hid (∀ S, Keeps S w1 n1) := Lib.hid (fun S => (KN0.out S).trans (KKn.out S))
  obtain ⟨mc, hmc, klc, blc, slc⟩ := box1 n1 (by_ [0]) 5
  replace hmc : mc = n1.alloc (.cells #[.int .u8 0] 5) := hmc
  have yc : By n1 mc (.slice (some ⟨n1.heap.size, 0, none⟩) 1 1) [0] := By.of_blk blc rfl (Nat.le_refl _) (by omega) klc
  have HMc := Lib.hid hmc
  have HRc := Lib.hid (read_ mc (some ⟨n1.heap.size, 0, none⟩) 1 1 (n1.heap.size + 1) [0] rfl (by omega) (Nat.le_refl _) (by omega) (fun x hx => by simp at hx; omega) (by_rd0 yc) (yc.own.lt _ rfl).2)
  rw [rr_0] at HRc
  unfold RA at HRc
  have KMc : Hid (∀ S, Keeps S w1 mc) := Lib.hid (fun S => (KN1.out S).trans (yc.keep S))
  clear hmc klc blc slc yc
  go_wp2_with (first
    | ((with_reducible show wpList _ _ _ (⟨none, .store _ (.tmp 15) _, _, _, _, _⟩ :: _) _ _); (try with_reducible rw [← HWZn.out]); refine' wpList_store_mid rfl 29 _ _ rfl n0.heap.size 0 (hcs hz (.slice An 0 cn)).toArray ?hx rfl ?ht HSZn.out HSOn.out ?_; (case hx => rfl); (case ht => exact HTn.out); rw [← HWn.out]))
  try rw [← HMc.out]
  refine HRc.out.mono ?_
  rintro e n2a ⟨vc, rfl, zc⟩
  obtain ⟨Ac, cc, rfl, rrc⟩ := zc.rd
  rw [show hz.dat.length = 0 from rfl]
  have KPc : Hid (∀ S, Keeps S w1 n2a) := Lib.hid (fun S => (KMc.out S).trans (zc.keep S))
  clear rrc zc
  obtain ⟨wzc, hwzc, kzc, bzc, szc⟩ := box1 n2a zhd 29
  dsimp only [zhd] at hwzc
  obtain ⟨tc, bc, kc⟩ := p_store bzc (cs := hcs hz (.slice Ac 0 cc)) rfl
  obtain ⟨n2, hwc⟩ : ∃ y, y = wzc.setCells n2a.heap.size 0 (hcs hz (.slice Ac 0 cc)) := ⟨_, rfl⟩
  rw [← hwc] at bc kc
  have kkc : ∀ S, Keeps S n2a n2 := keeps_own kzc kc (Nat.le_refl _)
  have HTc := Lib.hid tc
  have HWZc := Lib.hid hwzc
  have HWc := Lib.hid hwc
  have HBc := Lib.hid bc
  have KKc := Lib.hid kkc
  have HSZc : Hid ((Try.prog.info? 29).map (·.size) = some (hcs hz (.slice Ac 0 cc)).length) := Lib.hid zhd_info
  have HSOc := Lib.hid (all_oneCell_toArray (hcs_one (h := hz) (v := (.slice Ac 0 cc)) rfl))
  clear hwzc kzc bzc szc tc bc kc hwc kkc
  have KN2 : Hid (∀ S, Keeps S w1 n2) := Lib.hid (fun S => (KPc.out S).trans (KKc.out S))
  obtain ⟨md, hmd, kld, bld, sld⟩ := box1 n2 (by_ [69]) 5
  replace hmd : md = n2.alloc (.cells #[.int .u8 69] 5) := hmd
  have yd : By n2 md (.slice (some ⟨n2.heap.size, 0, none⟩) 1 1) [69] := By.of_blk bld rfl (Nat.le_refl _) (by omega) kld
  have HMd := Lib.hid hmd
  have HRd := Lib.hid (read_ md (some ⟨n2.heap.size, 0, none⟩) 1 1 (n2.heap.size + 1) [69] rfl (by omega) (Nat.le_refl _) (by omega) (fun x hx => by simp at hx; omega) (by_rd0 yd) (yd.own.lt _ rfl).2)
  rw [rr_45] at HRd
  unfold RA at HRd
  have KMd : Hid (∀ S, Keeps S w1 md) := Lib.hid (fun S => (KN2.out S).trans (yd.keep S))
  clear hmd kld bld sld yd
  go_wp2_with (first
    | ((with_reducible show wpList _ _ _ (⟨none, .store _ (.tmp 18) _, _, _, _, _⟩ :: _) _ _); (try with_reducible rw [← HWZc.out]); refine' wpList_store_mid rfl 29 _ _ rfl n2a.heap.size 0 (hcs hz (.slice Ac 0 cc)).toArray ?hx rfl ?ht HSZc.out HSOc.out ?_; (case hx => rfl); (case ht => exact HTc.out); rw [← HWc.out]))
  try rw [← HMd.out]
  refine HRd.out.mono ?_
  rintro e n3a ⟨vd, rfl, zd⟩
  obtain ⟨Ad, cd, rfl, rrd⟩ := zd.rd
  rw [show hz.dat.length = 0 from rfl]
  have KPd : Hid (∀ S, Keeps S w1 n3a) := Lib.hid (fun S => (KMd.out S).trans (zd.keep S))
  clear rrd zd
  obtain ⟨wzd, hwzd, kzd, bzd, szd⟩ := box1 n3a zhd 29
  dsimp only [zhd] at hwzd
  obtain ⟨td, bd, kd⟩ := p_store bzd (cs := hcs hz (.slice Ad 0 cd)) rfl
  obtain ⟨n3, hwd⟩ : ∃ y, y = wzd.setCells n3a.heap.size 0 (hcs hz (.slice Ad 0 cd)) := ⟨_, rfl⟩
  rw [← hwd] at bd kd
  have kkd : ∀ S, Keeps S n3a n3 := keeps_own kzd kd (Nat.le_refl _)
  have HTd := Lib.hid td
  have HWZd := Lib.hid hwzd
  have HWd := Lib.hid hwd
  have HBd := Lib.hid bd
  have KKd := Lib.hid kkd
  have HSZd : Hid ((Try.prog.info? 29).map (·.size) = some (hcs hz (.slice Ad 0 cd)).length) := Lib.hid zhd_info
  have HSOd := Lib.hid (all_oneCell_toArray (hcs_one (h := hz) (v := (.slice Ad 0 cd)) rfl))
  clear hwzd kzd bzd szd td bd kd hwd kkd
  have KN3 : Hid (∀ S, Keeps S w1 n3) := Lib.hid (fun S => (KPd.out S).trans (KKd.out S))
  have hmkf : ∀ u, (Instr.makeSlice 27 (.int .i64 20) (.int .i64 20)).run Try.prog u = .ok (.slice (some ⟨u.heap.size, 0, none⟩) 20 20) (u.alloc (.cells (by_ (List.replicate 20 0)).toArray 5)) := fun u => make_bytes 20 u (by omega)
  obtain ⟨lf, hlf, klf, blf, slf⟩ := box1 n3 (by_ (List.replicate 20 0)) 5
  obtain ⟨obf, hobf⟩ : ∃ y : Obj, y = .cells (by_ (List.replicate 20 0)).toArray 5 := ⟨_, rfl⟩
  rw [← hobf] at hlf
  simp only [← hobf] at hmkf
  have y0f : By n3 lf (.slice (some ⟨n3.heap.size, 0, none⟩) 20 20) (List.replicate 20 0) := By.of_blk blf List.length_replicate (Nat.le_refl _) (by omega) klf
  have czf := y0f.cell (i := 0) (x := 0) rfl
  have fzf := y0f.frozen 0
  have yf := y0f.set (i := 0) (by rw [List.length_replicate]; decide) 70
  rw [hlf] at czf fzf
  obtain ⟨mf, hmf⟩ : ∃ y, y = lf.setCell ⟨n3.heap.size, 0, none⟩ (.int .u8 70) := ⟨_, rfl⟩
  replace yf : By n3 mf (.slice (some ⟨n3.heap.size, 0, none⟩) 20 20) ((List.replicate 20 0).set 0 70) := by rw [hmf]; exact yf
  rw [hlf] at hmf
  have HMf := Lib.hid hmf
  have HRf := Lib.hid (read_ mf (some ⟨n3.heap.size, 0, none⟩) 20 20 (n3.heap.size + 1) ((List.replicate 20 0).set 0 70) (by rw [List.length_set, List.length_replicate]) (by omega) (Nat.le_refl _) (by omega) (fun x hx => by rcases List.mem_or_eq_of_mem_set hx with q | q; (· exact rep_sm _ x q); (· omega)) (by_rd0 yf) (yf.own.lt _ rfl).2)
  rw [rr_46] at HRf
  unfold RA at HRf
  have KMf : Hid (∀ S, Keeps S w1 mf) := Lib.hid (fun S => (KN3.out S).trans (yf.keep S))
  clear hlf klf blf slf y0f yf hmf hobf
  go_wp2_with (first
    | ((with_reducible show wpList _ _ _ (⟨none, .store _ (.tmp 21) _, _, _, _, _⟩ :: _) _ _); (try with_reducible rw [← HWZd.out]); refine' wpList_store_mid rfl 29 _ _ rfl n3a.heap.size 0 (hcs hz (.slice Ad 0 cd)).toArray ?hx rfl ?ht HSZd.out HSOd.out ?_; (case hx => rfl); (case ht => exact HTd.out); rw [← HWd.out]))
  try rw [← HMf.out]
  refine HRf.out.mono ?_
  rintro e n4a ⟨vf, rfl, zf⟩
  obtain ⟨Af, cf, rfl, rrf⟩ := zf.rd
  rw [show hz.dat.length = 0 from rfl]
  have KPf : Hid (∀ S, Keeps S w1 n4a) := Lib.hid (fun S => (KMf.out S).trans (zf.keep S))
  clear rrf zf hmkf czf fzf
  obtain ⟨wzf, hwzf, kzf, bzf, szf⟩ := box1 n4a zhd 29
  dsimp only [zhd] at hwzf
  obtain ⟨tf, bf, kf⟩ := p_store bzf (cs := hcs hz (.slice Af 0 cf)) rfl
  obtain ⟨n4, hwf⟩ : ∃ y, y = wzf.setCells n4a.heap.size 0 (hcs hz (.slice Af 0 cf)) := ⟨_, rfl⟩
  rw [← hwf] at bf kf
  have kkf : ∀ S, Keeps S n4a n4 := keeps_own kzf kf (Nat.le_refl _)
  have HTf := Lib.hid tf
  have HWZf := Lib.hid hwzf
  have HWf := Lib.hid hwf
  have HBf := Lib.hid bf
  have KKf := Lib.hid kkf
  have HSZf : Hid ((Try.prog.info? 29).map (·.size) = some (hcs hz (.slice Af 0 cf)).length) := Lib.hid zhd_info
  have HSOf := Lib.hid (all_oneCell_toArray (hcs_one (h := hz) (v := (.slice Af 0 cf)) rfl))
  clear hwzf kzf bzf szf tf bf kf hwf kkf
  have KN4 : Hid (∀ S, Keeps S w1 n4) := Lib.hid (fun S => (KPf.out S).trans (KKf.out S))
  have hmkg : ∀ u, (Instr.makeSlice 27 (.int .i64 40) (.int .i64 40)).run Try.prog u = .ok (.slice (some ⟨u.heap.size, 0, none⟩) 40 40) (u.alloc (.cells (by_ (List.replicate 40 0)).toArray 5)) := fun u => make_bytes 40 u (by omega)
  obtain ⟨lg, hlg, klg, blg, slg⟩ := box1 n4 (by_ (List.replicate 40 0)) 5
  obtain ⟨obg, hobg⟩ : ∃ y : Obj, y = .cells (by_ (List.replicate 40 0)).toArray 5 := ⟨_, rfl⟩
  rw [← hobg] at hlg
  simp only [← hobg] at hmkg
  have y0g : By n4 lg (.slice (some ⟨n4.heap.size, 0, none⟩) 40 40) (List.replicate 40 0) := By.of_blk blg List.length_replicate (Nat.le_refl _) (by omega) klg
  have czg := y0g.cell (i := 0) (x := 0) rfl
  have fzg := y0g.frozen 0
  have yg := y0g.set (i := 0) (by rw [List.length_replicate]; decide) 96
  rw [hlg] at czg fzg
  obtain ⟨mg, hmg⟩ : ∃ y, y = lg.setCell ⟨n4.heap.size, 0, none⟩ (.int .u8 96) := ⟨_, rfl⟩
  replace yg : By n4 mg (.slice (some ⟨n4.heap.size, 0, none⟩) 40 40) ((List.replicate 40 0).set 0 96) := by rw [hmg]; exact yg
  rw [hlg] at hmg
  have HMg := Lib.hid hmg
  have HRg := Lib.hid (read_ mg (some ⟨n4.heap.size, 0, none⟩) 40 40 (n4.heap.size + 1) ((List.replicate 40 0).set 0 96) (by rw [List.length_set, List.length_replicate]) (by omega) (Nat.le_refl _) (by omega) (fun x hx => by rcases List.mem_or_eq_of_mem_set hx with q | q; (· exact rep_sm _ x q); (· omega)) (by_rd0 yg) (yg.own.lt _ rfl).2)
  rw [rr_60] at HRg
  unfold RA at HRg
  have KMg : Hid (∀ S, Keeps S w1 mg) := Lib.hid (fun S => (KN4.out S).trans (yg.keep S))
  clear hlg klg blg slg y0g yg hmg hobg
  go_wp2_with (first
    | ((with_reducible show wpList _ _ _ (⟨none, .store _ (.tmp 25) _, _, _, _, _⟩ :: _) _ _); (try with_reducible rw [← HWZf.out]); refine' wpList_store_mid rfl 29 _ _ rfl n4a.heap.size 0 (hcs hz (.slice Af 0 cf)).toArray ?hx rfl ?ht HSZf.out HSOf.out ?_; (case hx => rfl); (case ht => exact HTf.out); rw [← HWf.out]))
  try rw [← HMg.out]
  refine HRg.out.mono ?_
  rintro e n5a ⟨vg, rfl, zg⟩
  obtain ⟨Ag, cg, rfl, rrg⟩ := zg.rd
  rw [show six0.dat.length = 0 from rfl]
  have KPg : Hid (∀ S, Keeps S w1 n5a) := Lib.hid (fun S => (KMg.out S).trans (zg.keep S))
  clear rrg zg hmkg czg fzg
  obtain ⟨wzg, hwzg, kzg, bzg, szg⟩ := box1 n5a zhd 29
  dsimp only [zhd] at hwzg
  obtain ⟨tg, bg, kg⟩ := p_store bzg (cs := hcs six0 (.slice Ag 0 cg)) rfl
  obtain ⟨n5, hwg⟩ : ∃ y, y = wzg.setCells n5a.heap.size 0 (hcs six0 (.slice Ag 0 cg)) := ⟨_, rfl⟩
  rw [← hwg] at bg kg
  have kkg : ∀ S, Keeps S n5a n5 := keeps_own kzg kg (Nat.le_refl _)
  have HTg := Lib.hid tg
  have HWZg := Lib.hid hwzg
  have HWg := Lib.hid hwg
  have HBg := Lib.hid bg
  have KKg := Lib.hid kkg
  have HSZg : Hid ((Try.prog.info? 29).map (·.size) = some (hcs six0 (.slice Ag 0 cg)).length) := Lib.hid zhd_info
  have HSOg := Lib.hid (all_oneCell_toArray (hcs_one (h := six0) (v := (.slice Ag 0 cg)) rfl))
  clear hwzg kzg bzg szg tg bg kg hwg kkg
  have KN5 : Hid (∀ S, Keeps S w1 n5) := Lib.hid (fun S => (KPg.out S).trans (KKg.out S))
  have sv6 := (HF.of_blk six0_wf HBg.out).v6s
  have spr := (HF.of_blk six0_wf HBg.out).pr
  go_wp2_with (first
    | ((with_reducible show wpList _ _ _ (⟨none, .store _ (.tmp 29) _, _, _, _, _⟩ :: _) _ _); (try with_reducible rw [← HWZg.out]); refine' wpList_store_mid rfl 29 _ _ rfl n5a.heap.size 0 (hcs six0 (.slice Ag 0 cg)).toArray ?hx rfl ?ht HSZg.out HSOg.out ?_; (case hx => rfl); (case ht => exact HTg.out); rw [← HWg.out]))
  refine (works_ _).mono ?_
  rintro e n6 ⟨rfl, k6⟩
  have K6 : Hid (∀ S, Keeps S w n6) := Lib.hid (fun S => ((K1.out S).trans (KN5.out S)).trans (k6 S))
  clear k6 sv6 spr
  go_wp2
  try rw [Exit.noGoto_ret]
  go_ret
  exact ⟨rfl, K6.out⟩
end
end Go.Proofs.Ytidengmcbppcoaa.pk
namespace Go.Proofs.Ytidengmcbppcoaa.packetKnown
open Go.Proofs.Ytidengmcbppcoaa.pk Go.ChangeShapes Go.WideShapes Go.ChangeAt Go.RowKit Go.Proofs.Ytidengmcbppcoaa.oc
open Go.ChangeMaps (open_string shut_string)
set_option linter.unusedVariables false

theorem own : ownKnob Try.prog.godebug = none := by kernel_rfl
theorem laidOut : laidOutB Try.prog = true := by kernel_rfl

set_option maxRecDepth 100000 in
theorem lifted (os : Os) (started : os.Started) (H : Type) (enc : TypeId × Value → H) :
    ReturnsInHanded {} Try.checked os 10 .any (Rows.packetKnownSpec.pre6 enc Try.prog Try.f10 Rows.packetKnownRow.domain false) (Rows.packetKnownSpec.post enc Try.prog Try.f10 false true false false) := by
  refine returnsInHanded_of_change_sized (C := Try.checked) own started (by kernel_rfl) Try.func10
    (ChangeSpec.witness6 (enc := enc) (C := Try.checked) false ⟨#[], #[], []⟩ 8 (by kernel_rfl) (by kernel_rfl) (by kernel_rfl) (by kernel_rfl)) ?_
  intro W base args ds gs before hval0 hW hcnd hsz0 _
  have hval : ∀ (j : Nat) t v, Try.f10.params[j]? = some t → args[j]? = some v → Value.okWide Try.prog W .any base t v := hval0
  have hsz : (DataW.weightsEach Try.prog (Try.f10.params.toList ++ Rows.packetKnownSpec.plain.varTypes Try.prog) (ds ++ gs)).all (· ≤ reachBytes) = true := hsz0
  have hW' := hW
  obtain ⟨p, q, hA0, hV, rfl, hfz, hnd⟩ := hW
  have hA : DataW.TrodAll enc Try.prog W 0 (fun _ => true) true Try.f10.params.toList args.toList ds p := hA0
  rw [Try.params10] at hA hval hsz
  obtain ⟨rfl, rfl, rfl⟩ := trodAll_none hA
  obtain ⟨rfl, rfl⟩ := trodVars_none hV
  clear hA0 hval0
  refine (walk_packetKnown W ).mono fun e W' ⟨he, bel⟩ => ?_
  subst he
  exact ⟨_, rfl, _, _, _, [], _, [], hW', trodAll_mk1 (shut_bool Try.underlying4 _), trodAll_mk0, rfl, bel.frame _, fun h => by cases h⟩

theorem over : Rows.packetKnownRow.holds Try.pinned (OpenSpec.ofChange Rows.packetKnownSpec) :=
  OpenClaim.holds_of_wide 10 Try.f10 rfl rfl rfl rfl rfl rfl rfl ⟨rfl, rfl, rfl, rfl, rfl⟩ rfl rfl rfl rfl rfl (by kernel_rfl) Try.func10 (by kernel_rfl)
    (of_decide_eq_true (by kernel_rfl)) (by unfold Func.isWrapper; first | (rw [if_pos (by decide +kernel)]; kernel_rfl) | (rw [if_neg (by decide +kernel)]; exact ⟨rfl, rfl⟩))
    (fun os started H enc _ => lifted os started H enc)

theorem proved : Rows.PacketKnownSaid := over
#print axioms proved
end Go.Proofs.Ytidengmcbppcoaa.packetKnown
