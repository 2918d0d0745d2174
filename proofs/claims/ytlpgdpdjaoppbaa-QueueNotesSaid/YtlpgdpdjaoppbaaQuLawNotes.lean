/-
  QueueNotes' body.
-/
import Derived.Test.YtlpgdpdjaoppbaaRf7e
import Derived.Test.YtlpgdpdjaoppbaaMzSame
import Derived.Test.YtlpgdpdjaoppbaaOcDos
import Derived.Deep.RegionHeld3
set_option linter.unusedVariables false
namespace Go.Proofs.Ytlpgdpdjaoppbaa.oc
open Go.RowKit Go.Proofs.Ytlpgdpdjaoppbaa.oc Go.Proofs.Ytlpgdpdjaoppbaa.mz Go.Proofs.Ytlpgdpdjaoppbaa.at_ Go.Proofs.Ytlpgdpdjaoppbaa.gt Go.Proofs.Ytlpgdpdjaoppbaa.gw Go.Proofs.Ytlpgdpdjaoppbaa.qu Go.Proofs.Ytlpgdpdjaoppbaa.rf7
set_option maxRecDepth 100000 in
set_option maxHeartbeats 8000000 in
theorem walk_queueNotes (w : World) (s : Int) (hs1 : -9223372036854775808 ≤ s) (hs2 : s ≤ 9223372036854775807) (A : Option Addr) (m0 c0 : Nat) (xs : List (Int × Nat)) (hd : IsDos w A m0 xs) (hm0 : m0 ≤ 140737488351232) :
    Calls Try.prog 4 #[.int .i64 s, .slice A m0 c0] w fun e w' => e = .returned (.bool true) ∧ Below w.heap.size w w' := by
  have hep : ∀ w : World, (binOp .eql 25 (.pointer none) (.pointer none)).run Try.prog w = .ok (.bool true) w := fun w => by kernel_rfl
  have HD := Lib.hid hd
  clear hd hs1 hs2
  by_cases hp : ∃ n ∈ pows, s = (n : Int)
  case neg =>
    have hno : ∀ n ∈ pows, s ≠ (n : Int) := fun n hn e => hp ⟨n, hn, e⟩
    have HN := Lib.hid (new_arg s w hno)
    have HMY := Lib.hid (may_no s w hno)
    clear hp hno
    go_enter Try.func4, Try.ntmps4
    go_wp2_with fail
    refine HN.out.mono ?_
    rintro e w' ⟨rfl, rfl⟩
    go_wp2_with fail
    refine HMY.out.mono ?_
    rintro e w' ⟨rfl, rfl⟩
    go_wp2_with fail
    refine (works_ w).mono ?_
    rintro e we ⟨rfl, ke⟩
    have KE : Hid (∀ S, Keeps S w we) := Lib.hid ke
    clear ke
    go_wp2
    try rw [Exit.noGoto_ret]
    go_ret
    exact ⟨rfl, (KE.out _).below⟩
  obtain ⟨n, hnp, rfl⟩ := hp
  have HN := Lib.hid (new_ok n w hnp)
  have hn1 := pows_le hnp
  have HNB := Lib.hid hn1
  have HPW := Lib.hid hnp
  have HMY : ∀ w, Hid (Calls Try.prog 13 #[.int .i64 (n : Int)] w fun e w' => e = .returned (.bool true) ∧ w = w') := fun w => Lib.hid (may_yes n w hnp)
  clear hnp hn1
  go_enter Try.func4, Try.ntmps4
  go_wp2_with fail
  refine HN.out.mono ?_
  rintro e w1 ⟨R, W, rfl, r1, hR, hW, k1⟩
  have R1 := Lib.hid r1
  have K1 : Hid (∀ S, Keeps S w w1) := Lib.hid k1
  have HRW : Hid (w.heap.size ≤ R ∧ w.heap.size ≤ W) := Lib.hid ⟨hR, hW⟩
  clear r1 k1 hR hW HN
  go_wp2_with fail
  refine (HMY w1).out.mono ?_
  rintro e w' ⟨rfl, rfl⟩
  go_wp2_with fail
  refine (slots_ R W n _ w1 R1.out).mono ?_
  rintro e w' ⟨rfl, rfl⟩
  go_wp2_with fail
  refine (world_ n w1 HNB.out.2).mono ?_
  rintro e ww ⟨wv, lv, rfl, hr, kw⟩
  obtain ⟨⟨A1, c1, hwv, _⟩, ⟨A2, c2, hlv, _⟩⟩ := hr ww (Keeps.refl _ _)
  subst hwv
  subst hlv
  have HBEG := Lib.hid (begins R1.out (Lk.start HPW.out) HRW.out.1 HRW.out.2 (K1.out _) hr kw)
  clear hr kw
  simp only [List.length_singleton] at HBEG
  go_wp2
  generalize ww.alloc (.cells #[.slice A1 1 c1, .slice A2 1 c2] 47) = wst at *
  generalize ww.heap.size = X at *
  go_loopw [8] (fun i wr => ∃ (j : Nat) (ws row : List Nat) (A1 : Option Addr) (c1 : Nat) (A2 : Option Addr) (c2 m : Nat), j ≤ 30 ∧ i = .int .i64 j ∧ Rnd w wr R W n X ws row j (.slice A1 1 c1) (.slice A2 m c2) m) (fun i _ => 31 - (intOf i).toNat)
  case atStart => exact ⟨0, _, [], A1, c1, A2, c2, 1, Nat.zero_le _, rfl, HBEG.out⟩
  case round =>
    clear HBEG
    obtain ⟨j, ws, row, A1, c1, A2, c2, m, hj, rfl, hR⟩ := hrel
    have HR := Lib.hid hR
    clear hR
    by_cases hjl : j < m0
    case neg =>
      have hjl' : ¬ (j : Int) < (m0 : Int) := by omega
      go_wp2_with fail
      refine (works_ wr).mono ?_
      rintro e we ⟨rfl, ke⟩
      have KE := Lib.hid (HR.out.keep.trans (ke _))
      clear ke
      go_wp2
      try rw [Exit.noGoto_ret]
      go_ret
      exact ⟨rfl, (KE.out.only (fun b z => z)).below⟩
    have hjl' : (j : Int) < (m0 : Int) := by omega
    by_cases hj6 : j < 30
    case neg =>
      have hj6' : ¬ (j : Int) < 30 := by omega
      go_wp2_with fail
      refine (works_ wr).mono ?_
      rintro e we ⟨rfl, ke⟩
      have KE := Lib.hid (HR.out.keep.trans (ke _))
      clear ke
      go_wp2
      try rw [Exit.noGoto_ret]
      go_ret
      exact ⟨rfl, (KE.out.only (fun b z => z)).below⟩
    have hj6' : (j : Int) < 30 := by omega
    obtain ⟨⟨kd, vl⟩, hx⟩ : ∃ z, xs[j]? = some z := ⟨_, List.getElem?_eq_getElem (by rw [HD.out.1]; exact hjl)⟩
    obtain ⟨hk1, hk2, hvl⟩ := HD.out.2.1 _ (List.mem_of_getElem? hx)
    obtain ⟨d1, d2⟩ := dos_at xs j (kd, vl) hx
    obtain ⟨b, o, rfl, hbl, hc⟩ := HD.out.2.2 _ _ d1
    obtain ⟨b1, o1, e1, _, hc'⟩ := HD.out.2.2 _ _ d2
    injection e1 with e1
    injection e1 with e1 e2
    subst e1
    subst e2
    rw [← Nat.add_assoc] at hc'
    simp only at hc hc' hk1 hk2 hvl
    obtain ⟨r, hr3, hkr⟩ : ∃ r : Nat, r < 3 ∧ kd % 3 = (r : Int) := ⟨(kd % 3).toNat, by omega, by omega⟩
    have hcw := Keeps.cell HR.out.keep hc (by omega)
    have hcw' := Keeps.cell HR.out.keep hc' (by omega)
    have HOR : Hid ((w.heap.size ≤ R ∧ w.heap.size ≤ W ∧ w.heap.size ≤ X) ∧ (R ≠ X ∧ W ≠ X) ∧ b < w.heap.size ∧ R < wr.heap.size ∧ W < wr.heap.size ∧ X < wr.heap.size) := Lib.hid ⟨HR.out.new, HR.out.ne, hbl, HR.out.ring.ltQ, HR.out.ring.ltW, HR.out.world.lt⟩
    have j0 : (0 : Int) ≤ (j : Int) := by omega
    have HK : Hid (-9223372036854775808 ≤ kd ∧ kd ≤ 9223372036854775807 ∧ vl < 18446744073709551616 ∧ r < 3 ∧ kd % 3 = (r : Int)) := Lib.hid ⟨hk1, hk2, hvl, hr3, hkr⟩
    clear hx d1 d2 hc hc' hk1 hk2 hvl hr3 hkr
    go_wp2_with fail
    refine (new_notes wr).mono ?_
    rintro e wn ⟨rfl, nn, kn⟩
    have hor := HOR.out
    have hkk := HK.out
    have hcn := Keeps.cell (kn (fun _ => False)) hcw (fun z => z)
    have hcn' := Keeps.cell (kn (fun _ => False)) hcw' (fun z => z)
    obtain ⟨F0, nn⟩ : ∃ F0, NInv wn wr.heap.size [] F0 := ⟨_, nn⟩
    have HF0 : Hid (∀ b, F0 b → wr.heap.size ≤ b) := Lib.hid (fun b hb => (nn.above b hb).1)
    have HDN := Lib.hid (done_ R W n wr.heap.size r vl j kd ws row (.iface 49 (.pointer (some ⟨wr.heap.size, 0, none⟩))) [] F0 wn ⟨HR.out.ring.keeps (kn (fun _ => False)) (fun z => z) (fun z => z), .inr ⟨rfl, nn⟩, fun z => by have := HF0.out _ z; omega, fun z => by have := HF0.out _ z; omega⟩ (by simp) HR.out.lk (by omega) (fun b hb => (nn.above b hb).2) hkk.2.2.2.2 hkk.1 hkk.2.1 hkk.2.2.1)
    have KN : Hid (∀ S, Keeps S wr wn) := Lib.hid kn
    clear nn kn hor hkk
    obtain ⟨ws', hws'⟩ : ∃ ws', ws' = nextOf n r vl ws row := ⟨_, rfl⟩
    obtain ⟨told, htold⟩ : ∃ told, told = toldOf n r row := ⟨_, rfl⟩
    obtain ⟨mks, hmks⟩ : ∃ mks, mks = marksOf n r ws row := ⟨_, rfl⟩
    have HMB : Hid (mks.length ≤ 200 ∧ mks ≠ []) := Lib.hid (by rw [hmks]; have q1 := marks_few n r ws row; have q2 := HR.out.few; exact ⟨by omega, q1.2 HNB.out.1⟩)
    have HTB : Hid (told.length ≤ 100) := Lib.hid (by rw [htold]; have q1 := told_few n r row; have q2 := HR.out.few; omega)
    have hal := fun (wv lv cv dv : Value) (m : Nat) (w : World) => alone_ n r vl m j ws row wv lv cv dv w HK.out.2.2.2.1 HR.out.lk (by omega) (by have := HR.out.few; omega) HR.out.ring.wd.sm HK.out.2.2.1
    rw [← hws', ← htold, ← hmks] at HDN
    simp only [← hws', ← htold, ← hmks] at hal
    have HWS := Lib.hid hws'
    clear hws' htold hmks
    go_wp2_with fail
    refine HDN.out.mono ?_
    rintro e wa ⟨A0, c0', F1, rfl, hque, hst, hkp⟩
    have kra : Keeps (fun b => b = W) wr wa := ((KN.out _).trans hkp).mono (fun x hx z => by rcases z with z | z; exact z; have := HF0.out x z; omega)
    have hgn : ∃ F, NInv wa wr.heap.size mks F := by
      rcases hst.gf with z | z
      · cases z
      · exact ⟨_, by simpa using z.2⟩
    have hdat : IsData wa wa.heap.size (.slice A0 told.length c0') told := ⟨A0, c0', rfl, Go.Proofs.Ytlpgdpdjaoppbaa.rf7.Que.rd hque⟩
    have HOWN : Hid (∀ b, Value.ownBlock (.slice A0 told.length c0') = some b → b < wa.heap.size) := Lib.hid (fun b hb => (hque.lt hb).2)
    have HWN : Hid (wr.heap.size ≤ wn.heap.size ∧ wn.heap.size ≤ wa.heap.size) := Lib.hid ⟨(KN.out (fun _ => False)).size, hkp.size⟩
    have bWa := Blk.keeps HR.out.world kra (fun e => HOR.out.2.1.2 e.symm)
    have a0 : wa.cell? ⟨b, o + j * 2, none⟩ = some (.int .i64 kd) := Keeps.cell kra hcw (by have := HOR.out; omega)
    have a1 : wa.cell? ⟨b, o + j * 2 + 1, none⟩ = some (.int .u64 (vl : Int)) := Keeps.cell kra hcw' (by have := HOR.out; omega)
    have x0 : wa.cell? ⟨X, 0, none⟩ = some (.slice A1 1 c1) := by rw [bWa.cell]; rfl
    have x1 : wa.cell? ⟨X, 1, none⟩ = some (.slice A2 m c2) := by rw [bWa.cell]; rfl
    have RA := Lib.hid hst.qu
    have HQA := Lib.hid hque
    have NA := Lib.hid hgn
    have DA := Lib.hid hdat
    have KRA := Lib.hid kra
    have BWA := Lib.hid bWa
    have HRD0 : Hid (∀ w'', Keeps (fun b => b = W ∨ b = X) wr w'' → IsWords w'' w''.heap.size (.slice A1 1 c1) [ws] ∧ IsLists w'' w''.heap.size (.slice A2 m c2) m) := Lib.hid HR.out.read
    have HSML : Hid (m < 1000000) := Lib.hid HR.out.small
    have AL : Hid (∀ (wv lv cv dv : Value) (m : Nat) (w : World), _) := Lib.hid (fun (wv lv cv dv : Value) (m : Nat) (w : World) q1 q2 q3 q4 q5 => hal wv lv cv dv m w q1 q2 q3 q4 q5)
    clear hal hque hst hkp hgn hdat kra bWa hcw hcw' hcn hcn' HDN
    go_wp2_with fail
    go_region_held3 (fun w' => w'.cell? ⟨b, o + j * 2, none⟩ = some (.int .i64 kd) ∧ w'.cell? ⟨b, o + j * 2 + 1, none⟩ = some (.int .u64 (vl : Int)) ∧ w'.cell? ⟨X, 0, none⟩ = some (.slice A1 1 c1) ∧ w'.cell? ⟨X, 1, none⟩ = some (.slice A2 m c2))
      (first | exact ⟨a0, a1, x0, x1⟩ | exact ⟨p0, p1, y0, y1⟩ | exact ⟨alloc_cell a0, alloc_cell a1, alloc_cell x0, alloc_cell x1⟩ | exact ⟨alloc_cell p0, alloc_cell p1, alloc_cell y0, alloc_cell y1⟩ | exact ⟨q0, q1, z0, z1⟩ | exact ⟨alloc_cell q0, alloc_cell q1, alloc_cell z0, alloc_cell z1⟩ | exact ⟨two_cell q0 (Nat.ne_of_lt (Keeps.lt_cell p0)), two_cell q1 (Nat.ne_of_lt (Keeps.lt_cell p0)), two_cell z0 (Nat.ne_of_lt (Keeps.lt_cell y0)), two_cell z1 (Nat.ne_of_lt (Keeps.lt_cell y0))⟩ | exact ⟨two_cell q0 (Nat.ne_of_lt (Keeps.lt_cell a0)), two_cell q1 (Nat.ne_of_lt (Keeps.lt_cell a0)), two_cell z0 (Nat.ne_of_lt (Keeps.lt_cell x0)), two_cell z1 (Nat.ne_of_lt (Keeps.lt_cell x0))⟩)
      ((first
        | (go_at_call 19; refine (call_ n r vl kd _ HNB.out.2 HNB.out.1 HK.out.2.2.2.2 HK.out.1 HK.out.2.1).mono ?_; rintro e wg ⟨cv, dv, rfl, hbld, kg⟩; have p0 : wg.cell? ⟨b, o + j * 2, none⟩ = some (.int .i64 kd) := (by first | exact Keeps.cell (kg (fun _ => False)) (show wa.drew.cell? _ = _ from a0) (fun z => z) | exact Keeps.cell (kg (fun _ => False)) (alloc_cell (show wa.drew.cell? _ = _ from a0)) (fun z => z)); have p1 : wg.cell? ⟨b, o + j * 2 + 1, none⟩ = some (.int .u64 (vl : Int)) := (by first | exact Keeps.cell (kg (fun _ => False)) (show wa.drew.cell? _ = _ from a1) (fun z => z) | exact Keeps.cell (kg (fun _ => False)) (alloc_cell (show wa.drew.cell? _ = _ from a1)) (fun z => z)); have y0 : wg.cell? ⟨X, 0, none⟩ = some (.slice A1 1 c1) := (by first | exact Keeps.cell (kg (fun _ => False)) (show wa.drew.cell? _ = _ from x0) (fun z => z) | exact Keeps.cell (kg (fun _ => False)) (alloc_cell (show wa.drew.cell? _ = _ from x0)) (fun z => z)); have y1 : wg.cell? ⟨X, 1, none⟩ = some (.slice A2 m c2) := (by first | exact Keeps.cell (kg (fun _ => False)) (show wa.drew.cell? _ = _ from x1) (fun z => z) | exact Keeps.cell (kg (fun _ => False)) (alloc_cell (show wa.drew.cell? _ = _ from x1)) (fun z => z)); have HBLD : Hid (∀ w'', Keeps (fun b => b < wa.heap.size) wg w'' → IsCode w'' w''.heap.size cv (codeOf n r vl) ∧ IsData w'' w''.heap.size dv []) := Lib.hid (fun w'' kk => hbld w'' (kk.mono (fun b _ z => by first | exact z | exact Nat.lt_of_lt_of_le z (by simp)))); have KG : Hid (∀ S, Keeps S wa wg) := Lib.hid (fun S => (by first | exact ((Keeps.refl S wa).drew).trans (kg S) | exact (((Keeps.refl S wa).drew).alloc _).trans (kg S))); (first | (have bX := Blk.keeps (Blk.new wa.drew 47 #[.slice none 0 0, .slice none 0 0]) (kg (fun _ => False)) (fun z => z)) | skip); clear hbld kg)
        | (go_at_call 18; refine (AL.out (.slice A1 1 c1) (.slice A2 m c2) cv dv m wg (HRD0.out _ ((KRA.out.mono (fun b _ z => .inl z)).trans (KG.out _))).1 (HRD0.out _ ((KRA.out.mono (fun b _ z => .inl z)).trans (KG.out _))).2 HSML.out (HBLD.out _ (Keeps.refl _ _)).1 (HBLD.out _ (Keeps.refl _ _)).2).mono ?_; rintro e wl ⟨tA, tc, A1', c1', A2', c2', m', mA, mc, rfl, hm', hrd, kl⟩; have q0 : wl.cell? ⟨b, o + j * 2, none⟩ = some (.int .i64 kd) := (by first | exact Keeps.cell (kl (fun _ => False)) p0 (fun z => z) | exact Keeps.cell (kl (fun _ => False)) (alloc_cell p0) (fun z => z)); have q1 : wl.cell? ⟨b, o + j * 2 + 1, none⟩ = some (.int .u64 (vl : Int)) := (by first | exact Keeps.cell (kl (fun _ => False)) p1 (fun z => z) | exact Keeps.cell (kl (fun _ => False)) (alloc_cell p1) (fun z => z)); have z0 : wl.cell? ⟨X, 0, none⟩ = some (.slice A1 1 c1) := (by first | exact Keeps.cell (kl (fun _ => False)) y0 (fun z => z) | exact Keeps.cell (kl (fun _ => False)) (alloc_cell y0) (fun z => z)); have z1 : wl.cell? ⟨X, 1, none⟩ = some (.slice A2 m c2) := (by first | exact Keeps.cell (kl (fun _ => False)) y1 (fun z => z) | exact Keeps.cell (kl (fun _ => False)) (alloc_cell y1) (fun z => z)); have HM' : Hid (m' < 1000000) := Lib.hid hm'; (first | (have bY := Blk.keeps bX (kl (fun _ => False)) (fun z => z); have X0 : wl.cell? ⟨wa.heap.size, 0, none⟩ = some (.slice none 0 0) := ((show wl.cell? ⟨wa.drew.heap.size, 0, none⟩ = _ from by rw [bY.cell]; rfl)); have X1 : wl.cell? ⟨wa.heap.size, 1, none⟩ = some (.slice none 0 0) := ((show wl.cell? ⟨wa.drew.heap.size, 1, none⟩ = _ from by rw [bY.cell]; rfl)); have F0 : wl.frozen? ⟨wa.heap.size, 0, none⟩ = false := bY.frozen 0; have F1 : wl.frozen? ⟨wa.heap.size, 1, none⟩ = false := bY.frozen 1) | (have bY := Blk.keeps (Blk.new wg 47 #[.slice none 0 0, .slice none 0 0]) (kl (fun _ => False)) (fun z => z); have X0 : wl.cell? ⟨wg.heap.size, 0, none⟩ = some (.slice none 0 0) := (by rw [bY.cell]; rfl); have X1 : wl.cell? ⟨wg.heap.size, 1, none⟩ = some (.slice none 0 0) := (by rw [bY.cell]; rfl); have F0 : wl.frozen? ⟨wg.heap.size, 0, none⟩ = false := bY.frozen 0; have F1 : wl.frozen? ⟨wg.heap.size, 1, none⟩ = false := bY.frozen 1) | skip); have HRD := Lib.hid hrd; have KL := Lib.hid kl; clear hm' hrd kl)
        | (go_at_call 18; refine (AL.out (.slice A1 1 c1) (.slice A2 m c2) cv dv m (wg.alloc _) (HRD0.out _ (((KRA.out.mono (fun b _ z => .inl z)).trans (KG.out _)).alloc _)).1 (HRD0.out _ (((KRA.out.mono (fun b _ z => .inl z)).trans (KG.out _)).alloc _)).2 HSML.out (HBLD.out _ ((Keeps.refl _ wg).alloc _)).1 (HBLD.out _ ((Keeps.refl _ wg).alloc _)).2).mono ?_; rintro e wl ⟨tA, tc, A1', c1', A2', c2', m', mA, mc, rfl, hm', hrd, kl⟩; have q0 : wl.cell? ⟨b, o + j * 2, none⟩ = some (.int .i64 kd) := (by first | exact Keeps.cell (kl (fun _ => False)) p0 (fun z => z) | exact Keeps.cell (kl (fun _ => False)) (alloc_cell p0) (fun z => z)); have q1 : wl.cell? ⟨b, o + j * 2 + 1, none⟩ = some (.int .u64 (vl : Int)) := (by first | exact Keeps.cell (kl (fun _ => False)) p1 (fun z => z) | exact Keeps.cell (kl (fun _ => False)) (alloc_cell p1) (fun z => z)); have z0 : wl.cell? ⟨X, 0, none⟩ = some (.slice A1 1 c1) := (by first | exact Keeps.cell (kl (fun _ => False)) y0 (fun z => z) | exact Keeps.cell (kl (fun _ => False)) (alloc_cell y0) (fun z => z)); have z1 : wl.cell? ⟨X, 1, none⟩ = some (.slice A2 m c2) := (by first | exact Keeps.cell (kl (fun _ => False)) y1 (fun z => z) | exact Keeps.cell (kl (fun _ => False)) (alloc_cell y1) (fun z => z)); have HM' : Hid (m' < 1000000) := Lib.hid hm'; (first | (have bY := Blk.keeps bX (kl (fun _ => False)) (fun z => z); have X0 : wl.cell? ⟨wa.heap.size, 0, none⟩ = some (.slice none 0 0) := ((show wl.cell? ⟨wa.drew.heap.size, 0, none⟩ = _ from by rw [bY.cell]; rfl)); have X1 : wl.cell? ⟨wa.heap.size, 1, none⟩ = some (.slice none 0 0) := ((show wl.cell? ⟨wa.drew.heap.size, 1, none⟩ = _ from by rw [bY.cell]; rfl)); have F0 : wl.frozen? ⟨wa.heap.size, 0, none⟩ = false := bY.frozen 0; have F1 : wl.frozen? ⟨wa.heap.size, 1, none⟩ = false := bY.frozen 1) | (have bY := Blk.keeps (Blk.new wg 47 #[.slice none 0 0, .slice none 0 0]) (kl (fun _ => False)) (fun z => z); have X0 : wl.cell? ⟨wg.heap.size, 0, none⟩ = some (.slice none 0 0) := (by rw [bY.cell]; rfl); have X1 : wl.cell? ⟨wg.heap.size, 1, none⟩ = some (.slice none 0 0) := (by rw [bY.cell]; rfl); have F0 : wl.frozen? ⟨wg.heap.size, 0, none⟩ = false := bY.frozen 0; have F1 : wl.frozen? ⟨wg.heap.size, 1, none⟩ = false := bY.frozen 1) | skip); have HRD := Lib.hid hrd; have KL := Lib.hid kl; clear hm' hrd kl)))
    all_goals
      try (rename_i hheld; clear hheld)
      first
        | (obtain ⟨wz, hwz⟩ : ∃ wz, wz = wl.alloc (.cells #[.slice A1' 1 c1', .slice A2' m' c2'] 47) := ⟨_, rfl⟩
           have hsz : wr.heap.size ≤ wg.heap.size := Nat.le_trans KRA.out.size (KG.out (fun _ => False)).size
           have hsa : wa.heap.size ≤ wg.heap.size := (KG.out (fun _ => False)).size
           have hsr : wr.heap.size ≤ wa.heap.size := KRA.out.size
           obtain ⟨Y, hY⟩ : ∃ Y, Y = wl.heap.size := ⟨_, rfl⟩
           have bz : Blk wz Y 47 [.slice A1' 1 c1', .slice A2' m' c2'] := by rw [hwz, hY]; exact Blk.new wl _ _
           have kz : ∀ S, Keeps S wa wz := fun S => by rw [hwz]; exact (((KG.out S).trans (KL.out S))).alloc _
           have hz : (∀ w'', Keeps (fun b => b < wa.heap.size) wz w'' → IsData w'' w''.heap.size (.slice tA told.length tc) told ∧ IsWords w'' w''.heap.size (.slice A1' 1 c1') [ws'] ∧ IsLists w'' w''.heap.size (.slice A2' m' c2') m' ∧ IsMarks w'' w''.heap.size (.slice mA mks.length mc) mks) := fun w'' kk => HRD.out w'' ((show Keeps _ wl wz by rw [hwz]; exact (Keeps.refl _ wl).alloc _).trans (kk.mono (fun b _ z => by omega)))
           have HYW : Hid (wa.heap.size ≤ Y) := Lib.hid (by rw [hY]; first | exact hsa | exact Nat.le_refl _ | exact Nat.le_trans hsa (by have := (KL.out (fun _ => False)).size; first | exact this | exact Nat.le_trans (by simp) this))
           rw [← hwz, ← hY]
           have BZ := Lib.hid bz
           have KZ : Hid (∀ S, Keeps S wa wz) := Lib.hid kz
           have HZ : Hid (∀ w'', Keeps (fun b => b < wa.heap.size) wz w'' → IsData w'' w''.heap.size (.slice tA told.length tc) told ∧ IsWords w'' w''.heap.size (.slice A1' 1 c1') [ws'] ∧ IsLists w'' w''.heap.size (.slice A2' m' c2') m' ∧ IsMarks w'' w''.heap.size (.slice mA mks.length mc) mks) := Lib.hid hz
           clear hwz hY bz kz hz hsz hsa hsr)
        | (obtain ⟨wz, hwz⟩ : ∃ wz, wz = (wl.setCell ⟨wg.heap.size, 0, none⟩ (.slice A1' 1 c1')).setCell ⟨wg.heap.size, 1, none⟩ (.slice A2' m' c2') := ⟨_, rfl⟩
           have hsz : wr.heap.size ≤ wg.heap.size := Nat.le_trans KRA.out.size (KG.out (fun _ => False)).size
           have hsa : wa.heap.size ≤ wg.heap.size := (KG.out (fun _ => False)).size
           have hsr : wr.heap.size ≤ wa.heap.size := KRA.out.size
           obtain ⟨Y, hY⟩ : ∃ Y, Y = wg.heap.size := ⟨_, rfl⟩
           have bz : Blk wz Y 47 [.slice A1' 1 c1', .slice A2' m' c2'] := by rw [hwz, hY]; simpa using (bY.put 0 (.slice A1' 1 c1')).put 1 (.slice A2' m' c2')
           have kz : ∀ S, Keeps S wa wz := fun S => by rw [hwz]; exact (((((KG.out S).alloc _).trans (KL.out S))).setCell (.inr hsa) _).setCell (.inr hsa) _
           have hz : (∀ w'', Keeps (fun b => b < wa.heap.size) wz w'' → IsData w'' w''.heap.size (.slice tA told.length tc) told ∧ IsWords w'' w''.heap.size (.slice A1' 1 c1') [ws'] ∧ IsLists w'' w''.heap.size (.slice A2' m' c2') m' ∧ IsMarks w'' w''.heap.size (.slice mA mks.length mc) mks) := fun w'' kk => HRD.out w'' ((show Keeps _ wl wz by rw [hwz]; exact ((Keeps.refl _ wl).setCell (.inl (show wg.heap.size < (wg.alloc _).heap.size by simp)) _).setCell (.inl (show wg.heap.size < (wg.alloc _).heap.size by simp)) _).trans (kk.mono (fun b _ z => by show b < (wg.alloc _).heap.size; rw [World.size_alloc]; omega)))
           have HYW : Hid (wa.heap.size ≤ Y) := Lib.hid (by rw [hY]; first | exact hsa | exact Nat.le_refl _ | exact Nat.le_trans hsa (by have := (KL.out (fun _ => False)).size; first | exact this | exact Nat.le_trans (by simp) this))
           rw [← hwz, ← hY]
           have BZ := Lib.hid bz
           have KZ : Hid (∀ S, Keeps S wa wz) := Lib.hid kz
           have HZ : Hid (∀ w'', Keeps (fun b => b < wa.heap.size) wz w'' → IsData w'' w''.heap.size (.slice tA told.length tc) told ∧ IsWords w'' w''.heap.size (.slice A1' 1 c1') [ws'] ∧ IsLists w'' w''.heap.size (.slice A2' m' c2') m' ∧ IsMarks w'' w''.heap.size (.slice mA mks.length mc) mks) := Lib.hid hz
           clear hwz hY bz kz hz hsz hsa hsr)
        | (obtain ⟨wz, hwz⟩ : ∃ wz, wz = (wl.setCell ⟨wa.heap.size, 0, none⟩ (.slice A1' 1 c1')).setCell ⟨wa.heap.size, 1, none⟩ (.slice A2' m' c2') := ⟨_, rfl⟩
           have hsz : wr.heap.size ≤ wg.heap.size := Nat.le_trans KRA.out.size (KG.out (fun _ => False)).size
           have hsa : wa.heap.size ≤ wg.heap.size := (KG.out (fun _ => False)).size
           have hsr : wr.heap.size ≤ wa.heap.size := KRA.out.size
           obtain ⟨Y, hY⟩ : ∃ Y, Y = wa.heap.size := ⟨_, rfl⟩
           have bz : Blk wz Y 47 [.slice A1' 1 c1', .slice A2' m' c2'] := by rw [hwz, hY]; simpa using (bY.put 0 (.slice A1' 1 c1')).put 1 (.slice A2' m' c2')
           have kz : ∀ S, Keeps S wa wz := fun S => by rw [hwz]; exact ((((KG.out S).trans (KL.out S))).setCell (.inr (Nat.le_refl wa.heap.size)) _).setCell (.inr (Nat.le_refl wa.heap.size)) _
           have hz : (∀ w'', Keeps (fun b => b < wa.heap.size) wz w'' → IsData w'' w''.heap.size (.slice tA told.length tc) told ∧ IsWords w'' w''.heap.size (.slice A1' 1 c1') [ws'] ∧ IsLists w'' w''.heap.size (.slice A2' m' c2') m' ∧ IsMarks w'' w''.heap.size (.slice mA mks.length mc) mks) := fun w'' kk => HRD.out w'' ((show Keeps _ wl wz by rw [hwz]; exact ((Keeps.refl _ wl).setCell (.inl bX.lt) _).setCell (.inl bX.lt) _).trans (kk.mono (fun b _ z => by show b < wg.heap.size; omega)))
           have HYW : Hid (wa.heap.size ≤ Y) := Lib.hid (by rw [hY]; first | exact hsa | exact Nat.le_refl _ | exact Nat.le_trans hsa (by have := (KL.out (fun _ => False)).size; first | exact this | exact Nat.le_trans (by simp) this))
           rw [← hwz, ← hY]
           have BZ := Lib.hid bz
           have KZ : Hid (∀ S, Keeps S wa wz) := Lib.hid kz
           have HZ : Hid (∀ w'', Keeps (fun b => b < wa.heap.size) wz w'' → IsData w'' w''.heap.size (.slice tA told.length tc) told ∧ IsWords w'' w''.heap.size (.slice A1' 1 c1') [ws'] ∧ IsLists w'' w''.heap.size (.slice A2' m' c2') m' ∧ IsMarks w'' w''.heap.size (.slice mA mks.length mc) mks) := Lib.hid hz
           clear hwz hY bz kz hz hsz hsa hsr)
      obtain ⟨F', hna⟩ := NA.out
      have nz := hna.keeps (KZ.out (fun _ => False)) (fun _ _ z => z)
      obtain ⟨A8, cap8, e8, rd8⟩ := (HZ.out wz (Keeps.refl _ _)).1
      injection e8 with e81 e82 e83
      subst e81
      obtain ⟨A9, cap9, e9, rd9⟩ := DA.out.keeps (KZ.out (fun _ => False)) (fun _ _ z => z)
      injection e9 with e91 e92 e93
      subst e91
      have HSW := Lib.hid (same_words A0 tA told told.length c0' tc _ _ wz rfl (by have := HTB.out; omega) rd9 rd8)
      have NZ := Lib.hid nz
      clear rd8 rd9 e82 e83 e92 e93 nz hna
      go_wp2_with fail
      refine HSW.out.mono ?_
      rintro e w' ⟨rfl, dd, rfl⟩
      have HMM := Lib.hid (marks_notes wr.heap.size (wz.drewN dd) mks F' (NZ.out.keeps (Keeps.of_drew _ _) (fun _ _ z => z)) (by have := HMB.out.1; omega) HMB.out.2)
      go_wp2_with fail
      refine HMM.out.mono ?_
      rintro e wm ⟨A7, c7, rfl, im, km⟩
      have kzm : ∀ S, Keeps S wz wm := fun S => (Keeps.of_drew _ _).trans (km S)
      obtain ⟨A5, cap5, e5, rd5⟩ := (HZ.out wm (kzm _)).2.2.2
      injection e5 with e51 e52 e53
      subst e51
      obtain ⟨A6, cap6, e6, rd6⟩ := im
      injection e6 with e61 e62 e63
      subst e61
      have HSM := Lib.hid (same_marks A7 mA mks mks.length c7 mc _ _ wm rfl (by have := HMB.out.1; omega) rd6 rd5)
      have KZM : Hid (∀ S, Keeps S wz wm) := Lib.hid kzm
      clear kzm rd5 rd6 e52 e53 e62 e63 km
      go_wp2_with fail
      refine HSM.out.mono ?_
      rintro e w' ⟨rfl, de, rfl⟩
      obtain ⟨wk, hwk⟩ : ∃ wk, wk = wm.drewN de := ⟨_, rfl⟩
      have kk : ∀ S, Keeps S wz wk := fun S => by rw [hwk]; exact (KZM.out S).trans (Keeps.of_drew _ _)
      have bk := Blk.keeps BZ.out (kk (fun _ => False)) (fun z => z)
      have bW := Blk.keeps (Blk.keeps BWA.out (KZ.out (fun _ => False)) (fun z => z)) (kk (fun _ => False)) (fun z => z)
      have xx0 : wk.cell? ⟨Y, 0, none⟩ = some (.slice A1' 1 c1') := by rw [bk.cell]; rfl
      have xx1 : wk.cell? ⟨Y, 1, none⟩ = some (.slice A2' m' c2') := by rw [bk.cell]; rfl
      have ww0 : wk.cell? ⟨X, 0, none⟩ = some (.slice A1 1 c1) := by rw [bW.cell]; rfl
      have ww1 : wk.cell? ⟨X, 1, none⟩ = some (.slice A2 m c2) := by rw [bW.cell]; rfl
      have fw0 := bW.frozen 0
      have fw1 := bW.frozen 1
      have KK : Hid (∀ S, Keeps S wz wk) := Lib.hid kk
      have BW := Lib.hid bW
      clear kk bk bW
      rw [← hwk]
      have hqk := HQA.out.keeps ((KZ.out (fun _ => False)).trans (KK.out _)) (fun _ _ z => z)
      have HQK := Lib.hid hqk
      have bYk := Blk.keeps BZ.out (KK.out (fun _ => False)) (fun z => z)
      have BYK := Lib.hid bYk
      clear hwk hqk bYk xx0 xx1 ww0 ww1 fw0 fw1
      go_wp2_with fail
      go_loopw [15] (fun i wr => ∃ (k : Nat) (l' : List Value), k ≤ told.length ∧ i = .int .i64 (k : Int) ∧ l'.length = told.length ∧ Que wr wn.heap.size 31 (.slice A0 told.length c0') l' ∧ Keeps (fun b => wn.heap.size ≤ b ∧ b < wa.heap.size) wk wr) (fun i _ => told.length + 1 - (intOf i).toNat)
      case atStart => exact ⟨0, _, Nat.zero_le _, rfl, u64s_len _, HQK.out, Keeps.refl _ _⟩
      case round =>
        clear HQK
        obtain ⟨k, l', hk, rfl, hl', hq', hkx⟩ := hrel
        by_cases hkl : k < told.length
        · obtain ⟨g, o', u, hA0, hg1, hg2, hcu, hfu, hn0, hcc, hset⟩ := Go.Proofs.Ytlpgdpdjaoppbaa.rf7.Que.spot hq' (k := k) (by omega)
          have hgw : g < wa.heap.size := HOWN.out g (by rw [hA0]; rfl)
          have hkl' : (k : Int) < (told.length : Int) := by omega
          have hk0 : (0 : Int) ≤ (k : Int) := by omega
          have hkb : (k : Int) ≤ 100 := by have := HTB.out; omega
          have HSET := Lib.hid (hset (.int .u64 99))
          have HKX := Lib.hid (hkx.setCell (p := ⟨g, o' + k, none⟩) (.inl ⟨hg1, hgw⟩) (.int .u64 99))
          have HLL := Lib.hid (show (l'.set k (.int .u64 99)).length = told.length by simpa using hl')
          clear hset hq' hkx hn0 hl' hcc
          subst hA0
          go_wp2_with fail
          go_roundw
          case rel => exact ⟨k + 1, _, by omega, by go_num, HLL.out, HSET.out, HKX.out⟩
          case measure => simp [intOf]; omega
        · have hkl' : ¬ (k : Int) < (told.length : Int) := by omega
          have hle := HWN.out
          have bYx := Blk.keeps BYK.out hkx (by have := HYW.out; omega)
          have bXx := Blk.keeps BW.out hkx (by have := HOR.out; omega)
          have xx0 : wr.cell? ⟨Y, 0, none⟩ = some (.slice A1' 1 c1') := by rw [bYx.cell]; rfl
          have xx1 : wr.cell? ⟨Y, 1, none⟩ = some (.slice A2' m' c2') := by rw [bYx.cell]; rfl
          have ww0 : wr.cell? ⟨X, 0, none⟩ = some (.slice A1 1 c1) := by rw [bXx.cell]; rfl
          have ww1 : wr.cell? ⟨X, 1, none⟩ = some (.slice A2 m c2) := by rw [bXx.cell]; rfl
          have fw0 := bXx.frozen 0
          have fw1 := bXx.frozen 1
          have HKX := Lib.hid hkx
          have BX := Lib.hid bXx
          clear hkx bXx bYx hq' hle
          go_wp2_with fail
          go_roundw
          case rel => exact ⟨j + 1, ws', rowOf n r vl row, A1', c1', A2', c2', m', by omega, by go_num, round_end HR.out RA.out HK.out.2.2.2.1 HWS.out KRA.out KZ.out HWN.out.1 ((KK.out _).trans HKX.out) BX.out (fun w'' kk => ⟨(HZ.out w'' kk).2.1, (HZ.out w'' kk).2.2.1⟩) HM'.out⟩
          case measure => simp [intOf]; omega
end Go.Proofs.Ytlpgdpdjaoppbaa.oc
