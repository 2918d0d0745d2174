/-
  MeterNotes' body.
-/
import Derived.Test.YtgenblefbddilaaRf13r
import Derived.Test.YtgenblefbddilaaMtE
import Derived.Test.YtgenblefbddilaaMtM
import Derived.Test.YtgenblefbddilaaMzSame
import Derived.Test.YtgenblefbddilaaMzAlone
import Derived.Test.YtgenblefbddilaaOcRecs
import Derived.Deep.RegionHeld3
set_option linter.unusedVariables false
namespace Go.Proofs.Ytgenblefbddilaa.oc
open Go.RowKit Go.Proofs.Ytgenblefbddilaa.oc Go.Proofs.Ytgenblefbddilaa.mz Go.Proofs.Ytgenblefbddilaa.at_ Go.Proofs.Ytgenblefbddilaa.gt Go.Proofs.Ytgenblefbddilaa.gw Go.Proofs.Ytgenblefbddilaa.bk Go.Proofs.Ytgenblefbddilaa.bp Go.Proofs.Ytgenblefbddilaa.mt Go.Proofs.Ytgenblefbddilaa.rf13
set_option maxRecDepth 100000 in
set_option maxHeartbeats 8000000 in
theorem walk_meterNotes (w : World) (n d u : Nat) (hnn : n < 18446744073709551616) (hdd : d < 18446744073709551616) (huu : u < 18446744073709551616) (A : Option Addr) (m0 c0 : Nat) (xs : List (List Int)) (hd : IsRecs w [.i64, .u64, .u64] A m0 xs) (hm0 : m0 ≤ 140737488351232) :
    Calls Try.prog 3 #[.agg #[.int .u64 (n : Int), .int .u64 (d : Int), .int .u64 (u : Int)], .slice A m0 c0] w fun e w' => e = .returned (.bool true) ∧ Below w.heap.size w w' := by
  have hep : ∀ w : World, (binOp .eql 26 (.pointer none) (.pointer none)).run Try.prog w = .ok (.bool true) w := fun w => by kernel_rfl
  have HD := Lib.hid hd
  clear hd hnn hdd huu
  by_cases hp : May n d u
  case neg =>
    have HN := fun w => Lib.hid (new_err n d u w hp)
    have HM := fun w => Lib.hid (may_no n d u w hp)
    unfold bv at HN HM
    clear hp
    go_enter Try.func3, Try.ntmps3
    go_wp2_with fail
    have B0 := Blk.new w 24 #[.int .u64 (n : Int), .int .u64 (d : Int), .int .u64 (u : Int)]
    refine (HN _).out.mono ?_
    rintro e w1 ⟨rfl, k1⟩
    have B1 := Blk.keeps B0 (k1 (fun _ => False)) (fun z => z)
    have K1 : Hid (∀ S, Keeps S w w1) := Lib.hid (fun S => ((Keeps.refl S w).alloc _).trans (k1 S))
    have x0 : w1.cell? ⟨w.heap.size, 0, none⟩ = some (.int .u64 (n : Int)) := by rw [B1.cell]; rfl
    have x1 : w1.cell? ⟨w.heap.size, 1, none⟩ = some (.int .u64 (d : Int)) := by rw [B1.cell]; rfl
    have x2 : w1.cell? ⟨w.heap.size, 2, none⟩ = some (.int .u64 (u : Int)) := by rw [B1.cell]; rfl
    clear k1 B0 B1
    go_wp2_with fail
    refine (HM _).out.mono ?_
    rintro e w2 ⟨rfl, k2⟩
    have K2 : Hid (∀ S, Keeps S w w2) := Lib.hid (fun S => (K1.out S).trans (k2 S))
    clear k2 x0 x1 x2 K1
    go_wp2_with fail
    refine (works_ w2).mono ?_
    rintro e we ⟨rfl, ke⟩
    have KE : Hid (∀ S, Keeps S w we) := Lib.hid (fun S => (K2.out S).trans (ke S))
    clear ke
    go_wp2
    try rw [Exit.noGoto_ret]
    go_ret
    exact ⟨rfl, (KE.out (fun _ => False)).below⟩
  have HN := fun w => Lib.hid (new_ok n d u w hp)
  have HM := fun w => Lib.hid (may_yes n d u w hp)
  unfold bv at HN HM
  have hbn := bucket_neq (n : Int) (d : Int) (u : Int)
  clear hp
  go_enter Try.func3, Try.ntmps3
  go_wp2_with fail
  have B0 := Blk.new w 24 #[.int .u64 (n : Int), .int .u64 (d : Int), .int .u64 (u : Int)]
  refine (HN _).out.mono ?_
  rintro e w1 ⟨D, rfl, r1, hD, k1⟩
  have B1 := Blk.keeps B0 (k1 (fun _ => False)) (fun z => z)
  have K1 : Hid (∀ S, Keeps S w w1) := Lib.hid (fun S => ((Keeps.refl S w).alloc _).trans (k1 S))
  have HPD : Hid (w.heap.size < D) := Lib.hid (by rw [World.size_alloc] at hD; omega)
  have R1 := Lib.hid r1
  have BP := Lib.hid B1
  have x0 : w1.cell? ⟨w.heap.size, 0, none⟩ = some (.int .u64 (n : Int)) := by rw [B1.cell]; rfl
  have x1 : w1.cell? ⟨w.heap.size, 1, none⟩ = some (.int .u64 (d : Int)) := by rw [B1.cell]; rfl
  have x2 : w1.cell? ⟨w.heap.size, 2, none⟩ = some (.int .u64 (u : Int)) := by rw [B1.cell]; rfl
  clear k1 B0 B1 r1 hD HN
  go_wp2_with fail
  refine (HM _).out.mono ?_
  rintro e w2 ⟨rfl, k2⟩
  have K2 : Hid (∀ S, Keeps S w1 w2) := Lib.hid k2
  have y0 := Keeps.cell (k2 (fun _ => False)) x0 (fun z => z)
  have y1 := Keeps.cell (k2 (fun _ => False)) x1 (fun z => z)
  have y2 := Keeps.cell (k2 (fun _ => False)) x2 (fun z => z)
  have HB := fun (w3 : World) (k3 : ∀ S, Keeps S w1 w3) => Lib.hid (bucket_ n d u w3 D 0 (R1.out.keeps (k3 (fun _ => False)) (fun z => z)))
  unfold bv at HB
  clear k2 x0 x1 x2 HM
  go_wp2_with fail
  go_region_held3 (fun w' => w'.cell? ⟨w.heap.size, 0, none⟩ = some (.int .u64 (n : Int)) ∧ w'.cell? ⟨w.heap.size, 1, none⟩ = some (.int .u64 (d : Int)) ∧ w'.cell? ⟨w.heap.size, 2, none⟩ = some (.int .u64 (u : Int)))
    (first | exact ⟨z0, z1, z2⟩ | exact ⟨y0, y1, y2⟩)
    ((first
      | (go_at_call 8; refine (HB _ (fun S => (K2.out S).drew)).out.mono ?_; rintro e w3 ⟨rfl, k3⟩; have z0 := Keeps.cell (k3 (fun _ => False)) (show w2.drew.cell? _ = _ from y0) (fun z => z); have z1 := Keeps.cell (k3 (fun _ => False)) (show w2.drew.cell? _ = _ from y1) (fun z => z); have z2 := Keeps.cell (k3 (fun _ => False)) (show w2.drew.cell? _ = _ from y2) (fun z => z); have K3 : Hid (∀ S, Keeps S w1 w3) := Lib.hid (fun S => ((K2.out S).drew).trans (k3 S)); clear k3)))
  rename_i hheld
  have R3 := R1.out.keeps (K3.out (fun _ => False)) (fun z => z)
  have BP3 := Blk.keeps BP.out (K3.out (fun _ => False)) (fun z => z)
  have HR3 := Lib.hid (And.intro R3 BP3)
  clear hheld y0 y1 y2 z0 z1 z2 hbn HB R3 BP3
  go_wp2_with fail
  refine (world_ w3).mono ?_
  rintro e ww ⟨wv, lv, rfl, hr, kw⟩
  obtain ⟨⟨A1, c1, hwv, _⟩, ⟨A2, c2, hlv, _⟩⟩ := hr ww (Keeps.refl _ _)
  subst hwv
  subst hlv
  have HBEG := Lib.hid (begins HR3.out.1 (Nat.le_of_lt HPD.out) HR3.out.2 (Nat.ne_of_lt HPD.out) ((K1.out _).trans (K3.out _)) hr kw)
  clear hr kw
  simp only [List.length_singleton] at HBEG
  go_wp2_with fail
  generalize ww.alloc (.cells #[.slice A1 1 c1, .slice A2 1 c2] 36) = wst at *
  generalize ww.heap.size = X at *

  go_loopw [8] (fun i wr => ∃ (j : Nat) (ws : List Nat) (A1 : Option Addr) (c1 : Nat) (A2 : Option Addr) (c2 m : Nat), j ≤ 60 ∧ i = .int .i64 j ∧ Rnd w wr D n d u w.heap.size X ws j (.slice A1 1 c1) (.slice A2 m c2) m) (fun i _ => 60 + 1 - (intOf i).toNat)
  case atStart => exact ⟨0, _, A1, c1, A2, c2, 1, Nat.zero_le _, rfl, HBEG.out⟩
  case round =>
    clear HBEG
    obtain ⟨j, ws, A1, c1, A2, c2, m, hj, rfl, hR⟩ := hrel
    have HR := Lib.hid hR
    clear hR
    by_cases hjl : j < m0
    case neg =>
      have hjl' : ¬ (j : Int) < (m0 : Int) := by omega
      go_wp2_with fail
      refine (works_ wr).mono ?_
      rintro e we ⟨rfl, ke⟩
      have KE := Lib.hid (HR.out.keep.trans (ke _))
      clear ke
      go_wp2
      try rw [Exit.noGoto_ret]
      go_ret
      exact ⟨rfl, (KE.out.only (fun b z => z)).below⟩
    have hjl' : (j : Int) < (m0 : Int) := by omega
    by_cases hj6 : j < 60
    case neg =>
      have hj6' : ¬ (j : Int) < 60 := by omega
      go_wp2_with fail
      refine (works_ wr).mono ?_
      rintro e we ⟨rfl, ke⟩
      have KE := Lib.hid (HR.out.keep.trans (ke _))
      clear ke
      go_wp2
      try rw [Exit.noGoto_ret]
      go_ret
      exact ⟨rfl, (KE.out.only (fun b z => z)).below⟩
    have hj6' : (j : Int) < 60 := by omega
    obtain ⟨xx, hx⟩ : ∃ z, xs[j]? = some z := ⟨_, List.getElem?_eq_getElem (by rw [HD.out.1]; exact hjl)⟩
    obtain ⟨hxl, hwf, b, o, rfl, hbl, hcl⟩ := HD.out.2 j xx hx
    obtain ⟨kd, now', k', rfl⟩ : ∃ kd now' k', xx = [kd, now', k'] := by
      match xx, hxl with
      | [e0, e1, e2], _ => exact ⟨e0, e1, e2, rfl⟩
    have hf0 := hwf 0 .i64 _ rfl rfl
    have hc0 := hcl 0 .i64 _ rfl rfl
    have hb0 := wf_i64 _ hf0
    have hf1 := hwf 1 .u64 _ rfl rfl
    have hc1 := hcl 1 .u64 _ rfl rfl
    have hb1 := wf_u64 _ hf1
    obtain ⟨now, rfl⟩ := Int.eq_ofNat_of_zero_le hb1.1
    have hf2 := hwf 2 .u64 _ rfl rfl
    have hc2 := hcl 2 .u64 _ rfl rfl
    have hb2 := wf_u64 _ hf2
    obtain ⟨k, rfl⟩ := Int.eq_ofNat_of_zero_le hb2.1
    simp only [List.length_cons, List.length_nil, Nat.zero_add, Nat.reduceAdd, Nat.add_zero] at hc0 hc1 hc2
    obtain ⟨r, hr3, hkr⟩ : ∃ r : Nat, r < 3 ∧ kd % 3 = (r : Int) := ⟨(kd % 3).toNat, by omega, by omega⟩
    have hw0 := Keeps.cell HR.out.keep hc0 (by omega)
    have hw1 := Keeps.cell HR.out.keep hc1 (by omega)
    have hw2 := Keeps.cell HR.out.keep hc2 (by omega)
    have HOR := Lib.hid (show b < w.heap.size ∧ X < wr.heap.size from ⟨hbl, HR.out.world.lt⟩)
    have j0 : (0 : Int) ≤ (j : Int) := by omega
    have HK : Hid ((-9223372036854775808 ≤ kd ∧ kd ≤ 9223372036854775807 ∧ now < 18446744073709551616 ∧ k < 18446744073709551616) ∧ r < 3 ∧ kd % 3 = (r : Int)) := Lib.hid ⟨⟨hb0.1, (by omega), (by omega), (by omega)⟩, hr3, hkr⟩
    clear hx hxl hwf hcl hc0 hf0 hb0 hc1 hf1 hb1 hc2 hf2 hb2 hr3 hkr
    go_wp2_with fail
    refine (new_notes wr).mono ?_
    rintro e wn ⟨rfl, nn, kn⟩
    have hn0 := Keeps.cell (kn (fun _ => False)) hw0 (fun z => z)
    have hn1 := Keeps.cell (kn (fun _ => False)) hw1 (fun z => z)
    have hn2 := Keeps.cell (kn (fun _ => False)) hw2 (fun z => z)
    have HDN := Lib.hid (rd_done HR.out kd now k r (by omega) HK.out.2.1 HK.out.2.2 HK.out.1 nn kn)
    have KN : Hid (∀ S, Keeps S wr wn) := Lib.hid kn
    clear nn kn
    obtain ⟨ws', hws'⟩ : ∃ ws', ws' = (outOf n d u r now k ws).next := ⟨_, rfl⟩
    obtain ⟨told, htold⟩ : ∃ told, told = (outOf n d u r now k ws).told := ⟨_, rfl⟩
    obtain ⟨mks, hmks⟩ : ∃ mks, mks = (outOf n d u r now k ws).marks := ⟨_, rfl⟩
    have HMB : Hid (mks.length ≤ 1000 ∧ told.length ≤ 1000) := Lib.hid (by rw [hmks, htold]; exact rd_few HR.out kd now k r (by omega))
    have hal := fun (wv lv cv dv : Value) (m : Nat) (w : World) => rd_alone HR.out kd now k r (by omega) HK.out.2.1 HK.out.1 wv lv cv dv m w
    rw [← hws', ← htold, ← hmks] at HDN
    simp only [← hws', ← htold, ← hmks] at hal
    have HWS := Lib.hid hws'
    clear hws' htold hmks
    go_wp2_with fail
    refine HDN.out.mono ?_
    rintro e wa ⟨A0, c0', rfl, hdat, hgn, hob, kra⟩
    have bWa := Blk.keeps HR.out.world kra HR.out.apart
    have a0 : wa.cell? ⟨b, o + j * 3, none⟩ = some (.int .i64 kd) := Keeps.cell kra hw0 (HR.out.old _ HOR.out.1)
    have a1 : wa.cell? ⟨b, o + j * 3 + 1, none⟩ = some (.int .u64 (now : Int)) := Keeps.cell kra hw1 (HR.out.old _ HOR.out.1)
    have a2 : wa.cell? ⟨b, o + j * 3 + 2, none⟩ = some (.int .u64 (k : Int)) := Keeps.cell kra hw2 (HR.out.old _ HOR.out.1)
    have x0 : wa.cell? ⟨X, 0, none⟩ = some (.slice A1 1 c1) := by rw [bWa.cell]; rfl
    have x1 : wa.cell? ⟨X, 1, none⟩ = some (.slice A2 m c2) := by rw [bWa.cell]; rfl
    have bPa := Blk.keeps HR.out.wild kra HR.out.neP.1
    have ea0 : wa.cell? ⟨w.heap.size, 0, none⟩ = some (.int .u64 (n : Int)) := by rw [bPa.cell]; rfl
    have ea1 : wa.cell? ⟨w.heap.size, 1, none⟩ = some (.int .u64 (d : Int)) := by rw [bPa.cell]; rfl
    have ea2 : wa.cell? ⟨w.heap.size, 2, none⟩ = some (.int .u64 (u : Int)) := by rw [bPa.cell]; rfl
    clear bPa
    have RA := Lib.hid hob
    have NA := Lib.hid hgn
    have DA := Lib.hid hdat
    have KRA := Lib.hid kra
    have BWA := Lib.hid bWa
    have HRD0 : Hid (∀ w'', Keeps (fun b => b = D ∨ b = X) wr w'' → IsWords w'' w''.heap.size (.slice A1 1 c1) [ws] ∧ IsLists w'' w''.heap.size (.slice A2 m c2) m) := Lib.hid HR.out.read
    have HSML : Hid (m < 1000000) := Lib.hid HR.out.small
    have AL : Hid (∀ (wv lv cv dv : Value) (m : Nat) (w : World), _) := Lib.hid (fun (wv lv cv dv : Value) (m : Nat) (w : World) q1 q2 q3 q4 q5 => hal wv lv cv dv m w q1 q2 q3 q4 q5)
    clear hal hob hgn hdat kra bWa hw0 hn0 hw1 hn1 hw2 hn2 HDN
    go_wp2_with fail
    go_region_held3 (fun w' => w'.cell? ⟨b, o + j * 3, none⟩ = some (.int .i64 kd) ∧ w'.cell? ⟨b, o + j * 3 + 1, none⟩ = some (.int .u64 (now : Int)) ∧ w'.cell? ⟨b, o + j * 3 + 2, none⟩ = some (.int .u64 (k : Int)) ∧ w'.cell? ⟨X, 0, none⟩ = some (.slice A1 1 c1) ∧ w'.cell? ⟨X, 1, none⟩ = some (.slice A2 m c2) ∧ w'.cell? ⟨w.heap.size, 0, none⟩ = some (.int .u64 (n : Int)) ∧ w'.cell? ⟨w.heap.size, 1, none⟩ = some (.int .u64 (d : Int)) ∧ w'.cell? ⟨w.heap.size, 2, none⟩ = some (.int .u64 (u : Int)))
      (first | exact ⟨a0, a1, a2, x0, x1, ea0, ea1, ea2⟩ | exact ⟨p0, p1, p2, y0, y1, eb0, eb1, eb2⟩ | exact ⟨alloc_cell a0, alloc_cell a1, alloc_cell a2, alloc_cell x0, alloc_cell x1, alloc_cell ea0, alloc_cell ea1, alloc_cell ea2⟩ | exact ⟨alloc_cell p0, alloc_cell p1, alloc_cell p2, alloc_cell y0, alloc_cell y1, alloc_cell eb0, alloc_cell eb1, alloc_cell eb2⟩ | exact ⟨q0, q1, q2, z0, z1, ec0, ec1, ec2⟩ | exact ⟨alloc_cell q0, alloc_cell q1, alloc_cell q2, alloc_cell z0, alloc_cell z1, alloc_cell ec0, alloc_cell ec1, alloc_cell ec2⟩ | exact ⟨two_cell q0 (Nat.ne_of_lt (Keeps.lt_cell p0)), two_cell q1 (Nat.ne_of_lt (Keeps.lt_cell p0)), two_cell q2 (Nat.ne_of_lt (Keeps.lt_cell p0)), two_cell z0 (Nat.ne_of_lt (Keeps.lt_cell y0)), two_cell z1 (Nat.ne_of_lt (Keeps.lt_cell y0)), two_cell ec0 (Nat.ne_of_lt (Keeps.lt_cell eb0)), two_cell ec1 (Nat.ne_of_lt (Keeps.lt_cell eb0)), two_cell ec2 (Nat.ne_of_lt (Keeps.lt_cell eb0))⟩ | exact ⟨two_cell q0 (Nat.ne_of_lt (Keeps.lt_cell a0)), two_cell q1 (Nat.ne_of_lt (Keeps.lt_cell a0)), two_cell q2 (Nat.ne_of_lt (Keeps.lt_cell a0)), two_cell z0 (Nat.ne_of_lt (Keeps.lt_cell x0)), two_cell z1 (Nat.ne_of_lt (Keeps.lt_cell x0)), two_cell ec0 (Nat.ne_of_lt (Keeps.lt_cell ea0)), two_cell ec1 (Nat.ne_of_lt (Keeps.lt_cell ea0)), two_cell ec2 (Nat.ne_of_lt (Keeps.lt_cell ea0))⟩)
      ((first
        | (go_at_call 13; refine (rd_call HR.out kd now k r HK.out.2.1 HK.out.2.2 HK.out.1 _).mono ?_; rintro e wg ⟨cv, dv, rfl, hbld, kg⟩; have p0 : wg.cell? ⟨b, o + j * 3, none⟩ = some (.int .i64 kd) := (by first | exact Keeps.cell (kg (fun _ => False)) (show wa.drew.cell? _ = _ from a0) (fun z => z) | exact Keeps.cell (kg (fun _ => False)) (alloc_cell (show wa.drew.cell? _ = _ from a0)) (fun z => z)); have p1 : wg.cell? ⟨b, o + j * 3 + 1, none⟩ = some (.int .u64 (now : Int)) := (by first | exact Keeps.cell (kg (fun _ => False)) (show wa.drew.cell? _ = _ from a1) (fun z => z) | exact Keeps.cell (kg (fun _ => False)) (alloc_cell (show wa.drew.cell? _ = _ from a1)) (fun z => z)); have p2 : wg.cell? ⟨b, o + j * 3 + 2, none⟩ = some (.int .u64 (k : Int)) := (by first | exact Keeps.cell (kg (fun _ => False)) (show wa.drew.cell? _ = _ from a2) (fun z => z) | exact Keeps.cell (kg (fun _ => False)) (alloc_cell (show wa.drew.cell? _ = _ from a2)) (fun z => z)); have y0 : wg.cell? ⟨X, 0, none⟩ = some (.slice A1 1 c1) := (by first | exact Keeps.cell (kg (fun _ => False)) (show wa.drew.cell? _ = _ from x0) (fun z => z) | exact Keeps.cell (kg (fun _ => False)) (alloc_cell (show wa.drew.cell? _ = _ from x0)) (fun z => z)); have y1 : wg.cell? ⟨X, 1, none⟩ = some (.slice A2 m c2) := (by first | exact Keeps.cell (kg (fun _ => False)) (show wa.drew.cell? _ = _ from x1) (fun z => z) | exact Keeps.cell (kg (fun _ => False)) (alloc_cell (show wa.drew.cell? _ = _ from x1)) (fun z => z)); have eb0 : wg.cell? ⟨w.heap.size, 0, none⟩ = some (.int .u64 (n : Int)) := (by first | exact Keeps.cell (kg (fun _ => False)) (show wa.drew.cell? _ = _ from ea0) (fun z => z) | exact Keeps.cell (kg (fun _ => False)) (alloc_cell (show wa.drew.cell? _ = _ from ea0)) (fun z => z)); have eb1 : wg.cell? ⟨w.heap.size, 1, none⟩ = some (.int .u64 (d : Int)) := (by first | exact Keeps.cell (kg (fun _ => False)) (show wa.drew.cell? _ = _ from ea1) (fun z => z) | exact Keeps.cell (kg (fun _ => False)) (alloc_cell (show wa.drew.cell? _ = _ from ea1)) (fun z => z)); have eb2 : wg.cell? ⟨w.heap.size, 2, none⟩ = some (.int .u64 (u : Int)) := (by first | exact Keeps.cell (kg (fun _ => False)) (show wa.drew.cell? _ = _ from ea2) (fun z => z) | exact Keeps.cell (kg (fun _ => False)) (alloc_cell (show wa.drew.cell? _ = _ from ea2)) (fun z => z)); have HBLD : Hid (∀ w'', Keeps (fun b => b < wa.heap.size) wg w'' → IsCode w'' w''.heap.size cv (codeOf n d u r now k) ∧ IsData w'' w''.heap.size dv []) := Lib.hid (fun w'' kk => hbld w'' (kk.mono (fun b _ z => by first | exact z | exact Nat.lt_of_lt_of_le z (by simp)))); have KG : Hid (∀ S, Keeps S wa wg) := Lib.hid (fun S => (by first | exact ((Keeps.refl S wa).drew).trans (kg S) | exact (((Keeps.refl S wa).drew).alloc _).trans (kg S))); (first | (have bX := Blk.keeps (Blk.new wa.drew 36 #[.slice none 0 0, .slice none 0 0]) (kg (fun _ => False)) (fun z => z)) | skip); clear hbld kg)
        | (go_at_call 12; refine (AL.out (.slice A1 1 c1) (.slice A2 m c2) cv dv m wg (HRD0.out _ ((KRA.out.mono (fun b _ z => .inl z)).trans (KG.out _))).1 (HRD0.out _ ((KRA.out.mono (fun b _ z => .inl z)).trans (KG.out _))).2 HSML.out (HBLD.out _ (Keeps.refl _ _)).1 (HBLD.out _ (Keeps.refl _ _)).2).mono ?_; rintro e wl ⟨tA, tc, A1', c1', A2', c2', m', mA, mc, rfl, hm', hrd, kl⟩; have q0 : wl.cell? ⟨b, o + j * 3, none⟩ = some (.int .i64 kd) := (by first | exact Keeps.cell (kl (fun _ => False)) p0 (fun z => z) | exact Keeps.cell (kl (fun _ => False)) (alloc_cell p0) (fun z => z)); have q1 : wl.cell? ⟨b, o + j * 3 + 1, none⟩ = some (.int .u64 (now : Int)) := (by first | exact Keeps.cell (kl (fun _ => False)) p1 (fun z => z) | exact Keeps.cell (kl (fun _ => False)) (alloc_cell p1) (fun z => z)); have q2 : wl.cell? ⟨b, o + j * 3 + 2, none⟩ = some (.int .u64 (k : Int)) := (by first | exact Keeps.cell (kl (fun _ => False)) p2 (fun z => z) | exact Keeps.cell (kl (fun _ => False)) (alloc_cell p2) (fun z => z)); have z0 : wl.cell? ⟨X, 0, none⟩ = some (.slice A1 1 c1) := (by first | exact Keeps.cell (kl (fun _ => False)) y0 (fun z => z) | exact Keeps.cell (kl (fun _ => False)) (alloc_cell y0) (fun z => z)); have z1 : wl.cell? ⟨X, 1, none⟩ = some (.slice A2 m c2) := (by first | exact Keeps.cell (kl (fun _ => False)) y1 (fun z => z) | exact Keeps.cell (kl (fun _ => False)) (alloc_cell y1) (fun z => z)); have ec0 : wl.cell? ⟨w.heap.size, 0, none⟩ = some (.int .u64 (n : Int)) := (by first | exact Keeps.cell (kl (fun _ => False)) eb0 (fun z => z) | exact Keeps.cell (kl (fun _ => False)) (alloc_cell eb0) (fun z => z)); have ec1 : wl.cell? ⟨w.heap.size, 1, none⟩ = some (.int .u64 (d : Int)) := (by first | exact Keeps.cell (kl (fun _ => False)) eb1 (fun z => z) | exact Keeps.cell (kl (fun _ => False)) (alloc_cell eb1) (fun z => z)); have ec2 : wl.cell? ⟨w.heap.size, 2, none⟩ = some (.int .u64 (u : Int)) := (by first | exact Keeps.cell (kl (fun _ => False)) eb2 (fun z => z) | exact Keeps.cell (kl (fun _ => False)) (alloc_cell eb2) (fun z => z)); have HM' : Hid (m' < 1000000) := Lib.hid hm'; (first | (have bY := Blk.keeps bX (kl (fun _ => False)) (fun z => z); have X0 : wl.cell? ⟨wa.heap.size, 0, none⟩ = some (.slice none 0 0) := ((show wl.cell? ⟨wa.drew.heap.size, 0, none⟩ = _ from by rw [bY.cell]; rfl)); have X1 : wl.cell? ⟨wa.heap.size, 1, none⟩ = some (.slice none 0 0) := ((show wl.cell? ⟨wa.drew.heap.size, 1, none⟩ = _ from by rw [bY.cell]; rfl)); have F0 : wl.frozen? ⟨wa.heap.size, 0, none⟩ = false := bY.frozen 0; have F1 : wl.frozen? ⟨wa.heap.size, 1, none⟩ = false := bY.frozen 1) | (have bY := Blk.keeps (Blk.new wg 36 #[.slice none 0 0, .slice none 0 0]) (kl (fun _ => False)) (fun z => z); have X0 : wl.cell? ⟨wg.heap.size, 0, none⟩ = some (.slice none 0 0) := (by rw [bY.cell]; rfl); have X1 : wl.cell? ⟨wg.heap.size, 1, none⟩ = some (.slice none 0 0) := (by rw [bY.cell]; rfl); have F0 : wl.frozen? ⟨wg.heap.size, 0, none⟩ = false := bY.frozen 0; have F1 : wl.frozen? ⟨wg.heap.size, 1, none⟩ = false := bY.frozen 1) | skip); have HRD := Lib.hid hrd; have KL := Lib.hid kl; clear hm' hrd kl)
        | (go_at_call 12; refine (AL.out (.slice A1 1 c1) (.slice A2 m c2) cv dv m (wg.alloc _) (HRD0.out _ (((KRA.out.mono (fun b _ z => .inl z)).trans (KG.out _)).alloc _)).1 (HRD0.out _ (((KRA.out.mono (fun b _ z => .inl z)).trans (KG.out _)).alloc _)).2 HSML.out (HBLD.out _ ((Keeps.refl _ wg).alloc _)).1 (HBLD.out _ ((Keeps.refl _ wg).alloc _)).2).mono ?_; rintro e wl ⟨tA, tc, A1', c1', A2', c2', m', mA, mc, rfl, hm', hrd, kl⟩; have q0 : wl.cell? ⟨b, o + j * 3, none⟩ = some (.int .i64 kd) := (by first | exact Keeps.cell (kl (fun _ => False)) p0 (fun z => z) | exact Keeps.cell (kl (fun _ => False)) (alloc_cell p0) (fun z => z)); have q1 : wl.cell? ⟨b, o + j * 3 + 1, none⟩ = some (.int .u64 (now : Int)) := (by first | exact Keeps.cell (kl (fun _ => False)) p1 (fun z => z) | exact Keeps.cell (kl (fun _ => False)) (alloc_cell p1) (fun z => z)); have q2 : wl.cell? ⟨b, o + j * 3 + 2, none⟩ = some (.int .u64 (k : Int)) := (by first | exact Keeps.cell (kl (fun _ => False)) p2 (fun z => z) | exact Keeps.cell (kl (fun _ => False)) (alloc_cell p2) (fun z => z)); have z0 : wl.cell? ⟨X, 0, none⟩ = some (.slice A1 1 c1) := (by first | exact Keeps.cell (kl (fun _ => False)) y0 (fun z => z) | exact Keeps.cell (kl (fun _ => False)) (alloc_cell y0) (fun z => z)); have z1 : wl.cell? ⟨X, 1, none⟩ = some (.slice A2 m c2) := (by first | exact Keeps.cell (kl (fun _ => False)) y1 (fun z => z) | exact Keeps.cell (kl (fun _ => False)) (alloc_cell y1) (fun z => z)); have ec0 : wl.cell? ⟨w.heap.size, 0, none⟩ = some (.int .u64 (n : Int)) := (by first | exact Keeps.cell (kl (fun _ => False)) eb0 (fun z => z) | exact Keeps.cell (kl (fun _ => False)) (alloc_cell eb0) (fun z => z)); have ec1 : wl.cell? ⟨w.heap.size, 1, none⟩ = some (.int .u64 (d : Int)) := (by first | exact Keeps.cell (kl (fun _ => False)) eb1 (fun z => z) | exact Keeps.cell (kl (fun _ => False)) (alloc_cell eb1) (fun z => z)); have ec2 : wl.cell? ⟨w.heap.size, 2, none⟩ = some (.int .u64 (u : Int)) := (by first | exact Keeps.cell (kl (fun _ => False)) eb2 (fun z => z) | exact Keeps.cell (kl (fun _ => False)) (alloc_cell eb2) (fun z => z)); have HM' : Hid (m' < 1000000) := Lib.hid hm'; (first | (have bY := Blk.keeps bX (kl (fun _ => False)) (fun z => z); have X0 : wl.cell? ⟨wa.heap.size, 0, none⟩ = some (.slice none 0 0) := ((show wl.cell? ⟨wa.drew.heap.size, 0, none⟩ = _ from by rw [bY.cell]; rfl)); have X1 : wl.cell? ⟨wa.heap.size, 1, none⟩ = some (.slice none 0 0) := ((show wl.cell? ⟨wa.drew.heap.size, 1, none⟩ = _ from by rw [bY.cell]; rfl)); have F0 : wl.frozen? ⟨wa.heap.size, 0, none⟩ = false := bY.frozen 0; have F1 : wl.frozen? ⟨wa.heap.size, 1, none⟩ = false := bY.frozen 1) | (have bY := Blk.keeps (Blk.new wg 36 #[.slice none 0 0, .slice none 0 0]) (kl (fun _ => False)) (fun z => z); have X0 : wl.cell? ⟨wg.heap.size, 0, none⟩ = some (.slice none 0 0) := (by rw [bY.cell]; rfl); have X1 : wl.cell? ⟨wg.heap.size, 1, none⟩ = some (.slice none 0 0) := (by rw [bY.cell]; rfl); have F0 : wl.frozen? ⟨wg.heap.size, 0, none⟩ = false := bY.frozen 0; have F1 : wl.frozen? ⟨wg.heap.size, 1, none⟩ = false := bY.frozen 1) | skip); have HRD := Lib.hid hrd; have KL := Lib.hid kl; clear hm' hrd kl)))
    all_goals
      try (rename_i hheld; clear hheld)
      first
        | (obtain ⟨wz, hwz⟩ : ∃ wz, wz = wl.alloc (.cells #[.slice A1' 1 c1', .slice A2' m' c2'] 36) := ⟨_, rfl⟩
           have hsz : wr.heap.size ≤ wg.heap.size := Nat.le_trans KRA.out.size (KG.out (fun _ => False)).size
           have hsa : wa.heap.size ≤ wg.heap.size := (KG.out (fun _ => False)).size
           have hsr : wr.heap.size ≤ wa.heap.size := KRA.out.size
           obtain ⟨Y, hY⟩ : ∃ Y, Y = wl.heap.size := ⟨_, rfl⟩
           have bz : Blk wz Y 36 [.slice A1' 1 c1', .slice A2' m' c2'] := by rw [hwz, hY]; exact Blk.new wl _ _
           have kz : ∀ S, Keeps S wa wz := fun S => by rw [hwz]; exact (((KG.out S).trans (KL.out S))).alloc _
           have hz : (∀ w'', Keeps (fun b => b < wr.heap.size) wz w'' → IsData w'' w''.heap.size (.slice tA told.length tc) told ∧ IsWords w'' w''.heap.size (.slice A1' 1 c1') [ws'] ∧ IsLists w'' w''.heap.size (.slice A2' m' c2') m' ∧ IsMarks w'' w''.heap.size (.slice mA mks.length mc) mks) := fun w'' kk => HRD.out w'' ((show Keeps _ wl wz by rw [hwz]; exact (Keeps.refl _ wl).alloc _).trans (kk.mono (fun b _ z => by omega)))
           rw [← hwz, ← hY]
           have BZ := Lib.hid bz
           have KZ : Hid (∀ S, Keeps S wa wz) := Lib.hid kz
           have HZ : Hid (∀ w'', Keeps (fun b => b < wr.heap.size) wz w'' → IsData w'' w''.heap.size (.slice tA told.length tc) told ∧ IsWords w'' w''.heap.size (.slice A1' 1 c1') [ws'] ∧ IsLists w'' w''.heap.size (.slice A2' m' c2') m' ∧ IsMarks w'' w''.heap.size (.slice mA mks.length mc) mks) := Lib.hid hz
           clear hwz hY bz kz hz hsz hsa hsr)
        | (obtain ⟨wz, hwz⟩ : ∃ wz, wz = (wl.setCell ⟨wg.heap.size, 0, none⟩ (.slice A1' 1 c1')).setCell ⟨wg.heap.size, 1, none⟩ (.slice A2' m' c2') := ⟨_, rfl⟩
           have hsz : wr.heap.size ≤ wg.heap.size := Nat.le_trans KRA.out.size (KG.out (fun _ => False)).size
           have hsa : wa.heap.size ≤ wg.heap.size := (KG.out (fun _ => False)).size
           have hsr : wr.heap.size ≤ wa.heap.size := KRA.out.size
           obtain ⟨Y, hY⟩ : ∃ Y, Y = wg.heap.size := ⟨_, rfl⟩
           have bz : Blk wz Y 36 [.slice A1' 1 c1', .slice A2' m' c2'] := by rw [hwz, hY]; simpa using (bY.put 0 (.slice A1' 1 c1')).put 1 (.slice A2' m' c2')
           have kz : ∀ S, Keeps S wa wz := fun S => by rw [hwz]; exact (((((KG.out S).alloc _).trans (KL.out S))).setCell (.inr hsa) _).setCell (.inr hsa) _
           have hz : (∀ w'', Keeps (fun b => b < wr.heap.size) wz w'' → IsData w'' w''.heap.size (.slice tA told.length tc) told ∧ IsWords w'' w''.heap.size (.slice A1' 1 c1') [ws'] ∧ IsLists w'' w''.heap.size (.slice A2' m' c2') m' ∧ IsMarks w'' w''.heap.size (.slice mA mks.length mc) mks) := fun w'' kk => HRD.out w'' ((show Keeps _ wl wz by rw [hwz]; exact ((Keeps.refl _ wl).setCell (.inl (show wg.heap.size < (wg.alloc _).heap.size by simp)) _).setCell (.inl (show wg.heap.size < (wg.alloc _).heap.size by simp)) _).trans (kk.mono (fun b _ z => by show b < (wg.alloc _).heap.size; rw [World.size_alloc]; omega)))
           rw [← hwz, ← hY]
           have BZ := Lib.hid bz
           have KZ : Hid (∀ S, Keeps S wa wz) := Lib.hid kz
           have HZ : Hid (∀ w'', Keeps (fun b => b < wr.heap.size) wz w'' → IsData w'' w''.heap.size (.slice tA told.length tc) told ∧ IsWords w'' w''.heap.size (.slice A1' 1 c1') [ws'] ∧ IsLists w'' w''.heap.size (.slice A2' m' c2') m' ∧ IsMarks w'' w''.heap.size (.slice mA mks.length mc) mks) := Lib.hid hz
           clear hwz hY bz kz hz hsz hsa hsr)
        | (obtain ⟨wz, hwz⟩ : ∃ wz, wz = (wl.setCell ⟨wa.heap.size, 0, none⟩ (.slice A1' 1 c1')).setCell ⟨wa.heap.size, 1, none⟩ (.slice A2' m' c2') := ⟨_, rfl⟩
           have hsz : wr.heap.size ≤ wg.heap.size := Nat.le_trans KRA.out.size (KG.out (fun _ => False)).size
           have hsa : wa.heap.size ≤ wg.heap.size := (KG.out (fun _ => False)).size
           have hsr : wr.heap.size ≤ wa.heap.size := KRA.out.size
           obtain ⟨Y, hY⟩ : ∃ Y, Y = wa.heap.size := ⟨_, rfl⟩
           have bz : Blk wz Y 36 [.slice A1' 1 c1', .slice A2' m' c2'] := by rw [hwz, hY]; simpa using (bY.put 0 (.slice A1' 1 c1')).put 1 (.slice A2' m' c2')
           have kz : ∀ S, Keeps S wa wz := fun S => by rw [hwz]; exact ((((KG.out S).trans (KL.out S))).setCell (.inr (Nat.le_refl wa.heap.size)) _).setCell (.inr (Nat.le_refl wa.heap.size)) _
           have hz : (∀ w'', Keeps (fun b => b < wr.heap.size) wz w'' → IsData w'' w''.heap.size (.slice tA told.length tc) told ∧ IsWords w'' w''.heap.size (.slice A1' 1 c1') [ws'] ∧ IsLists w'' w''.heap.size (.slice A2' m' c2') m' ∧ IsMarks w'' w''.heap.size (.slice mA mks.length mc) mks) := fun w'' kk => HRD.out w'' ((show Keeps _ wl wz by rw [hwz]; exact ((Keeps.refl _ wl).setCell (.inl bX.lt) _).setCell (.inl bX.lt) _).trans (kk.mono (fun b _ z => by show b < wg.heap.size; omega)))
           rw [← hwz, ← hY]
           have BZ := Lib.hid bz
           have KZ : Hid (∀ S, Keeps S wa wz) := Lib.hid kz
           have HZ : Hid (∀ w'', Keeps (fun b => b < wr.heap.size) wz w'' → IsData w'' w''.heap.size (.slice tA told.length tc) told ∧ IsWords w'' w''.heap.size (.slice A1' 1 c1') [ws'] ∧ IsLists w'' w''.heap.size (.slice A2' m' c2') m' ∧ IsMarks w'' w''.heap.size (.slice mA mks.length mc) mks) := Lib.hid hz
           clear hwz hY bz kz hz hsz hsa hsr)
      obtain ⟨F', hna⟩ := NA.out
      have nz := hna.keeps (KZ.out (fun _ => False)) (fun _ _ z => z)
      obtain ⟨A8, cap8, e8, rd8⟩ := (HZ.out wz (Keeps.refl _ _)).1
      injection e8 with e81 e82 e83
      subst e81
      obtain ⟨A9, cap9, e9, rd9⟩ := DA.out.keeps (KZ.out (fun _ => False)) (fun _ _ z => z)
      injection e9 with e91 e92 e93
      subst e91
      have HSW := Lib.hid (same_words A0 tA told told.length c0' tc _ _ wz rfl (by have := HMB.out; omega) rd9 rd8)
      have NZ := Lib.hid nz
      clear rd8 rd9 e82 e83 e92 e93 nz hna
      go_wp2_with fail
      refine HSW.out.mono ?_
      rintro e w' ⟨rfl, dd, rfl⟩
      have HMM := Lib.hid (marks_any wr.heap.size (wz.drewN dd) mks F' (NZ.out.keeps (Keeps.of_drew _ _) (fun _ _ z => z)) (by have := HMB.out.1; omega))
      go_wp2_with fail
      refine HMM.out.mono ?_
      rintro e wm ⟨A7, c7, rfl, im, km⟩
      have kzm : ∀ S, Keeps S wz wm := fun S => (Keeps.of_drew _ _).trans (km S)
      obtain ⟨A5, cap5, e5, rd5⟩ := (HZ.out wm (kzm _)).2.2.2
      injection e5 with e51 e52 e53
      subst e51
      obtain ⟨A6, cap6, e6, rd6⟩ := im
      injection e6 with e61 e62 e63
      subst e61
      have HSM := Lib.hid (same_marks A7 mA mks mks.length c7 mc _ _ wm rfl (by have := HMB.out.1; omega) rd6 rd5)
      have KZM : Hid (∀ S, Keeps S wz wm) := Lib.hid kzm
      clear kzm rd5 rd6 e52 e53 e62 e63 km
      go_wp2_with fail
      refine HSM.out.mono ?_
      rintro e w' ⟨rfl, de, rfl⟩
      obtain ⟨wk, hwk⟩ : ∃ wk, wk = wm.drewN de := ⟨_, rfl⟩
      have kk : ∀ S, Keeps S wz wk := fun S => by rw [hwk]; exact (KZM.out S).trans (Keeps.of_drew _ _)
      have bk := Blk.keeps BZ.out (kk (fun _ => False)) (fun z => z)
      have bW := Blk.keeps (Blk.keeps BWA.out (KZ.out (fun _ => False)) (fun z => z)) (kk (fun _ => False)) (fun z => z)
      have xx0 : wk.cell? ⟨Y, 0, none⟩ = some (.slice A1' 1 c1') := by rw [bk.cell]; rfl
      have xx1 : wk.cell? ⟨Y, 1, none⟩ = some (.slice A2' m' c2') := by rw [bk.cell]; rfl
      have ww0 : wk.cell? ⟨X, 0, none⟩ = some (.slice A1 1 c1) := by rw [bW.cell]; rfl
      have ww1 : wk.cell? ⟨X, 1, none⟩ = some (.slice A2 m c2) := by rw [bW.cell]; rfl
      have fw0 := bW.frozen 0
      have fw1 := bW.frozen 1
      have KK : Hid (∀ S, Keeps S wz wk) := Lib.hid kk
      have BW := Lib.hid bW
      clear kk bk bW
      rw [← hwk]
      clear hwk
      go_wp2_with fail
      go_roundw
      case rel => exact ⟨j + 1, _, A1', c1', A2', c2', m', by omega, by go_num, round_end HR.out kd now k r HWS.out RA.out KRA.out KZ.out KK.out BW.out (fun w'' kk => ⟨(HZ.out w'' kk).2.1, (HZ.out w'' kk).2.2.1⟩) HM'.out⟩
      case measure => simp [intOf]; omega
end Go.Proofs.Ytgenblefbddilaa.oc
