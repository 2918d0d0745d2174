/-
  GaugeNames' body.
-/
import Derived.Test.YtadnkidbglhdlaaGaO
import Derived.Test.YtadnkidbglhdlaaGaN
import Derived.Test.YtadnkidbglhdlaaMzSameM
set_option linter.unusedVariables false
namespace Go.Proofs.Ytadnkidbglhdlaa.oc
open Go.RowKit Go.Proofs.Ytadnkidbglhdlaa.mz Go.Proofs.Ytadnkidbglhdlaa.ga
theorem nm_news (l f t : Nat) (lI fI tI : Int) (w : World) (h1 : (l : Int) = lI) (h2 : (f : Int) = fI) (h3 : (t : Int) = tI) : Calls Try.prog 3 #[.int .u64 lI, .int .u64 fI, .int .u64 tI] w fun e w' => e = .returned (.bool true) ∧ ∀ S, Keeps S w w' := by
  subst h1; subst h2; subst h3; exact news_ l f t w
set_option maxRecDepth 100000 in
set_option maxHeartbeats 8000000 in
theorem walk_gaugeNames (w : World) : Calls Try.prog 5 #[] w fun e w' => e = .returned (.bool true) ∧ Below w.heap.size w w' := by
  go_enter Try.func5, Try.ntmps5
  go_wp2_with fail
  go_loopw [1, 2, 3] (fun x b i wr => ∃ k : Nat, k ≤ 2 ∧ i = .int .i64 (k : Int) ∧ Off wr x ∧ Off wr b ∧ ∀ S, Keeps S w wr) (fun _ _ i _ => 2 - (intOf i).toNat)
  case atStart => exact ⟨0, by omega, rfl, .inl rfl, .inl rfl, fun S => Keeps.refl S w⟩
  case round =>
    obtain ⟨k, hk, rfl, hx, hb, hkk⟩ := hrel
    have HK : Hid (∀ S, Keeps S w wr) := Lib.hid hkk
    have HNN := fun w => Lib.hid (new_notes w)
    by_cases hlt : k < 2
    · have hlt' : (k : Int) < 2 := by omega
      have HX := Lib.hid hx
      have HB := Lib.hid hb
      clear hx hb hkk
      go_wp2_with fail
      refine (HNN wr).out.mono ?_
      rintro e w1 ⟨rfl, n1, k1⟩
      have off : ∀ v, Off wr v → Off w1 v := fun v h => by
        rcases h with h | ⟨E, h, c⟩
        · exact .inl h
        · exact .inr ⟨E, h, Keeps.cell (k1 (fun _ => False)) c (fun z => z)⟩
      have HE := fun gv => Lib.hid (off_enter _ gv w1 (off _ HX.out))
      have HG := fun gv => Lib.hid (off_get _ gv w1 (off _ HX.out))
      have HL := fun gv => Lib.hid (off_leave _ gv w1 (off _ HX.out))
      have HA := fun gv now => Lib.hid (off_ask _ gv w1 now (off _ HB.out))
      have HS := fun gv => Lib.hid (off_state _ gv w1 (off _ HB.out))
      have HT := fun gv now g => Lib.hid (off_tell _ gv w1 now g (off _ HB.out))
      have HM := Lib.hid (marks_none _ w1 _ n1)
      have K1 : Hid (∀ S, Keeps S w w1) := Lib.hid (fun S => (HK.out S).trans (k1 S))
      clear n1 k1 off HX HB
      generalize wr.heap.size = N at *
      go_wp2_with fail
      refine (HE _).out.mono ?_
      rintro e w' ⟨rfl, rfl⟩
      go_wp2_with fail
      refine (HG _).out.mono ?_
      rintro e w' ⟨rfl, rfl⟩
      go_wp2_with fail
      refine (HA _ _).out.mono ?_
      rintro e w' ⟨rfl, rfl⟩
      go_wp2_with fail
      refine (HS _).out.mono ?_
      rintro e w' ⟨rfl, rfl⟩
      go_wp2_with fail
      refine (HL _).out.mono ?_
      rintro e w' ⟨rfl, rfl⟩
      go_wp2_with fail
      refine (HT _ _ _).out.mono ?_
      rintro e w' ⟨rfl, rfl⟩
      go_wp2_with fail
      refine HM.out.mono ?_
      rintro e w' ⟨rfl, rfl⟩
      have b1 := Blk.new w1 55 #[.pointer none, .int .u64 0, .pointer none, .pointer none]
      have b1' := b1.alloc (.cells #[.pointer none, .int .u64 0, .int .u64 0, .int .u64 0] 62)
      have b2 := Blk.new (w1.alloc (.cells #[.pointer none, .int .u64 0, .pointer none, .pointer none] 55)) 62 #[.pointer none, .int .u64 0, .int .u64 0, .int .u64 0]
      have q1 := Lib.hid (show ((w1.alloc (.cells #[.pointer none, .int .u64 0, .pointer none, .pointer none] 55)).alloc (.cells #[.pointer none, .int .u64 0, .int .u64 0, .int .u64 0] 62)).cell? ⟨w1.heap.size, 0, none⟩ = some (.pointer none) from by rw [b1'.cell]; rfl)
      have q2 := Lib.hid (show ((w1.alloc (.cells #[.pointer none, .int .u64 0, .pointer none, .pointer none] 55)).alloc (.cells #[.pointer none, .int .u64 0, .int .u64 0, .int .u64 0] 62)).cell? ⟨w1.heap.size + 1, 0, none⟩ = some (.pointer none) from by
        have hz : (w1.alloc (.cells #[.pointer none, .int .u64 0, .pointer none, .pointer none] 55)).heap.size = w1.heap.size + 1 := by show (w1.heap.push _).size = _; simp
        rw [hz] at b2
        rw [b2.cell]; rfl)
      clear b1 b1' b2
      go_wp2_with fail
      go_roundw
      case rel => exact ⟨k + 1, by omega, by go_num, .inr ⟨_, rfl, q1.out⟩, .inr ⟨_, rfl, q2.out⟩, fun S => ((K1.out S).alloc _).alloc _⟩
      case measure => simp [intOf]; omega
    · obtain rfl : k = 2 := by omega
      clear hx hb hkk
      have hm := made_ 0 0 0 wr (by omega) (by omega) (by omega)
      rw [show ((0 : Nat) : Int) = 0 from rfl, show 1 + 0 % 1048576 = 1 from rfl] at hm
      have HM := Lib.hid hm
      have HWK := fun w => Lib.hid (awake_ w)
      have HNW := fun l f t lI fI tI w h1 h2 h3 => Lib.hid (nm_news l f t lI fI tI w h1 h2 h3)
      have hpp := pair_ptr
      clear hm
      go_wp2_with fail
      refine HM.out.mono ?_
      rintro e w1 ⟨P, G, C, E, D, rfl, m⟩
      have M := Lib.hid m
      have K1 : Hid (∀ S, Keeps S w w1) := Lib.hid (fun S => (HK.out S).trans (m.keep S))
      have hp := m.pr
      unfold Pr at hp
      have p2 : w1.cell? ⟨P, 2, none⟩ = some (.int .u64 1) := by rw [hp.cell]; rfl
      clear m HM
      go_wp2_with fail
      refine (HNN w1).out.mono ?_
      rintro e w2 ⟨rfl, n2, k2⟩
      have hp2 := Blk.keeps hp (k2 (fun _ => False)) (fun z => z)
      have p0 : w2.cell? ⟨P, 0, none⟩ = some (.pointer (some ⟨G, 0, none⟩)) := by rw [hp2.cell]; rfl
      have g2 := M.out.gg.all k2
      have hlt1 := M.out.gg.blk.lt
      have hlt2 := M.out.gg.c.1.lt
      have hlt3 := M.out.gg.e.1.lt
      have HLV := Lib.hid (gag.leave_bare G C E 1 0 w2 w1.heap.size (· = w1.heap.size) g2 n2 (by omega) (by omega) (by omega) (fun b hb => (n2.above b hb).2))
      have HO := Lib.hid (show w.heap.size ≤ w1.heap.size ∧ w.heap.size ≤ C ∧ w1.heap.size ≠ C from ⟨(K1.out (fun _ => False)).size, by have := M.out.old; have := (HK.out (fun _ => False)).size; omega, by omega⟩)
      have K2 : Hid (∀ S, Keeps S w w2) := Lib.hid (fun S => (K1.out S).trans (k2 S))
      clear p2 hp hp2 n2 k2 g2 hlt1 hlt2 hlt3 M
      generalize w1.heap.size = N at *
      go_wp2_with fail
      refine HLV.out.mono ?_
      rintro e w3 ⟨rfl, n3, k3⟩
      have N3 := Lib.hid n3
      have K3 : Hid (Keeps (fun b => b = N ∨ b = C) w w3) := Lib.hid ((K2.out _).trans k3)
      clear n3 k3 HLV
      go_wp2_with fail
      refine (HWK w3).out.mono ?_
      rintro e w4 ⟨rfl, k4⟩
      have N4 := Lib.hid (N3.out.keeps (k4 (fun _ => False)) (fun _ _ z => z))
      have K4 : Hid (Keeps (fun b => b = N ∨ b = C) w w4) := Lib.hid (K3.out.trans (k4 _))
      clear k4
      go_wp2_with fail
      have hmk := marks_notes N w4 [(1, 0)] _ N4.out (by decide) (by decide)
      rw [show ([(1, 0)] : List (Nat × Nat)).length = 1 from rfl] at hmk
      refine hmk.mono ?_
      rintro e w5 ⟨A, c, rfl, hm, k5⟩
      obtain ⟨A', c', he, hrd⟩ := hm
      injection he with he1 hlen he2
      clear hlen
      subst he1
      subst he2
      have HRD := Lib.hid hrd
      have K5 : Hid (Keeps (fun b => b = N ∨ b = C) w w5) := Lib.hid (K4.out.trans (k5 _))
      clear hrd k5 hmk hlt hk HWK hpp p0
      have HNW2 := Lib.hid HNW
      clear HNW
      go_wp2_with fail
      obtain ⟨w6, hw6, k6, b6⟩ := enter_blk w5 #[.int .u8 1, .int .i64 0] 66
      rw [← hw6]
      have hrd : Rd w6 w5.heap.size A (flat2 [(1, 0)]) := fun k v hk => by
        obtain ⟨b, o, h1, h2, h3⟩ := HRD.out k v hk
        exact ⟨b, o, h1, h2, Keeps.cell (k6 (fun _ => False)) h3 (fun z => z)⟩
      have b6' : Blk w6 w5.heap.size 66 (flat2 [(1, 0)]) := b6
      have hrd' : Rd w6 w6.heap.size (some ⟨w5.heap.size, 0, none⟩) (flat2 [(1, 0)]) := fun k v hk => ⟨w5.heap.size, 0, rfl, b6'.lt, by rw [b6'.cell, Nat.zero_add]; exact hk⟩
      have HSM := Lib.hid (same_marks A (some ⟨w5.heap.size, 0, none⟩) [(1, 0)] 1 c 1 _ _ w6 rfl (by omega) hrd hrd')
      have K6 : Hid (Keeps (fun b => b = N ∨ b = C) w w6) := Lib.hid (K5.out.trans (k6 _))
      clear hw6 k6 b6 b6' hrd hrd'
      refine HSM.out.mono ?_
      rintro e w7 ⟨rfl, d, hd⟩
      have K7 : Hid (Keeps (fun b => b = N ∨ b = C) w w7) := Lib.hid (by rw [← hd]; exact K6.out.trans (Keeps.of_drew _ _))
      clear hd HSM
      go_wp2_with fail
      refine (HNW2.out 0 1 1 0 1 1 w7 rfl rfl rfl).out.mono ?_
      rintro e w8 ⟨rfl, k⟩
      have K8 : Hid (Keeps (fun b => b = N ∨ b = C) w w8) := Lib.hid (K7.out.trans (k _))
      clear k
      go_wp2_with fail
      refine (HNW2.out 1048576 1048576 1099511627776 1048576 1048576 1099511627776 w8 rfl rfl rfl).out.mono ?_
      rintro e w9 ⟨rfl, k⟩
      have K9 : Hid (Keeps (fun b => b = N ∨ b = C) w w9) := Lib.hid (K8.out.trans (k _))
      clear k
      go_wp2_with fail
      refine (HNW2.out 1048577 1048577 1 1048577 1048577 1 w9 rfl rfl rfl).out.mono ?_
      rintro e w10 ⟨rfl, k⟩
      have K10 : Hid (Keeps (fun b => b = N ∨ b = C) w w10) := Lib.hid (K9.out.trans (k _))
      clear k
      go_wp2_with fail
      refine (HNW2.out 1099511627776 1 1099511627777 1099511627776 1 1099511627777 w10 rfl rfl rfl).out.mono ?_
      rintro e w11 ⟨rfl, k⟩
      have K11 : Hid (Keeps (fun b => b = N ∨ b = C) w w11) := Lib.hid (K10.out.trans (k _))
      clear k
      go_wp2_with fail
      refine (HNW2.out 1099511627777 1 1 1099511627777 1 1 w11 rfl rfl rfl).out.mono ?_
      rintro e w12 ⟨rfl, k⟩
      have K12 : Hid (Keeps (fun b => b = N ∨ b = C) w w12) := Lib.hid (K11.out.trans (k _))
      clear k
      go_wp2
      go_ret
      exact ⟨rfl, (K12.out.mono (S' := fun _ => False) (fun b hb z => by have := HO.out; omega)).below⟩
end Go.Proofs.Ytadnkidbglhdlaa.oc
