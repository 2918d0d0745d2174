/-
  patchbaylaw03's works; the machine alone at a call.
-/
import Derived.Test.YtakpfkfhbeobeaaCeAll
import Derived.Test.YtakpfkfhbeobeaaMzK2
set_option linter.unusedVariables false
namespace Go.Proofs.Ytakpfkfhbeobeaa.ce
open Go.RowKit Go.Proofs.Ytakpfkfhbeobeaa.oc Go.Proofs.Ytakpfkfhbeobeaa.mz Go.Proofs.Ytakpfkfhbeobeaa.rf3
theorem three_box (w : World) (x y z : Value) : ∃ w1, w1 = w.alloc (.cells #[x, y, z] 31) ∧ (∀ S, Keeps S w w1) ∧ Blk w1 w.heap.size 31 [x, y, z] := enter_blk w #[x, y, z] _
set_option maxRecDepth 100000 in
set_option maxHeartbeats 8000000 in
theorem works_ (w : World) : Calls Try.prog 14 #[] w fun e w' => e = .returned (.bool true) ∧ ∀ S, Keeps S w w' := by
  have e0 : W64 = 18446744073709551616 := W64_eq
  have HM := Lib.hid (made_any 5 7 w (by omega))
  have h5 : ((5 : Nat) : Int) = 5 := rfl
  have h7 : ((7 : Nat) : Int) = 7 := rfl
  rw [h5, h7] at HM
  clear h5 h7
  go_enter Try.func14, Try.ntmps14
  go_wp2_with fail
  refine HM.out.mono ?_
  rintro e w1 ⟨C, L, B, E, rfl, cl1, k1, nC, nL, nB, nE⟩
  obtain ⟨w2, hw2, k2, b2⟩ := three_box w1 (.pointer (some ⟨C, 0, none⟩)) (.pointer (some ⟨L, 0, none⟩)) (.pointer (some ⟨B, 0, none⟩))
  have cl2 := cl1.keeps (k2 (fun _ => False)) id id id id
  have HW2 := Lib.hid hw2
  have K2 : Hid (Keeps (fun b => w.heap.size ≤ b) w w2) := Lib.hid ((k1 _).trans (k2 _))
  have HN : Hid (w.heap.size ≤ C ∧ w.heap.size ≤ L ∧ w.heap.size ≤ B ∧ w.heap.size ≤ w1.heap.size ∧ C < w1.heap.size ∧ L < w1.heap.size ∧ B < w1.heap.size) := Lib.hid ⟨nC, nL, nB, (k1 (fun _ => False)).size, cl1.lt.1, cl1.lt.2.1, cl1.lt.2.2.1⟩
  have CL2 := Lib.hid cl2
  have B2 := Lib.hid b2
  clear cl1 k1 nC nL nB nE hw2 k2 b2 cl2 HM
  generalize hP : w1.heap.size = P at *
  have HS0 := Lib.hid (cnt_up_yes C 5 3 8 .nilIface w2 [] (fun _ => False) CL2.out.cnt (.inl rfl) (by simp) id (fun _ z => z.elim) (by omega) (by omega) (by omega) (by omega))
  have pc0 : w2.cell? ⟨P, 0, none⟩ = some (.pointer (some ⟨C, 0, none⟩)) := by rw [B2.out.cell]; rfl
  simp only [e0] at HS0
  go_wp2_with fail
  rw [← HW2.out]
  go_wp2_with fail
  refine HS0.out.mono ?_
  rintro e w3 ⟨rfl, hp0⟩
  obtain ⟨cl3, _, _, kk0⟩ := fin_cnt (c' := 8) CL2.out (by simpa [e0] using hp0) id id id
  have K3 : Hid (Keeps (fun b => w.heap.size ≤ b) w w3) := Lib.hid (K2.out.trans (kk0.mono (fun b _ z => by have := HN.out; rcases z with z | z | z | z; exact z.elim; omega; omega; omega)))
  have B3 := Lib.hid (Blk.keeps B2.out kk0 (fun z => by have := HN.out; rcases z with z | z | z | z; exact z; omega; omega; omega))
  have CL3 := Lib.hid cl3
  clear cl3 hp0 kk0 pc0 HS0
  have HS1 := Lib.hid (cnt_up_no2 C 8 1 8 .nilIface w3 [] (fun _ => False) CL3.out.cnt (.inl rfl) (by simp) id (fun _ z => z.elim) (by omega) (by omega) (by omega) (by omega))
  have pc1 : w3.cell? ⟨P, 0, none⟩ = some (.pointer (some ⟨C, 0, none⟩)) := by rw [B3.out.cell]; rfl
  go_wp2_with fail
  refine HS1.out.mono ?_
  rintro e w4 ⟨rfl, hp1⟩
  obtain ⟨cl4, _, _, kk1⟩ := fin_cnt (c' := 8) CL3.out (by simpa [e0] using hp1) id id id
  have K4 : Hid (Keeps (fun b => w.heap.size ≤ b) w w4) := Lib.hid (K3.out.trans (kk1.mono (fun b _ z => by have := HN.out; rcases z with z | z | z | z; exact z.elim; omega; omega; omega)))
  have B4 := Lib.hid (Blk.keeps B3.out kk1 (fun z => by have := HN.out; rcases z with z | z | z | z; exact z; omega; omega; omega))
  have CL4 := Lib.hid cl4
  clear cl4 hp1 kk1 pc1 HS1
  have HS2 := Lib.hid (flg_set0 L .nilIface w4 [] (fun _ => False) CL4.out.flg (.inl rfl) (by simp) id)
  have pc2 : w4.cell? ⟨P, 1, none⟩ = some (.pointer (some ⟨L, 0, none⟩)) := by rw [B4.out.cell]; rfl
  go_wp2_with fail
  refine HS2.out.mono ?_
  rintro e w5 ⟨rfl, hp2⟩
  obtain ⟨cl5, _, _, kk2⟩ := fin_flg (y := 1) CL4.out (by omega) hp2 id id id
  have K5 : Hid (Keeps (fun b => w.heap.size ≤ b) w w5) := Lib.hid (K4.out.trans (kk2.mono (fun b _ z => by have := HN.out; rcases z with z | z | z | z; exact z.elim; omega; omega; omega)))
  have B5 := Lib.hid (Blk.keeps B4.out kk2 (fun z => by have := HN.out; rcases z with z | z | z | z; exact z; omega; omega; omega))
  have CL5 := Lib.hid cl5
  clear cl5 hp2 kk2 pc2 HS2
  have HS3 := Lib.hid (flg_set1 L .nilIface w5 [] (fun _ => False) CL5.out.flg (.inl rfl) (by simp) id)
  have pc3 : w5.cell? ⟨P, 1, none⟩ = some (.pointer (some ⟨L, 0, none⟩)) := by rw [B5.out.cell]; rfl
  go_wp2_with fail
  refine HS3.out.mono ?_
  rintro e w6 ⟨rfl, hp3⟩
  obtain ⟨cl6, _, _, kk3⟩ := fin_flg (y := 1) CL5.out (by omega) hp3 id id id
  have K6 : Hid (Keeps (fun b => w.heap.size ≤ b) w w6) := Lib.hid (K5.out.trans (kk3.mono (fun b _ z => by have := HN.out; rcases z with z | z | z | z; exact z.elim; omega; omega; omega)))
  have B6 := Lib.hid (Blk.keeps B5.out kk3 (fun z => by have := HN.out; rcases z with z | z | z | z; exact z; omega; omega; omega))
  have CL6 := Lib.hid cl6
  clear cl6 hp3 kk3 pc3 HS3
  have HS4 := Lib.hid (box_put B E 7 0 9 .nilIface w6 [] (fun _ => False) CL6.out.box (.inl rfl) (by simp) id id (fun _ z => z.elim))
  have pc4 : w6.cell? ⟨P, 2, none⟩ = some (.pointer (some ⟨B, 0, none⟩)) := by rw [B6.out.cell]; rfl
  simp only [e0] at HS4
  go_wp2_with fail
  refine HS4.out.mono ?_
  rintro e w7 ⟨rfl, hp4⟩
  obtain ⟨E4, F4, cl7, _, _, _, kk4⟩ := fin_box (v2 := 9) (n2 := 1) CL6.out (by simpa [e0] using hp4) id id
  have K7 : Hid (Keeps (fun b => w.heap.size ≤ b) w w7) := Lib.hid (K6.out.trans (kk4.mono (fun b _ z => by have := HN.out; rcases z with z | z | z | z; exact z.elim; omega; omega; omega)))
  have B7 := Lib.hid (Blk.keeps B6.out kk4 (fun z => by have := HN.out; rcases z with z | z | z | z; exact z; omega; omega; omega))
  have CL7 := Lib.hid cl7
  clear cl7 hp4 kk4 pc4 HS4
  have HS5 := Lib.hid (box_get B E4 9 1 .nilIface w7 [] (fun _ => False) CL7.out.box (.inl rfl) (by simp) id id)
  have pc5 : w7.cell? ⟨P, 2, none⟩ = some (.pointer (some ⟨B, 0, none⟩)) := by rw [B7.out.cell]; rfl
  go_wp2_with fail
  refine HS5.out.mono ?_
  rintro e w8 ⟨rfl, hp5⟩
  obtain ⟨E5, F5, cl8, _, _, _, kk5⟩ := fin_box (v2 := 9) (n2 := 1) CL7.out (by simpa [e0] using hp5) id id
  have K8 : Hid (Keeps (fun b => w.heap.size ≤ b) w w8) := Lib.hid (K7.out.trans (kk5.mono (fun b _ z => by have := HN.out; rcases z with z | z | z | z; exact z.elim; omega; omega; omega)))
  have B8 := Lib.hid (Blk.keeps B7.out kk5 (fun z => by have := HN.out; rcases z with z | z | z | z; exact z; omega; omega; omega))
  have CL8 := Lib.hid cl8
  clear cl8 hp5 kk5 pc5 HS5
  go_wp2
  go_ret
  exact ⟨rfl, fun S => (K8.out.only (fun b z => z)).mono (fun _ _ z => z.elim)⟩
theorem alone_ {k dn dm dv c x v n c' x' v' n' m : Nat} {told : List Nat} {mk : List (Nat × Nat)} (hS : Step k dn dm dv c x v n c' x' v' n' told mk) (wv lv cv dvv : Value) (w : World) (hc : c < 18446744073709551616) (hx : x < 2) (hb : box n v < 18446744073709551616) (hw : IsWords w w.heap.size wv [[c], [x], [box n v]]) (hl : IsLists w w.heap.size lv m) (hm : m < 1000000) (hcd : IsCode w w.heap.size cv (codeOf k dn dm dv)) (hd : IsData w w.heap.size dvv []) :
    Calls Try.prog 9 #[.agg #[wv, lv], .agg #[cv, dvv]] w fun e w' => ∃ tA tc A cc A2 c2 m' mA mc, e = .returned (.tuple #[.slice tA told.length tc, .agg #[.slice A 3 cc, .slice A2 m' c2], .slice mA mk.length mc]) ∧ m' < 1000000 ∧
      (∀ w'', Keeps (fun b => b < w.heap.size) w' w'' → IsData w'' w''.heap.size (.slice tA told.length tc) told ∧ IsWords w'' w''.heap.size (.slice A 3 cc) [[c'], [x'], [box n' v']] ∧ IsLists w'' w''.heap.size (.slice A2 m' c2) m' ∧ IsMarks w'' w''.heap.size (.slice mA mk.length mc) mk) ∧ ∀ S, Keeps S w w' := by
  obtain ⟨pl, h1, h2, h3, h4⟩ := hS.mach
  have hlen2 : pl.trace.length = mk.length := by rw [← h3]; simp
  have hcl : (codeOf k dn dm dv).length < 1000000 := by unfold codeOf; (repeat' split) <;> simp [getCode, addCode, upCode, downCode, maxCode, turnCode, getBox, putBox, tryBox]
  refine (alone_any 40 10 w.heap.size m wv lv cv dvv [[c], [x], [box n v]] _ [] w hw hl hcd hd (Nat.le_refl _) (by simp) hm (by simp) (fun l hl y hy => ?_) hcl pl h1 true told h4 (by have := hS.few.2.1; omega)).mono ?_
  · simp at hl
    rcases hl with rfl | rfl | rfl <;> simp at hy <;> subst hy <;> omega
  rintro e w' ⟨tA, tc, A, cc, A2, c2, m', mA, mc, he, hm', hr, hk⟩
  rw [h2, hlen2] at he hr
  refine ⟨tA, tc, A, cc, A2, c2, m', mA, mc, he, hm', fun w'' kk => ?_, hk⟩
  have := hr w'' kk
  rw [h2, h3] at this
  exact this
end Go.Proofs.Ytakpfkfhbeobeaa.ce
