/-
  packet.readFour, packet.readSix.
-/
import Derived.Test.YtidengmcbppcoaaPkP
set_option linter.unusedVariables false
set_option linter.unusedSimpArgs false
namespace Go.Proofs.Ytidengmcbppcoaa.pk
open Go.RowKit Go.Proofs.Ytidengmcbppcoaa.oc Go.Proofs.Ytidengmcbppcoaa.mz Go.Proofs.Ytidengmcbppcoaa.pf Go.Proofs.Ytidengmcbppcoaa.wh Go.Proofs.Ytidengmcbppcoaa.qk Go.Proofs.Ytidengmcbppcoaa.bys
/-- Op.build, whose run is known -/
theorem by_build {P : Program} {op : Oper} {a : Act} (w : World) (t : TypeId) (parts : Array (Nat × Operand)) (ho : op.op = .build t parts) (ps : List (Nat × Value)) (hp : (parts.toList.map fun (i, x) => (i, a.eval x)) = ps) {cells : Array Value} (hb : P.built t ps = some cells) :
    (execOp a.eval op).run P w = .ok (.value (.agg cells)) w := by
  subst hp
  have hr := run_build (P := P) w t (parts.map fun (i, x) => (i, a.eval x)) cells (by rw [Array.toList_map]; exact hb)
  unfold execOp
  simp only [ho, Sem.run_bind, hr, Result.andThen_ok]
  rfl
theorem keeps_own {w w0 w1 : World} {g : Nat} (k : ∀ S, Keeps S w w0) (k2 : Keeps (· = g) w0 w1) (hg : w.heap.size ≤ g := by omega) : ∀ S, Keeps S w w1 := fun S => ⟨Nat.le_trans (k S).size k2.size, fun x hx hn => by rw [k2.block x (Nat.lt_of_lt_of_le hx (k S).size) (by omega), (k S).block x hx hn], (k S).same.trans k2.same⟩
section
variable (w : World)
set_option maxRecDepth 100000 in
set_option maxHeartbeats 1500000 in
theorem rfour_a (g o n c B : Nat) (l : List Nat) (hl : l.length = n) (h0 : 0 < n) (hn : n ≤ 140737488355328) (hc : n ≤ c) (hc9 : c ≤ 9223372036854775807) (hs : Small l) (hr : Rd w B (some ⟨g, o, none⟩) (by_ l)) (hB : B ≤ w.heap.size) (hk : n < 20) :
    Calls Try.prog 62 #[.slice (some ⟨g, o, none⟩) n c] w fun e w' => RH w w' e (hz, 0, 160) := by
  unfold RH
  show Calls _ _ _ _ _
  obtain ⟨w1, hw1, k1, b1, s1⟩ := box1 w zhd 29
  dsimp only [zhd] at hw1
  have hr1 := rd_old hr (k1 (fun _ => False))
  obtain ⟨t2, b2, k2⟩ := p_store b1 (cs := zhd) rfl
  have kk : ∀ S, Keeps S w (w1.setCells w.heap.size 0 zhd) := fun S => ⟨Nat.le_trans (k1 S).size k2.size, fun x hx hn => by rw [k2.block x (Nat.lt_of_lt_of_le hx (k1 S).size) (by omega), (k1 S).block x hx hn], (k1 S).same.trans k2.same⟩
  have HT2 := Lib.hid t2
  have HB2 := Lib.hid b2
  have HK2 := Lib.hid kk
  have HZI := Lib.hid zhd_info
  have HZB := Lib.hid zhd_built
  have HZO := Lib.hid (all_oneCell_toArray zhd_one)
  have HW := Lib.hid hw1
  have K1 := Lib.hid k1
  have d1 : (n : Int) < 20 := by omega
  clear hw1 k1 b1 s1 hr1 t2 b2 k2 kk hl hs hr hB hc hc9 hk
  go_enter Try.func62, Try.ntmps62
  go_wp2_with (first
    | ((try with_reducible rw [← HW.out]); refine p_build rfl 29 _ rfl _ rfl _ HZB.out ?_)
    | (refine' wpList_store_mid rfl 29 _ _ rfl w.heap.size 0 (zhd).toArray ?hx rfl ?ht HZI.out HZO.out ?_; (case hx => rfl); (case ht => exact HT2.out)))
  try rw [Exit.noGoto_ret]
  refine bodyPost_ret (ret_cell2 (p := 2) (u := 3) (v := 4) (ty := 29) (by kernel_rfl) _ _ _ w.heap.size _ _ _ (by rfl) HB2.out Try.underlying29 rfl HZI.out) rfl ?_
  exact ⟨rfl, HK2.out⟩
set_option maxRecDepth 100000 in
set_option maxHeartbeats 1500000 in
theorem rsix_a (g o n c B : Nat) (l : List Nat) (hl : l.length = n) (h0 : 0 < n) (hn : n ≤ 140737488355328) (hc : n ≤ c) (hc9 : c ≤ 9223372036854775807) (hs : Small l) (hr : Rd w B (some ⟨g, o, none⟩) (by_ l)) (hB : B ≤ w.heap.size) (hk : n < 40) :
    Calls Try.prog 63 #[.slice (some ⟨g, o, none⟩) n c] w fun e w' => RH w w' e (hz, 0, 160) := by
  unfold RH
  show Calls _ _ _ _ _
  obtain ⟨w1, hw1, k1, b1, s1⟩ := box1 w zhd 29
  dsimp only [zhd] at hw1
  have hr1 := rd_old hr (k1 (fun _ => False))
  obtain ⟨t2, b2, k2⟩ := p_store b1 (cs := zhd) rfl
  have kk : ∀ S, Keeps S w (w1.setCells w.heap.size 0 zhd) := fun S => ⟨Nat.le_trans (k1 S).size k2.size, fun x hx hn => by rw [k2.block x (Nat.lt_of_lt_of_le hx (k1 S).size) (by omega), (k1 S).block x hx hn], (k1 S).same.trans k2.same⟩
  have HT2 := Lib.hid t2
  have HB2 := Lib.hid b2
  have HK2 := Lib.hid kk
  have HZI := Lib.hid zhd_info
  have HZB := Lib.hid zhd_built
  have HZO := Lib.hid (all_oneCell_toArray zhd_one)
  have HW := Lib.hid hw1
  have K1 := Lib.hid k1
  have d1 : (n : Int) < 40 := by omega
  clear hw1 k1 b1 s1 hr1 t2 b2 k2 kk hl hs hr hB hc hc9 hk
  go_enter Try.func63, Try.ntmps63
  go_wp2_with (first
    | ((try with_reducible rw [← HW.out]); refine p_build rfl 29 _ rfl _ rfl _ HZB.out ?_)
    | (refine' wpList_store_mid rfl 29 _ _ rfl w.heap.size 0 (zhd).toArray ?hx rfl ?ht HZI.out HZO.out ?_; (case hx => rfl); (case ht => exact HT2.out)))
  try rw [Exit.noGoto_ret]
  refine bodyPost_ret (ret_cell2 (p := 2) (u := 3) (v := 4) (ty := 29) (by kernel_rfl) _ _ _ w.heap.size _ _ _ (by rfl) HB2.out Try.underlying29 rfl HZI.out) rfl ?_
  exact ⟨rfl, HK2.out⟩
set_option maxRecDepth 100000 in
set_option maxHeartbeats 1500000 in
theorem rfour_b (g o n c B : Nat) (l : List Nat) (hl : l.length = n) (h0 : 0 < n) (hn : n ≤ 140737488355328) (hc : n ≤ c) (hc9 : c ≤ 9223372036854775807) (hs : Small l) (hr : Rd w B (some ⟨g, o, none⟩) (by_ l)) (hB : B ≤ w.heap.size) (hk : 20 ≤ n) (hb : l.getD 0 0 ≠ 69) :
    Calls Try.prog 62 #[.slice (some ⟨g, o, none⟩) n c] w fun e w' => RH w w' e (hz, 0, 161) := by
  unfold RH
  show Calls _ _ _ _ _
  obtain ⟨w1, hw1, k1, b1, s1⟩ := box1 w zhd 29
  dsimp only [zhd] at hw1
  have hr1 := rd_old hr (k1 (fun _ => False))
  obtain ⟨t2, b2, k2⟩ := p_store b1 (cs := zhd) rfl
  have kk : ∀ S, Keeps S w (w1.setCells w.heap.size 0 zhd) := fun S => ⟨Nat.le_trans (k1 S).size k2.size, fun x hx hn => by rw [k2.block x (Nat.lt_of_lt_of_le hx (k1 S).size) (by omega), (k1 S).block x hx hn], (k1 S).same.trans k2.same⟩
  have HT2 := Lib.hid t2
  have HB2 := Lib.hid b2
  have HK2 := Lib.hid kk
  have HZI := Lib.hid zhd_info
  have HZB := Lib.hid zhd_built
  have HZO := Lib.hid (all_oneCell_toArray zhd_one)
  have HW := Lib.hid hw1
  have K1 := Lib.hid k1
  have d1 : ¬ (n : Int) < 20 := by omega
  have c0 := rd_cell hr1 (k := 0) (by omega)
  rw [Nat.add_zero] at c0
  have d2 : (((l.getD 0 0 : Nat) : Int) != 69) = true := bne_iff_ne.2 (by omega)
  have HC0 := Lib.hid c0
  rw [hw1] at c0
  clear hw1 k1 b1 s1 hr1 t2 b2 k2 kk hl hs hr hB hc hc9
  generalize l.getD 0 0 = b0 at *
  clear hb
  go_enter Try.func62, Try.ntmps62
  go_wp2_with (first
    | go_skip
    | ((try with_reducible rw [← HW.out]); refine p_build rfl 29 _ rfl _ rfl _ HZB.out ?_)
    | (refine' wpList_store_mid rfl 29 _ _ rfl w.heap.size 0 (zhd).toArray ?hx rfl ?ht HZI.out HZO.out ?_; (case hx => rfl); (case ht => exact HT2.out)))
  try rw [Exit.noGoto_ret]
  refine bodyPost_ret (ret_cell2 (p := 2) (u := 3) (v := 4) (ty := 29) (by kernel_rfl) _ _ _ w.heap.size _ _ _ (by rfl) HB2.out Try.underlying29 rfl HZI.out) rfl ?_
  exact ⟨rfl, HK2.out⟩
set_option maxRecDepth 100000 in
set_option maxHeartbeats 1500000 in
theorem rfour_c (g o n c B : Nat) (l : List Nat) (hl : l.length = n) (h0 : 0 < n) (hn : n ≤ 140737488355328) (hc : n ≤ c) (hc9 : c ≤ 9223372036854775807) (hs : Small l) (hr : Rd w B (some ⟨g, o, none⟩) (by_ l)) (hB : B ≤ w.heap.size) (hk : 20 ≤ n) (hb : l.getD 0 0 = 69) (h6 : num2 l 6 ≠ 16384) :
    Calls Try.prog 62 #[.slice (some ⟨g, o, none⟩) n c] w fun e w' => RH w w' e (hz, 0, 161) := by
  unfold RH
  show Calls _ _ _ _ _
  obtain ⟨w1, hw1, k1, b1, s1⟩ := box1 w zhd 29
  dsimp only [zhd] at hw1
  have hr1 := rd_old hr (k1 (fun _ => False))
  obtain ⟨t2, b2, k2⟩ := p_store b1 (cs := zhd) rfl
  have kk : ∀ S, Keeps S w (w1.setCells w.heap.size 0 zhd) := fun S => ⟨Nat.le_trans (k1 S).size k2.size, fun x hx hn => by rw [k2.block x (Nat.lt_of_lt_of_le hx (k1 S).size) (by omega), (k1 S).block x hx hn], (k1 S).same.trans k2.same⟩
  have HT2 := Lib.hid t2
  have HB2 := Lib.hid b2
  have HK2 := Lib.hid kk
  have HZI := Lib.hid zhd_info
  have HZB := Lib.hid zhd_built
  have HZO := Lib.hid (all_oneCell_toArray zhd_one)
  have HW := Lib.hid hw1
  have K1 := Lib.hid k1
  have d1 : ¬ (n : Int) < 20 := by omega
  have c0 := rd_cell hr1 (k := 0) (by omega)
  rw [Nat.add_zero] at c0
  rw [hb] at c0
  have d2 : (((num2 l 6 : Nat) : Int) != 16384) = true := bne_iff_ne.2 (by omega)
  rw [hw1] at c0
  have HN6 : Hid (Calls Try.prog 65 #[.slice (some ⟨g, o, none⟩) n c, .int .i64 6] w1 fun e w' => e = .returned (.int .u16 (num2 l 6 : Nat)) ∧ w1 = w') := Lib.hid (number_ w1 (some ⟨g, o, none⟩) l n c B 6 hl (by omega) hc hc9 hs hr1 (by omega))
  clear hw1 k1 b1 s1 hr1 t2 b2 k2 kk hl hs hr hB hc hc9
  generalize num2 l 6 = b6 at *
  clear hb h6
  go_enter Try.func62, Try.ntmps62
  go_wp2_with (first
    | ((with_reducible show Calls _ _ #[_, .int .i64 6] _ _); (try rw [← HW.out]); refine HN6.out.mono ?_; rintro e w9 ⟨rfl, h9⟩; subst w9)
    | ((try with_reducible rw [← HW.out]); refine p_build rfl 29 _ rfl _ rfl _ HZB.out ?_)
    | (refine' wpList_store_mid rfl 29 _ _ rfl w.heap.size 0 (zhd).toArray ?hx rfl ?ht HZI.out HZO.out ?_; (case hx => rfl); (case ht => exact HT2.out)))
  try rw [Exit.noGoto_ret]
  refine bodyPost_ret (ret_cell2 (p := 2) (u := 3) (v := 4) (ty := 29) (by kernel_rfl) _ _ _ w.heap.size _ _ _ (by rfl) HB2.out Try.underlying29 rfl HZI.out) rfl ?_
  exact ⟨rfl, HK2.out⟩
set_option maxRecDepth 100000 in
set_option maxHeartbeats 1500000 in
theorem rfour_d (g o n c B : Nat) (l : List Nat) (hl : l.length = n) (h0 : 0 < n) (hn : n ≤ 140737488355328) (hc : n ≤ c) (hc9 : c ≤ 9223372036854775807) (hs : Small l) (hr : Rd w B (some ⟨g, o, none⟩) (by_ l)) (hB : B ≤ w.heap.size) (hk : 20 ≤ n) (hb : l.getD 0 0 = 69) (h6 : num2 l 6 = 16384) (he : sizeE n (num2 l 2) 20 ≠ 0) :
    Calls Try.prog 62 #[.slice (some ⟨g, o, none⟩) n c] w fun e w' => RH w w' e (hz, 0, sizeE n (num2 l 2) 20) := by
  unfold RH
  show Calls _ _ _ _ _
  obtain ⟨w1, hw1, k1, b1, s1⟩ := box1 w zhd 29
  dsimp only [zhd] at hw1
  have hr1 := rd_old hr (k1 (fun _ => False))
  obtain ⟨t2, b2, k2⟩ := p_store b1 (cs := zhd) rfl
  have kk : ∀ S, Keeps S w (w1.setCells w.heap.size 0 zhd) := fun S => ⟨Nat.le_trans (k1 S).size k2.size, fun x hx hn => by rw [k2.block x (Nat.lt_of_lt_of_le hx (k1 S).size) (by omega), (k1 S).block x hx hn], (k1 S).same.trans k2.same⟩
  have HT2 := Lib.hid t2
  have HB2 := Lib.hid b2
  have HK2 := Lib.hid kk
  have HZI := Lib.hid zhd_info
  have HZB := Lib.hid zhd_built
  have HZO := Lib.hid (all_oneCell_toArray zhd_one)
  have HW := Lib.hid hw1
  have K1 := Lib.hid k1
  have d1 : ¬ (n : Int) < 20 := by omega
  have c0 := rd_cell hr1 (k := 0) (by omega)
  rw [Nat.add_zero] at c0
  rw [hb] at c0
  have d2 : (((num2 l 6 : Nat) : Int) != 16384) = false := by rw [h6]; rfl
  rw [hw1] at c0
  have hs9 := num2_lt hs 2
  have HN6 : Hid (Calls Try.prog 65 #[.slice (some ⟨g, o, none⟩) n c, .int .i64 6] w1 fun e w' => e = .returned (.int .u16 (num2 l 6 : Nat)) ∧ w1 = w') := Lib.hid (number_ w1 (some ⟨g, o, none⟩) l n c B 6 hl (by omega) hc hc9 hs hr1 (by omega))
  have HN2 : Hid (Calls Try.prog 65 #[.slice (some ⟨g, o, none⟩) n c, .int .i64 2] w1 fun e w' => e = .returned (.int .u16 (num2 l 2 : Nat)) ∧ w1 = w') := Lib.hid (number_ w1 (some ⟨g, o, none⟩) l n c B 2 hl (by omega) hc hc9 hs hr1 (by omega))
  obtain ⟨s, hse⟩ : ∃ s, s = num2 l 2 := ⟨_, rfl⟩
  rw [← hse] at hs9 he HN2
  try rw [← hse]
  have HCK : Hid (Calls Try.prog 74 #[.slice (some ⟨g, o, none⟩) n c, .int .i64 (s : Int), .int .i64 20] w1 fun e w' => e = .returned (.int .i64 (sizeE n s 20)) ∧ w' = w1) := Lib.hid (checksize_ w1 (some ⟨g, o, none⟩) n c s 20 (by omega) (by omega) (by omega))
  have e1 : IntKind.i64.wrap (s : Int) = (s : Int) := wi64 (by omega) (by omega)
  have d3 : (sizeE n s 20 != 0) = true := bne_iff_ne.2 he
  clear hw1 k1 b1 s1 hr1 t2 b2 k2 kk hl hs hr hB hc hc9
  generalize num2 l 6 = b6 at *
  generalize sizeE n s 20 = E at *
  clear hb h6 he hse
  go_enter Try.func62, Try.ntmps62
  go_wp2_with (first
    | ((with_reducible show Calls _ _ #[_, .int .i64 2] _ _); (try rw [← HW.out]); refine HN2.out.mono ?_; rintro e w9 ⟨rfl, h9⟩; subst w9)
    | ((with_reducible show Calls _ _ #[_, _, _] _ _); (try rw [← HW.out]); refine HCK.out.mono ?_; rintro e w9 ⟨rfl, h9⟩; subst w9)
    | ((with_reducible show Calls _ _ #[_, .int .i64 6] _ _); (try rw [← HW.out]); refine HN6.out.mono ?_; rintro e w9 ⟨rfl, h9⟩; subst w9)
    | ((try with_reducible rw [← HW.out]); refine p_build rfl 29 _ rfl _ rfl _ HZB.out ?_)
    | (refine' wpList_store_mid rfl 29 _ _ rfl w.heap.size 0 (zhd).toArray ?hx rfl ?ht HZI.out HZO.out ?_; (case hx => rfl); (case ht => exact HT2.out)))
  try rw [Exit.noGoto_ret]
  refine bodyPost_ret (ret_cell2 (p := 2) (u := 3) (v := 4) (ty := 29) (by kernel_rfl) _ _ _ w.heap.size _ _ _ (by rfl) HB2.out Try.underlying29 rfl HZI.out) rfl ?_
  exact ⟨rfl, HK2.out⟩
set_option maxRecDepth 100000 in
set_option maxHeartbeats 1500000 in
theorem rfour_e (g o n c B : Nat) (l : List Nat) (hl : l.length = n) (h0 : 0 < n) (hn : n ≤ 140737488355328) (hc : n ≤ c) (hc9 : c ≤ 9223372036854775807) (hs : Small l) (hr : Rd w B (some ⟨g, o, none⟩) (by_ l)) (hB : B ≤ w.heap.size) (hk : 20 ≤ n) (hb : l.getD 0 0 = 69) (h6 : num2 l 6 = 16384) (he : sizeE n (num2 l 2) 20 = 0) (hx : num2 l 10 ≠ csum (l.take 10 ++ (l.drop 12).take 8)) :
    Calls Try.prog 62 #[.slice (some ⟨g, o, none⟩) n c] w fun e w' => RH w w' e (hz, 0, 162) := by
  unfold RH
  show Calls _ _ _ _ _
  obtain ⟨w1, hw1, k1, b1, s1⟩ := box1 w zhd 29
  dsimp only [zhd] at hw1
  have hr1 := rd_old hr (k1 (fun _ => False))
  have d1 : ¬ (n : Int) < 20 := by omega
  have c0 := rd_cell hr1 (k := 0) (by omega)
  rw [Nat.add_zero] at c0
  rw [hb] at c0
  have d2 : (((num2 l 6 : Nat) : Int) != 16384) = false := by rw [h6]; rfl
  have c00 := c0
  rw [hw1] at c0
  have hs9 := num2_lt hs 2
  have HN6 : Hid (Calls Try.prog 65 #[.slice (some ⟨g, o, none⟩) n c, .int .i64 6] w1 fun e w' => e = .returned (.int .u16 (num2 l 6 : Nat)) ∧ w1 = w') := Lib.hid (number_ w1 (some ⟨g, o, none⟩) l n c B 6 hl (by omega) hc hc9 hs hr1 (by omega))
  have HN2 : Hid (Calls Try.prog 65 #[.slice (some ⟨g, o, none⟩) n c, .int .i64 2] w1 fun e w' => e = .returned (.int .u16 (num2 l 2 : Nat)) ∧ w1 = w') := Lib.hid (number_ w1 (some ⟨g, o, none⟩) l n c B 2 hl (by omega) hc hc9 hs hr1 (by omega))
  obtain ⟨wL, hwL⟩ : ∃ wL, wL = (w1.alloc (.cells (#[.slice (some ⟨g, o, none⟩) 10 c, .slice (some ⟨g, o + 12, none⟩) 8 (c - 12)] : Array Value) 27)).drew := ⟨_, rfl⟩
  have kL : ∀ S, Keeps S w1 wL := fun S => by rw [hwL]; exact ((Keeps.refl S w1).alloc _).drew
  have bL : Blk wL w1.heap.size 27 [.slice (some ⟨g, o, none⟩) 10 c, .slice (some ⟨g, o + 12, none⟩) 8 (c - 12)] := by rw [hwL]; exact Blk.new w1 27 _
  have hrL := rd_old hr1 (kL (fun _ => False))
  have sL : w1.heap.size < wL.heap.size := bL.lt
  have hpt : Pt wL wL.heap.size (some ⟨w1.heap.size, 0, none⟩) [l.take 10, (l.drop 12).take 8] := by
    refine pt_row (t := 27) bL sL ?_
    intro k x hk
    rcases k with _ | _ | k
    · simp only [List.getElem?_cons_zero, Option.some.injEq] at hk
      subst hk
      refine ⟨some ⟨g, o, none⟩, c, ?_, (rd_take hrL 10).more (by omega)⟩
      rw [List.length_take, Nat.min_eq_left (by omega)]; rfl
    · simp only [List.getElem?_cons_succ, List.getElem?_cons_zero, Option.some.injEq] at hk
      subst hk
      refine ⟨some ⟨g, o + 12, none⟩, c - 12, ?_, (rd_part hrL 12 8).more (by omega)⟩
      rw [List.length_take, List.length_drop, Nat.min_eq_left (by omega)]; rfl
    · simp at hk
  have hsm : ∀ x, x ∈ ([l.take 10, (l.drop 12).take 8] : List (List Nat)) → Small x := fun x hx => by
    simp only [List.mem_cons, List.not_mem_nil, or_false] at hx
    rcases hx with rfl | rfl
    · exact hs.take _
    · exact (hs.drop _).take _
  have hsum := sum_any (some ⟨w1.heap.size, 0, none⟩) [l.take 10, (l.drop 12).take 8] 2 2 _ wL rfl (by omega) (by simp; omega) hsm hpt
  rw [show ([l.take 10, (l.drop 12).take 8] : List (List Nat)).flatten = l.take 10 ++ (l.drop 12).take 8 from by simp] at hsum
  have HSU := Lib.hid hsum
  have HWL := Lib.hid hwL
  have HKL := Lib.hid kL
  have q1 : ∀ u, (Instr.slice 27 (.slice (some ⟨g, o, none⟩) n c) none (some (.int .i64 10)) none).run Try.prog u = .ok (.slice (some ⟨g, o, none⟩) 10 c) u := fun u => cut_h (some ⟨g, o, none⟩) n c 10 (by omega) u
  have q2 : ∀ u, (Instr.slice 27 (.slice (some ⟨g, o, none⟩) n c) (some (.int .i64 12)) (some (.int .i64 20)) none).run Try.prog u = .ok (.slice (some ⟨g, o + 12, none⟩) 8 (c - 12)) u := fun u => by
    have := cut_lh (some ⟨g, o, none⟩) n c 12 20 (by omega) (by omega) u
    rw [cutA_some _ _ _ _ (by omega)] at this; exact this
  clear bL hrL sL hpt hsm hsum
  have HNA : Hid (Calls Try.prog 65 #[.slice (some ⟨g, o, none⟩) n c, .int .i64 10] w1.drew fun e w' => e = .returned (.int .u16 (num2 l 10 : Nat)) ∧ w1.drew = w') := Lib.hid (number_ w1.drew (some ⟨g, o, none⟩) l n c B 10 hl (by omega) hc hc9 hs (rd_old hr1 ((Keeps.refl _ w1).drew)) (by omega))
  have HNB : Hid (Calls Try.prog 65 #[.slice (some ⟨g, o, none⟩) n c, .int .i64 10] wL fun e w' => e = .returned (.int .u16 (num2 l 10 : Nat)) ∧ wL = w') := Lib.hid (number_ wL (some ⟨g, o, none⟩) l n c B 10 hl (by omega) hc hc9 hs (rd_old hr1 (kL _)) (by omega))
  have b1L := Blk.keeps b1 (kL (fun _ => False)) (fun z => z)
  obtain ⟨t2, b2, k2⟩ := p_store b1L (cs := zhd) rfl
  have kk : ∀ S, Keeps S w (wL.setCells w.heap.size 0 zhd) := fun S => ⟨Nat.le_trans ((k1 S).trans (kL S)).size k2.size, fun x hx hn => by rw [k2.block x (Nat.lt_of_lt_of_le hx ((k1 S).trans (kL S)).size) (by omega), ((k1 S).trans (kL S)).block x hx hn], ((k1 S).trans (kL S)).same.trans k2.same⟩
  have HT2 := Lib.hid t2
  have HB2 := Lib.hid b2
  have HK2 := Lib.hid kk
  have d9 : (((num2 l 10 : Nat) : Int) != ((csum (l.take 10 ++ (l.drop 12).take 8) : Nat) : Int)) = true := bne_iff_ne.2 (by omega)
  clear t2 b2 k2 kk b1L hx
  obtain ⟨s, hse⟩ : ∃ s, s = num2 l 2 := ⟨_, rfl⟩
  rw [← hse] at hs9 he HN2
  try rw [← hse]
  have HCK : Hid (Calls Try.prog 74 #[.slice (some ⟨g, o, none⟩) n c, .int .i64 (s : Int), .int .i64 20] w1 fun e w' => e = .returned (.int .i64 (sizeE n s 20)) ∧ w' = w1) := Lib.hid (checksize_ w1 (some ⟨g, o, none⟩) n c s 20 (by omega) (by omega) (by omega))
  rw [he] at HCK
  have e1 : IntKind.i64.wrap (s : Int) = (s : Int) := wi64 (by omega) (by omega)
  have HZI := Lib.hid zhd_info
  have HZB := Lib.hid zhd_built
  have HZO := Lib.hid (all_oneCell_toArray zhd_one)
  have HW := Lib.hid hw1
  have K1 := Lib.hid k1
  clear hwL kL c00
  clear hw1 k1 b1 s1 hr1 hl hs hr hB hc hc9
  generalize num2 l 6 = b6 at *
  generalize num2 l 10 = b10 at *
  generalize csum (l.take 10 ++ (l.drop 12).take 8) = cs at *
  clear hb h6 he hse
  go_enter Try.func62, Try.ntmps62
  go_wp2_with (first | ((with_reducible show Calls _ _ #[_, .int .i64 2] _ _); (try rw [← HW.out]); refine HN2.out.mono ?_; rintro e w9 ⟨rfl, h9⟩; subst w9) | ((with_reducible show Calls _ _ #[_, _, _] _ _); (try rw [← HW.out]); refine HCK.out.mono ?_; rintro e w9 ⟨rfl, h9⟩; subst w9) | ((with_reducible show Calls _ _ #[_, .int .i64 6] _ _); (try rw [← HW.out]); refine HN6.out.mono ?_; rintro e w9 ⟨rfl, h9⟩; subst w9))
  --@r9
  try rw [← HW.out]
  refine wp_region_held_drew (S := fun _ => True) (by kernel_rfl) trivial (fun hHeld => ?_)
  refine wpAnyH_take (i := 0) (v := ?_) rfl (by kernel_rfl) (by kernel_rfl) (by kernel_rfl) (fun _ _ _ h => h) (Or.inl ⟨by kernel_rfl, ?_⟩) (by assumption) ?_
  rotate_left
  · (intro w hSw; (try dsimp only at hSw); go_simp) <;> (try (with_reducible rfl))
  try simp only [Act.put, Array.getInternal_eq_getElem, List.getElem_toArray, List.getElem_cons_zero, List.getElem_cons_succ, List.setIfInBounds_toArray, List.set_cons_zero, List.set_cons_succ]
  refine wpAnyH_take (i := 2) (v := ?_) rfl (by kernel_rfl) (by kernel_rfl) (by kernel_rfl) (fun _ _ _ h => h) (Or.inl ⟨by kernel_rfl, ?_⟩) (by assumption) ?_
  rotate_left
  · (intro w hSw; (try dsimp only at hSw); go_simp) <;> (try (with_reducible rfl))
  try simp only [Act.put, Array.getInternal_eq_getElem, List.getElem_toArray, List.getElem_cons_zero, List.getElem_cons_succ, List.setIfInBounds_toArray, List.set_cons_zero, List.set_cons_succ]
  refine wpAnyH_take (i := 3) (v := ?_) rfl (by kernel_rfl) (by kernel_rfl) (by kernel_rfl) (fun _ _ _ h => h) (Or.inl ⟨by kernel_rfl, ?_⟩) (by assumption) ?_
  rotate_left
  · (intro w hSw; (try dsimp only at hSw); go_simp) <;> (try (with_reducible rfl))
  try simp only [Act.put, Array.getInternal_eq_getElem, List.getElem_toArray, List.getElem_cons_zero, List.getElem_cons_succ, List.setIfInBounds_toArray, List.set_cons_zero, List.set_cons_succ]
  refine wpAnyH_take (i := 4) (v := ?_) rfl (by kernel_rfl) (by kernel_rfl) (by kernel_rfl) (fun _ _ _ h => h) (Or.inl ⟨by kernel_rfl, ?_⟩) (by assumption) ?_
  rotate_left
  · (intro w hSw; (try dsimp only at hSw); go_simp) <;> (try (with_reducible rfl))
  try simp only [Act.put, Array.getInternal_eq_getElem, List.getElem_toArray, List.getElem_cons_zero, List.getElem_cons_succ, List.setIfInBounds_toArray, List.set_cons_zero, List.set_cons_succ]
  refine wpAnyH_take (i := 5) (v := ?_) rfl (by kernel_rfl) (by kernel_rfl) (by kernel_rfl) (fun _ _ _ h => h) (Or.inl ⟨by kernel_rfl, ?_⟩) (by assumption) ?_
  rotate_left
  · (intro w hSw; (try dsimp only at hSw); go_simp) <;> (try (with_reducible rfl))
  try simp only [Act.put, Array.getInternal_eq_getElem, List.getElem_toArray, List.getElem_cons_zero, List.getElem_cons_succ, List.setIfInBounds_toArray, List.set_cons_zero, List.set_cons_succ]
  refine wpAnyH_ready (rs := [1, 6]) (by kernel_rfl) (by simp) ?_
  refine AllReadyH.cons rfl (fun K hK => ?_) (AllReadyH.cons rfl (fun K hK => ?_) AllReadyH.nil)
  · (rw [if_pos (by kernel_rfl)]; go_simp; go_at_call 65; refine HNA.out.mono ?_; rintro e wx ⟨rfl, rfl⟩)
    refine hK.out _ _ trivial (fun hHeld => ?_)
    clear hK K
    try simp only [Act.put, Array.getInternal_eq_getElem, List.getElem_toArray, List.getElem_cons_zero, List.getElem_cons_succ, List.setIfInBounds_toArray, List.set_cons_zero, List.set_cons_succ]
    refine wpAnyH_ready (rs := [6]) (by kernel_rfl) (by simp) ?_
    refine AllReadyH.cons rfl (fun K hK => ?_) AllReadyH.nil
    (rw [if_pos (by kernel_rfl)]; go_simp; rw [← HWL.out])
    refine hK.out _ _ trivial (fun hHeld => ?_)
    clear hK K
    try simp only [Act.put, Array.getInternal_eq_getElem, List.getElem_toArray, List.getElem_cons_zero, List.getElem_cons_succ, List.setIfInBounds_toArray, List.set_cons_zero, List.set_cons_succ]
    refine wpAnyH_ready (rs := [7]) (by kernel_rfl) (by simp) ?_
    refine AllReadyH.cons rfl (fun K hK => ?_) AllReadyH.nil
    (rw [if_pos (by kernel_rfl)]; go_simp; go_at_call 55; refine HSU.out.mono ?_; rintro e wx ⟨rfl, rfl⟩)
    refine hK.out _ _ trivial (fun hHeld => ?_)
    clear hK K
    try simp only [Act.put, Array.getInternal_eq_getElem, List.getElem_toArray, List.getElem_cons_zero, List.getElem_cons_succ, List.setIfInBounds_toArray, List.set_cons_zero, List.set_cons_succ]
    refine wpAnyH_take (i := 8) (v := ?_) rfl (by kernel_rfl) (by kernel_rfl) (by kernel_rfl) (fun _ _ _ h => h) (Or.inl ⟨by kernel_rfl, ?_⟩) (by assumption) ?_
    rotate_left
    · (intro w hSw; (try dsimp only at hSw); go_simp) <;> (try (with_reducible rfl))
    try simp only [Act.put, Array.getInternal_eq_getElem, List.getElem_toArray, List.getElem_cons_zero, List.getElem_cons_succ, List.setIfInBounds_toArray, List.set_cons_zero, List.set_cons_succ]
    refine wpAnyH_done ?_ ?_ _
    · kernel_rfl
    go_wp2_with (first
      | ((try with_reducible rw [← HW.out]); refine p_build rfl 29 _ rfl _ rfl _ HZB.out ?_)
      | (refine' wpList_store_mid rfl 29 _ _ rfl w.heap.size 0 (zhd).toArray ?hx rfl ?ht HZI.out HZO.out ?_; (case hx => rfl); (case ht => exact HT2.out)))
    try rw [Exit.noGoto_ret]
    refine bodyPost_ret (ret_cell2 (p := 2) (u := 3) (v := 4) (ty := 29) (by kernel_rfl) _ _ _ w.heap.size _ _ _ (by rfl) HB2.out Try.underlying29 rfl HZI.out) rfl ?_
    exact ⟨rfl, HK2.out⟩
  · (rw [if_pos (by kernel_rfl)]; go_simp; rw [← HWL.out])
    refine hK.out _ _ trivial (fun hHeld => ?_)
    clear hK K
    try simp only [Act.put, Array.getInternal_eq_getElem, List.getElem_toArray, List.getElem_cons_zero, List.getElem_cons_succ, List.setIfInBounds_toArray, List.set_cons_zero, List.set_cons_succ]
    refine wpAnyH_ready (rs := [1]) (by kernel_rfl) (by simp) ?_
    refine AllReadyH.cons rfl (fun K hK => ?_) AllReadyH.nil
    (rw [if_pos (by kernel_rfl)]; go_simp; go_at_call 65; refine HNB.out.mono ?_; rintro e wx ⟨rfl, rfl⟩)
    refine hK.out _ _ trivial (fun hHeld => ?_)
    clear hK K
    try simp only [Act.put, Array.getInternal_eq_getElem, List.getElem_toArray, List.getElem_cons_zero, List.getElem_cons_succ, List.setIfInBounds_toArray, List.set_cons_zero, List.set_cons_succ]
    refine wpAnyH_ready (rs := [7]) (by kernel_rfl) (by simp) ?_
    refine AllReadyH.cons rfl (fun K hK => ?_) AllReadyH.nil
    (rw [if_pos (by kernel_rfl)]; go_simp; go_at_call 55; refine HSU.out.mono ?_; rintro e wx ⟨rfl, rfl⟩)
    refine hK.out _ _ trivial (fun hHeld => ?_)
    clear hK K
    try simp only [Act.put, Array.getInternal_eq_getElem, List.getElem_toArray, List.getElem_cons_zero, List.getElem_cons_succ, List.setIfInBounds_toArray, List.set_cons_zero, List.set_cons_succ]
    refine wpAnyH_take (i := 8) (v := ?_) rfl (by kernel_rfl) (by kernel_rfl) (by kernel_rfl) (fun _ _ _ h => h) (Or.inl ⟨by kernel_rfl, ?_⟩) (by assumption) ?_
    rotate_left
    · (intro w hSw; (try dsimp only at hSw); go_simp) <;> (try (with_reducible rfl))
    try simp only [Act.put, Array.getInternal_eq_getElem, List.getElem_toArray, List.getElem_cons_zero, List.getElem_cons_succ, List.setIfInBounds_toArray, List.set_cons_zero, List.set_cons_succ]
    refine wpAnyH_done ?_ ?_ _
    · kernel_rfl
    go_wp2_with (first
      | ((try with_reducible rw [← HW.out]); refine p_build rfl 29 _ rfl _ rfl _ HZB.out ?_)
      | (refine' wpList_store_mid rfl 29 _ _ rfl w.heap.size 0 (zhd).toArray ?hx rfl ?ht HZI.out HZO.out ?_; (case hx => rfl); (case ht => exact HT2.out)))
    try rw [Exit.noGoto_ret]
    refine bodyPost_ret (ret_cell2 (p := 2) (u := 3) (v := 4) (ty := 29) (by kernel_rfl) _ _ _ w.heap.size _ _ _ (by rfl) HB2.out Try.underlying29 rfl HZI.out) rfl ?_
    exact ⟨rfl, HK2.out⟩
end
end Go.Proofs.Ytidengmcbppcoaa.pk
