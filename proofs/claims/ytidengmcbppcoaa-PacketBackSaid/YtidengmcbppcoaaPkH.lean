/-
  packet.Make.
-/
import Derived.Test.YtidengmcbppcoaaPkG
set_option linter.unusedVariables false
set_option linter.unusedSimpArgs false
namespace Go.Proofs.Ytidengmcbppcoaa.bys
open Go.RowKit Go.Proofs.Ytidengmcbppcoaa.oc Go.Proofs.Ytidengmcbppcoaa.mz
/-- an append, as one operation -/
theorem By.wp_append {w wi : World} {v : Value} {l : List Nat} {o : Oper} {a : Act} {K : Act → World → Prop} {Q : Exit → Act → World → Prop} (s x : Operand)
    (ho : o.op = .call { callee := .builtin .append, args := #[s, x], argTypes := #[27, 27] }) (h : By w wi v l) (hs : a.eval s = v)
    (A : Option Addr) (m c B : Nat) (news : List Nat) (hx : a.eval x = .slice A m c) (hm : news.length = m) (hb : Rd wi B A (by_ news)) (hl : l.length + m ≤ 140737488355327)
    (hk : ∀ v' w', By w w' v' (l ++ news) → Keeps (fun b => v.ownBlock = some b) wi w' → K (a.put o.dst v') w') : o.wp Try.prog a wi K Q := by
  obtain ⟨i0, hi0, hz0, hz1, hz2⟩ := info_parts byte_info
  refine wp_app s x 27 ho w.heap.size 5 i0 _ 1 Try.underlying27 hi0 hz0 hz1 hz2 rfl v l.length (by_ l) hs h.own B A m c (by_ news) hx hb (by rw [by_length]; exact hm) (by_one news) (by omega) (by omega) (h.keep (fun _ => False)).size ?_
  intro v' w' hown hg hat
  have hlt : ∀ b, v.ownBlock = some b → w.heap.size ≤ b := fun b hb => (h.own.lt b hb).1
  have kk : Keeps (fun b => v.ownBlock = some b) wi w' := Keeps.of_grown hg
  refine hk v' w' ⟨?_, fun S => ?_⟩ kk
  · rw [List.length_append, hm, by_append]; exact hown
  · have k1 := h.keep S
    exact ⟨Nat.le_trans k1.size kk.size, fun b hb hs => by rw [kk.block b (Nat.lt_of_lt_of_le hb k1.size) (fun e => by have := hlt _ e; omega), k1.block b hb hs], k1.same.trans kk.same⟩
theorem By.keepF {w wi wj : World} {v : Value} {l : List Nat} (h : By w wi v l) (k : Keeps (fun _ => False) wi wj) : By w wj v l := h.grown (fun S => k.mono (fun _ _ z => z.elim))
theorem by_rd0 {w wi : World} {g n c : Nat} {l : List Nat} (h : By w wi (.slice (some ⟨g, 0, none⟩) n c) l) : Rd wi (g + 1) (some ⟨g, 0, none⟩) (by_ l) := fun i v hv => by
  obtain ⟨x, hx, rfl⟩ : ∃ x : Nat, l[i]? = some x ∧ v = .int .u8 (x : Int) := by
    rw [by_, List.getElem?_map] at hv
    obtain ⟨x, hx, e⟩ := Option.map_eq_some_iff.1 hv
    exact ⟨x, hx, e.symm⟩
  exact ⟨g, 0, rfl, by omega, by rw [Nat.zero_add]; exact h.cell hx⟩
theorem by_cap {w wi : World} {g n c : Nat} {l : List Nat} {m : Nat} (h : By w wi (.slice (some ⟨g, 0, none⟩) n c) l) (hm : l.length = m) : m ≤ c := by
  rcases h.own.2 with ⟨e, _⟩ | ⟨g', cap, cur, e, _, _, h1, _⟩
  · cases e
  · injection e with _ e1 e2
    omega
end Go.Proofs.Ytidengmcbppcoaa.bys
namespace Go.Proofs.Ytidengmcbppcoaa.pk
open Go.RowKit Go.Proofs.Ytidengmcbppcoaa.oc Go.Proofs.Ytidengmcbppcoaa.mz Go.Proofs.Ytidengmcbppcoaa.pf Go.Proofs.Ytidengmcbppcoaa.wh Go.Proofs.Ytidengmcbppcoaa.qk Go.Proofs.Ytidengmcbppcoaa.bys
/-- the packet of a header that may be -/
def make (h : Hd) : List Nat := front h ((mid h).length + h.dat.length) ++ (if sat h.pr = 0 then mid h ++ h.dat else fillp (mid h ++ h.dat) (sat h.pr) (sumv h (mid h ++ h.dat)))
theorem mids_le (p : Nat) : mids p ≤ 20 := by unfold mids; split; omega; split <;> omega
theorem chk_ok {h : Hd} (e : chkE h = 0) : fsz h + mids h.pr + h.dat.length ≤ 2048 := by
  unfold chkE at e
  split at e
  · cases e
  · split at e
    · cases e
    · omega
theorem chk_may {h : Hd} (e : chkE h = 0) : May h := by
  unfold chkE at e
  split at e
  · cases e
  · rename_i m; exact Classical.byContradiction m
theorem chk_id {h : Hd} (e : chkE h = 0) : h.id ≤ 1048575 := (chk_may e).i
theorem sumv_lt (h : Hd) (l : List Nat) : sumv h l < 65536 := by unfold sumv; split; omega; have := csum_le (psum h l); omega
theorem mid_z {h : Hd} (hp : h.pr = 6 ∨ h.pr = 17) (d : List Nat) : (mid h ++ d)[sat h.pr]? = some 0 ∧ (mid h ++ d)[sat h.pr + 1]? = some 0 := by
  rcases hp with e | e
  · rw [mid6 e, e]
    have l1 : be 2 h.sp = [h.sp / 256 % 256, h.sp % 256] := by simp [be]
    have l2 : be 2 h.dp = [h.dp / 256 % 256, h.dp % 256] := by simp [be]
    have l3 : be 4 h.seq = [h.seq / 16777216 % 256, h.seq / 65536 % 256, h.seq / 256 % 256, h.seq % 256] := by simp [be]
    rw [l1, l2, l3]
    exact ⟨rfl, rfl⟩
  · rw [mid17 e, e]
    have l1 : be 2 h.sp = [h.sp / 256 % 256, h.sp % 256] := by simp [be]
    have l2 : be 2 h.dp = [h.dp / 256 % 256, h.dp % 256] := by simp [be]
    have l3 : be 2 ((8 + h.dat.length) % 65536) = [(8 + h.dat.length) % 65536 / 256 % 256, (8 + h.dat.length) % 65536 % 256] := by simp [be]
    rw [l1, l2, l3]
    exact ⟨rfl, rfl⟩
theorem front_len (h : Hd) (hw : h.Wf) (k : Nat) : (front h k).length ≤ 40 := by
  unfold front
  split
  · simp [six, be_length, hw.s.len, hw.d.len]
  · unfold fillp; rw [List.length_set, List.length_set, four0_len h hw]; omega
section
variable (w : World)
set_option maxRecDepth 100000 in
set_option maxHeartbeats 1500000 in
theorem make_no (h : Hd) (A : Option Addr) (n c : Nat) (hw : h.Wf) (hl : h.dat.length = n) (hn : n ≤ 140737480000000) (hr : Rd w w.heap.size A (by_ h.dat)) (hc : chkE h ≠ 0) :
    Calls Try.prog 16 #[hvv h (.slice A n c)] w fun e w' => e = .returned (.tuple #[.slice none 0 0, .int .i64 (chkE h)]) ∧ ∀ S, Keeps S w w' := by
  obtain ⟨w1, hw1, k1, b1, s1⟩ := box1 w (hcs h (.slice A n c)) 29
  have HCK := fun w => Lib.hid (pchk_ w h A n c hw hl (by omega))
  
  have HSZ := Lib.hid (hd_sz hw (.slice A n c))
  have HBK := Lib.hid b1
  have HWF := Lib.hid hw
  have K1 := Lib.hid k1
  have HW := Lib.hid hw1
  have d1 : (chkE h != 0) = true := bne_iff_ne.2 hc
  have d2 : (chkE h == 0) = false := beq_eq_false_iff_ne.2 hc
  unfold hvv at HCK ⊢
  clear hw1 k1 b1 s1 hw hl hr hc
  generalize chkE h = E at *
  generalize hC : hcs h (.slice A n c) = C at *
  go_enter Try.func16, Try.ntmps16
  go_wp2_with (first | ((try with_reducible rw [← HW.out]); refine wpList_load_mid rfl 29 _ rfl w.heap.size 0 rfl C _ (Blk.range HBK.out) Try.underlying29 rfl HSZ.out ?_))
  refine (HCK _).out.mono ?_
  rintro e w2 ⟨rfl, k2⟩
  have K2 : Hid (∀ S, Keeps S w w2) := Lib.hid (fun S => (K1.out S).trans (k2 S))
  clear k2
  go_wp2
  try rw [Exit.noGoto_ret]
  go_ret2
  exact ⟨rfl, K2.out⟩
set_option maxRecDepth 100000 in
set_option maxHeartbeats 1500000 in
theorem make_sum (h : Hd) (A : Option Addr) (n c : Nat) (hw : h.Wf) (hl : h.dat.length = n) (hn : n ≤ 140737480000000) (hr : Rd w w.heap.size A (by_ h.dat)) (hc : chkE h = 0) (hp : h.pr = 6 ∨ h.pr = 17) :
    Calls Try.prog 16 #[hvv h (.slice A n c)] w fun e w' => ∃ v, e = .returned (.tuple #[v, .int .i64 0]) ∧ By w w' v (make h) := by
  obtain ⟨w1, hw1, k1, b1, s1⟩ := box1 w (hcs h (.slice A n c)) 29
  have HCK := fun w => Lib.hid (pchk_ w h A n c hw hl (by omega))
  rw [hc] at HCK
  have HSZ := Lib.hid (hd_sz hw (.slice A n c))
  have HBK := Lib.hid b1
  have HWF := Lib.hid hw
  have K1 := Lib.hid k1
  have HW := Lib.hid hw1
  have hsz := chk_ok hc
  rw [hl] at hsz
  have HSZ2 := Lib.hid hsz
  have HID := Lib.hid (chk_id hc)
  have HDL := Lib.hid (And.intro hl hn)
  have HMD := fun w => Lib.hid (middle_ w h A n c hw hl (by omega))
  have HSA := fun w => Lib.hid (psat_ w h.pr)
  have HFR := fun w k hk => Lib.hid (front_ w h (.slice A n c) hw (chk_id hc) k hk)
  have HRD0 := Lib.hid (rd_old hr (k1 (fun _ => False)))
  unfold hvv at HCK HMD HFR ⊢
  clear hw1 k1 b1 s1 hw hl hr hc hsz
  generalize hC : hcs h (.slice A n c) = C at *
  go_enter Try.func16, Try.ntmps16
  go_wp2_with (first | ((try with_reducible rw [← HW.out]); refine wpList_load_mid rfl 29 _ rfl w.heap.size 0 rfl C _ (Blk.range HBK.out) Try.underlying29 rfl HSZ.out ?_))
  refine (HCK _).out.mono ?_
  rintro e w2 ⟨rfl, k2⟩
  have K2 : Hid (∀ S, Keeps S w w2) := Lib.hid (fun S => (K1.out S).trans (k2 S))
  have HRD : Hid (∀ wq, Keeps (fun _ => False) w2 wq → Rd wq w.heap.size A (by_ h.dat)) := Lib.hid (fun wq kq => rd_old HRD0.out ((k2 _).trans kq))
  have HKS : Hid (∀ wq, Keeps (fun _ => False) w2 wq → wq.rangeAt w.heap.size 0 C ∧ wq.cell? ⟨w.heap.size, 42, none⟩ = some (.slice A n c)) := Lib.hid (fun wq kq => by
    have hb := Blk.keeps (Blk.keeps HBK.out (k2 (fun _ => False)) (fun z => z)) kq (fun z => z)
    refine ⟨Blk.range hb, ?_⟩
    rw [← hC] at hb
    exact (HF.of_blk HWF.out hb).dat)
  have HPR : Hid (∀ wq, Keeps (fun _ => False) w2 wq → wq.cell? ⟨w.heap.size, 34, none⟩ = some (.int .u8 (h.pr : Int))) := Lib.hid (fun wq kq => by
    have hb := Blk.keeps (Blk.keeps HBK.out (k2 (fun _ => False)) (fun z => z)) kq (fun z => z)
    rw [← hC] at hb
    exact (HF.of_blk HWF.out hb).pr)
  clear k2 HCK
  go_wp2_with fail
  refine wp_region_held_drew (S := fun w' => w'.rangeAt w.heap.size 0 C ∧ w'.cell? ⟨w.heap.size, 42, none⟩ = some (.slice A n c)) (by kernel_rfl) (HKS.out _ ((Keeps.refl _ w2).drew)) (fun hHeld => ?_)
  refine' wpAnyH_take (i := 0) (v := _) rfl (by kernel_rfl) (by kernel_rfl) (by kernel_rfl) (fun _ _ _ h => h) (yieldsIf_load_mid (by kernel_rfl) _ _ rfl _ _ rfl _ _ (fun w hSw => hSw.1) Try.underlying29 rfl HSZ.out) (by assumption) ?_
  try simp only [Act.put, Array.getInternal_eq_getElem, List.getElem_toArray, List.getElem_cons_zero, List.getElem_cons_succ, List.setIfInBounds_toArray, List.set_cons_zero, List.set_cons_succ]
  refine wpAnyH_take (i := 2) (v := ?_) rfl (by kernel_rfl) (by kernel_rfl) (by kernel_rfl) (fun _ _ _ h => h) (Or.inl ⟨by kernel_rfl, ?_⟩) (by assumption) ?_
  rotate_left
  · (intro w hSw; (try dsimp only at hSw); go_simp) <;> (try (with_reducible rfl))
  try simp only [Act.put, Array.getInternal_eq_getElem, List.getElem_toArray, List.getElem_cons_zero, List.getElem_cons_succ, List.setIfInBounds_toArray, List.set_cons_zero, List.set_cons_succ]
  refine wpAnyH_take (i := 3) (v := ?_) rfl (by kernel_rfl) (by kernel_rfl) (by kernel_rfl) (fun _ _ _ h => h) (Or.inl ⟨by kernel_rfl, ?_⟩) (by assumption) ?_
  rotate_left
  · (intro w hSw; have hcell := hSw.2; go_simp) <;> (try (with_reducible rfl))
  try simp only [Act.put, Array.getInternal_eq_getElem, List.getElem_toArray, List.getElem_cons_zero, List.getElem_cons_succ, List.setIfInBounds_toArray, List.set_cons_zero, List.set_cons_succ]
  refine wpAnyH_ready (rs := [1]) (by kernel_rfl) (by simp) ?_
  refine AllReadyH.cons rfl (fun K hK => ?_) AllReadyH.nil
  (rw [if_pos (by kernel_rfl)]; go_simp; go_at_call 34; refine (HMD _).out.mono ?_; rintro e wa ⟨va, rfl, ya⟩; have YA := Lib.hid (ya.base (fun S => (Keeps.refl S w2).drew)); clear ya)
  refine hK.out _ _ (HKS.out wa (YA.out.keep _)) (fun hHeld => ?_)
  clear hK K
  try simp only [Act.put, Array.getInternal_eq_getElem, List.getElem_toArray, List.getElem_cons_zero, List.getElem_cons_succ, List.setIfInBounds_toArray, List.set_cons_zero, List.set_cons_succ]
  refine wpAnyH_ready (rs := [4]) (by kernel_rfl) (by simp) ?_
  refine AllReadyH.cons rfl (fun K hK => ?_) AllReadyH.nil
  (rw [if_pos (by kernel_rfl)]; simp only [Array.getInternal_eq_getElem, List.getElem_toArray, List.getElem_cons_zero, List.getElem_cons_succ]; refine By.wp_append _ _ rfl YA.out rfl A n c _ h.dat rfl HDL.out.1 (HRD.out wa (YA.out.keep _)) (by rw [mid_len]; have := HDL.out.2; have := mids_le h.pr; omega) ?_; intro v3 w3 y3 k3; have Y3 := Lib.hid y3; clear y3 k3)
  refine hK.out _ _ (HKS.out w3 (Y3.out.keep _)) (fun hHeld => ?_)
  clear hK K
  try simp only [Act.put, Array.getInternal_eq_getElem, List.getElem_toArray, List.getElem_cons_zero, List.getElem_cons_succ, List.setIfInBounds_toArray, List.set_cons_zero, List.set_cons_succ]
  refine wpAnyH_take (i := 5) (v := ?_) rfl (by kernel_rfl) (by kernel_rfl) (by kernel_rfl) (fun _ _ _ h => h) (Or.inl ⟨by kernel_rfl, ?_⟩) (by assumption) ?_
  rotate_left
  · (intro w hSw; (try dsimp only at hSw); go_simp) <;> (try (with_reducible rfl))
  try simp only [Act.put, Array.getInternal_eq_getElem, List.getElem_toArray, List.getElem_cons_zero, List.getElem_cons_succ, List.setIfInBounds_toArray, List.set_cons_zero, List.set_cons_succ]
  refine wpAnyH_done ?_ ?_ _
  · kernel_rfl
  clear hHeld
  have y34 := HPR.out w3 (Y3.out.keep _)
  have HLEN : Hid ((mid h ++ h.dat).length = mids h.pr + n) := Lib.hid (by rw [List.length_append, mid_len, HDL.out.1])
  have HSML : Hid (Small (mid h ++ h.dat)) := Lib.hid ((mid_small HWF.out).append HWF.out.b)
  have HP := Lib.hid hp
  have hsat : 0 < sat h.pr ∧ sat h.pr + 2 ≤ mids h.pr ∧ sat h.pr ≤ 16 := by rcases hp with e | e <;> rw [e] <;> decide
  obtain ⟨g3, c3, rfl, hg3, hg3b⟩ := Y3.out.form (by rw [HLEN.out]; omega)
  rw [HLEN.out]
  have HSAT := Lib.hid hsat
  have hcap : mids h.pr + n ≤ c3 := by_cap Y3.out HLEN.out
  have HSO := fun wq (hq : Keeps (fun _ => False) w3 wq) => Lib.hid (sumof_ wq h A n c HWF.out (some ⟨g3, 0, none⟩) (mids h.pr + n) c3 _ (mid h ++ h.dat) HLEN.out (by have := HSAT.out; omega) (by have := HDL.out.2; have := mids_le h.pr; omega) hcap HSML.out (by_rd0 (Y3.out.keepF hq)) (Nat.le_trans (Y3.out.own.lt g3 rfl).2 hq.size |> fun q => q) HP.out)
  have HFI := fun wq (hq : Keeps (fun _ => False) w3 wq) => Lib.hid (fill_ wq w2 g3 (mids h.pr + n) c3 (mid h ++ h.dat) (sat h.pr) (sumv h (mid h ++ h.dat)) (by have := Y3.out.keepF hq; rwa [HLEN.out] at this) HLEN.out (by have := HSAT.out; omega) (by have := HSAT.out; omega) (by have := HDL.out.2; have := mids_le h.pr; omega) (sumv_lt h _) (mid_z HP.out h.dat).1 (mid_z HP.out h.dat).2)
  obtain ⟨sa, hsa⟩ : ∃ sa, sa = sat h.pr := ⟨_, rfl⟩
  rw [← hsa] at HSA HFI
  have sa0 : (0 : Int) < (sa : Int) := by omega
  have HSAE := Lib.hid hsa
  obtain ⟨m, hm⟩ : ∃ m, m = mids h.pr + n := ⟨_, rfl⟩
  rw [← hm] at HSO HFI
  try rw [← hm]
  have hm9 : m ≤ 140737488000000 := by have := HDL.out.2; have := mids_le h.pr; omega
  have HM := Lib.hid hm
  unfold hvv at HSO
  rw [hC] at HSO
  clear hsat hp hg3 hg3b hcap hsa hm
  go_wp2_with (first
    | (go_at_call 35; refine (HSA _).out.mono ?_; rintro e w9 ⟨rfl, rfl⟩)
    | (refine wpList_load_mid rfl 29 _ rfl w.heap.size 0 rfl C _ ((HKS.out _ (Y3.out.keep _)).1) Try.underlying29 rfl HSZ.out ?_))
  --@A
  refine (HSO _ (Keeps.refl _ _)).out.mono ?_
  rintro e w4 ⟨rfl, k4⟩
  have K4 := Lib.hid k4
  clear k4
  go_wp2_with fail
  refine (HFI w4 (K4.out _)).out.mono ?_
  rintro e w5 ⟨rfl, y5, k5⟩
  have Y5 := Lib.hid y5
  clear y5 k5
  go_wp2_with (refine wpList_load_mid rfl 29 _ rfl w.heap.size 0 rfl C _ ((HKS.out _ (Y5.out.keep _)).1) Try.underlying29 rfl HSZ.out ?_)
  --@B
  refine (HFR w5 m hm9).out.mono ?_
  rintro e w6 ⟨v6, rfl, y6⟩
  have Y6 := Lib.hid y6
  have Y56 := Lib.hid (Y5.out.grown y6.keep)
  have HFL : Hid ((fillp (mid h ++ h.dat) sa (sumv h (mid h ++ h.dat))).length = m) := Lib.hid (by unfold fillp; rw [List.length_set, List.length_set, HLEN.out, HM.out])
  have HFN : Hid ((front h m).length ≤ 40) := Lib.hid (front_len h HWF.out m)
  clear y6
  go_wp2_with (at_builtin; refine By.wpList_append rfl _ _ rfl Y6.out rfl (some ⟨g3, 0, none⟩) m c3 _ (fillp (mid h ++ h.dat) sa (sumv h (mid h ++ h.dat))) rfl HFL.out (by_rd0 Y56.out) (by have := HFN.out; omega) ?_; intro v7 w7 y7 k7; have Y7 := Lib.hid y7; clear y7 k7)
  try rw [Exit.noGoto_ret]
  go_ret2
  refine ⟨_, rfl, ?_⟩
  have := (Y7.out.base (fun S => (K2.out S).trans (Y5.out.keep S)))
  unfold make
  rw [show (if sat h.pr = 0 then mid h ++ h.dat else fillp (mid h ++ h.dat) (sat h.pr) (sumv h (mid h ++ h.dat))) = fillp (mid h ++ h.dat) sa (sumv h (mid h ++ h.dat)) from by rw [if_neg (by have := HSAT.out; omega), HSAE.out], show (mid h).length + h.dat.length = m from by rw [mid_len, HDL.out.1, HM.out]]
  exact this
set_option maxRecDepth 100000 in
set_option maxHeartbeats 1500000 in
theorem make_bare (h : Hd) (A : Option Addr) (n c : Nat) (hw : h.Wf) (hl : h.dat.length = n) (hn : n ≤ 140737480000000) (hr : Rd w w.heap.size A (by_ h.dat)) (hc : chkE h = 0) (hp : h.pr ≠ 6 ∧ h.pr ≠ 17) :
    Calls Try.prog 16 #[hvv h (.slice A n c)] w fun e w' => ∃ v, e = .returned (.tuple #[v, .int .i64 0]) ∧ By w w' v (make h) := by
  obtain ⟨w1, hw1, k1, b1, s1⟩ := box1 w (hcs h (.slice A n c)) 29
  have HCK := fun w => Lib.hid (pchk_ w h A n c hw hl (by omega))
  rw [hc] at HCK
  have HSZ := Lib.hid (hd_sz hw (.slice A n c))
  have HBK := Lib.hid b1
  have HWF := Lib.hid hw
  have K1 := Lib.hid k1
  have HW := Lib.hid hw1
  have hsz := chk_ok hc
  rw [hl] at hsz
  have HSZ2 := Lib.hid hsz
  have HID := Lib.hid (chk_id hc)
  have HDL := Lib.hid (And.intro hl hn)
  have HMD := fun w => Lib.hid (middle_ w h A n c hw hl (by omega))
  have HSA := fun w => Lib.hid (psat_ w h.pr)
  have HFR := fun w k hk => Lib.hid (front_ w h (.slice A n c) hw (chk_id hc) k hk)
  have HRD0 := Lib.hid (rd_old hr (k1 (fun _ => False)))
  unfold hvv at HCK HMD HFR ⊢
  clear hw1 k1 b1 s1 hw hl hr hc hsz
  generalize hC : hcs h (.slice A n c) = C at *
  go_enter Try.func16, Try.ntmps16
  go_wp2_with (first | ((try with_reducible rw [← HW.out]); refine wpList_load_mid rfl 29 _ rfl w.heap.size 0 rfl C _ (Blk.range HBK.out) Try.underlying29 rfl HSZ.out ?_))
  refine (HCK _).out.mono ?_
  rintro e w2 ⟨rfl, k2⟩
  have K2 : Hid (∀ S, Keeps S w w2) := Lib.hid (fun S => (K1.out S).trans (k2 S))
  have HRD : Hid (∀ wq, Keeps (fun _ => False) w2 wq → Rd wq w.heap.size A (by_ h.dat)) := Lib.hid (fun wq kq => rd_old HRD0.out ((k2 _).trans kq))
  have HKS : Hid (∀ wq, Keeps (fun _ => False) w2 wq → wq.rangeAt w.heap.size 0 C ∧ wq.cell? ⟨w.heap.size, 42, none⟩ = some (.slice A n c)) := Lib.hid (fun wq kq => by
    have hb := Blk.keeps (Blk.keeps HBK.out (k2 (fun _ => False)) (fun z => z)) kq (fun z => z)
    refine ⟨Blk.range hb, ?_⟩
    rw [← hC] at hb
    exact (HF.of_blk HWF.out hb).dat)
  have HPR : Hid (∀ wq, Keeps (fun _ => False) w2 wq → wq.cell? ⟨w.heap.size, 34, none⟩ = some (.int .u8 (h.pr : Int))) := Lib.hid (fun wq kq => by
    have hb := Blk.keeps (Blk.keeps HBK.out (k2 (fun _ => False)) (fun z => z)) kq (fun z => z)
    rw [← hC] at hb
    exact (HF.of_blk HWF.out hb).pr)
  clear k2 HCK
  go_wp2_with fail
  refine wp_region_held_drew (S := fun w' => w'.rangeAt w.heap.size 0 C ∧ w'.cell? ⟨w.heap.size, 42, none⟩ = some (.slice A n c)) (by kernel_rfl) (HKS.out _ ((Keeps.refl _ w2).drew)) (fun hHeld => ?_)
  refine' wpAnyH_take (i := 0) (v := _) rfl (by kernel_rfl) (by kernel_rfl) (by kernel_rfl) (fun _ _ _ h => h) (yieldsIf_load_mid (by kernel_rfl) _ _ rfl _ _ rfl _ _ (fun w hSw => hSw.1) Try.underlying29 rfl HSZ.out) (by assumption) ?_
  try simp only [Act.put, Array.getInternal_eq_getElem, List.getElem_toArray, List.getElem_cons_zero, List.getElem_cons_succ, List.setIfInBounds_toArray, List.set_cons_zero, List.set_cons_succ]
  refine wpAnyH_take (i := 2) (v := ?_) rfl (by kernel_rfl) (by kernel_rfl) (by kernel_rfl) (fun _ _ _ h => h) (Or.inl ⟨by kernel_rfl, ?_⟩) (by assumption) ?_
  rotate_left
  · (intro w hSw; (try dsimp only at hSw); go_simp) <;> (try (with_reducible rfl))
  try simp only [Act.put, Array.getInternal_eq_getElem, List.getElem_toArray, List.getElem_cons_zero, List.getElem_cons_succ, List.setIfInBounds_toArray, List.set_cons_zero, List.set_cons_succ]
  refine wpAnyH_take (i := 3) (v := ?_) rfl (by kernel_rfl) (by kernel_rfl) (by kernel_rfl) (fun _ _ _ h => h) (Or.inl ⟨by kernel_rfl, ?_⟩) (by assumption) ?_
  rotate_left
  · (intro w hSw; have hcell := hSw.2; go_simp) <;> (try (with_reducible rfl))
  try simp only [Act.put, Array.getInternal_eq_getElem, List.getElem_toArray, List.getElem_cons_zero, List.getElem_cons_succ, List.setIfInBounds_toArray, List.set_cons_zero, List.set_cons_succ]
  refine wpAnyH_ready (rs := [1]) (by kernel_rfl) (by simp) ?_
  refine AllReadyH.cons rfl (fun K hK => ?_) AllReadyH.nil
  (rw [if_pos (by kernel_rfl)]; go_simp; go_at_call 34; refine (HMD _).out.mono ?_; rintro e wa ⟨va, rfl, ya⟩; have YA := Lib.hid (ya.base (fun S => (Keeps.refl S w2).drew)); clear ya)
  refine hK.out _ _ (HKS.out wa (YA.out.keep _)) (fun hHeld => ?_)
  clear hK K
  try simp only [Act.put, Array.getInternal_eq_getElem, List.getElem_toArray, List.getElem_cons_zero, List.getElem_cons_succ, List.setIfInBounds_toArray, List.set_cons_zero, List.set_cons_succ]
  refine wpAnyH_ready (rs := [4]) (by kernel_rfl) (by simp) ?_
  refine AllReadyH.cons rfl (fun K hK => ?_) AllReadyH.nil
  (rw [if_pos (by kernel_rfl)]; simp only [Array.getInternal_eq_getElem, List.getElem_toArray, List.getElem_cons_zero, List.getElem_cons_succ]; refine By.wp_append _ _ rfl YA.out rfl A n c _ h.dat rfl HDL.out.1 (HRD.out wa (YA.out.keep _)) (by rw [mid_len]; have := HDL.out.2; have := mids_le h.pr; omega) ?_; intro v3 w3 y3 k3; have Y3 := Lib.hid y3; clear y3 k3)
  refine hK.out _ _ (HKS.out w3 (Y3.out.keep _)) (fun hHeld => ?_)
  clear hK K
  try simp only [Act.put, Array.getInternal_eq_getElem, List.getElem_toArray, List.getElem_cons_zero, List.getElem_cons_succ, List.setIfInBounds_toArray, List.set_cons_zero, List.set_cons_succ]
  refine wpAnyH_take (i := 5) (v := ?_) rfl (by kernel_rfl) (by kernel_rfl) (by kernel_rfl) (fun _ _ _ h => h) (Or.inl ⟨by kernel_rfl, ?_⟩) (by assumption) ?_
  rotate_left
  · (intro w hSw; (try dsimp only at hSw); go_simp) <;> (try (with_reducible rfl))
  try simp only [Act.put, Array.getInternal_eq_getElem, List.getElem_toArray, List.getElem_cons_zero, List.getElem_cons_succ, List.setIfInBounds_toArray, List.set_cons_zero, List.set_cons_succ]
  refine wpAnyH_done ?_ ?_ _
  · kernel_rfl
  clear hHeld
  have y34 := HPR.out w3 (Y3.out.keep _)
  have HLEN : Hid ((mid h ++ h.dat).length = mids h.pr + n) := Lib.hid (by rw [List.length_append, mid_len, HDL.out.1])
  have HSML : Hid (Small (mid h ++ h.dat)) := Lib.hid ((mid_small HWF.out).append HWF.out.b)
  obtain ⟨A3, c3, rfl, r3⟩ := Y3.out.rd
  rw [HLEN.out]
  have HR3 := Lib.hid r3
  rw [satN hp.1 hp.2] at HSA
  have HSN : Hid (sat h.pr = 0) := Lib.hid (satN hp.1 hp.2)
  obtain ⟨m, hm⟩ : ∃ m, m = mids h.pr + n := ⟨_, rfl⟩
  try rw [← hm]
  have hm9 : m ≤ 140737488000000 := by have := HDL.out.2; have := mids_le h.pr; omega
  have HM := Lib.hid hm
  clear hp r3 hm
  go_wp2_with (first
    | (go_at_call 35; refine (HSA _).out.mono ?_; rintro e w9 ⟨rfl, rfl⟩)
    | (refine wpList_load_mid rfl 29 _ rfl w.heap.size 0 rfl C _ ((HKS.out _ (Y3.out.keep _)).1) Try.underlying29 rfl HSZ.out ?_))
  --@A
  refine (HFR _ m hm9).out.mono ?_
  rintro e w6 ⟨v6, rfl, y6⟩
  have Y6 := Lib.hid y6
  have HR6 := Lib.hid (rd_old HR3.out (y6.keep (fun _ => False)))
  have HFL : Hid ((mid h ++ h.dat).length = m) := Lib.hid (by rw [HLEN.out, HM.out])
  have HFN : Hid ((front h m).length ≤ 40) := Lib.hid (front_len h HWF.out m)
  clear y6
  go_wp2_with (at_builtin; refine By.wpList_append rfl _ _ rfl Y6.out rfl A3 m c3 _ (mid h ++ h.dat) rfl HFL.out HR6.out (by have := HFN.out; omega) ?_; intro v7 w7 y7 k7; have Y7 := Lib.hid y7; clear y7 k7)
  try rw [Exit.noGoto_ret]
  go_ret2
  refine ⟨_, rfl, ?_⟩
  have := (Y7.out.base (fun S => (K2.out S).trans (Y3.out.keep S)))
  unfold make
  rw [if_pos HSN.out, show (mid h).length + h.dat.length = m from by rw [mid_len, HDL.out.1, HM.out]]
  exact this
end
end Go.Proofs.Ytidengmcbppcoaa.pk
