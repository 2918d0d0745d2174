/-
  PacketSame: for every input the law returns true and every argument reads afterwards as it read before. No condition but the form's own reach.
-/
import Derived.Test.YtidengmcbppcoaaPlM
import Derived.Test.YtidengmcbppcoaaRows
import Derived.Test.YtidengmcbppcoaaOcOpen
import Derived.ShutString
import Derived.ChangeOld
set_option linter.unusedVariables false
set_option linter.unusedSimpArgs false
namespace Go.Proofs.Ytidengmcbppcoaa.pk
open Go.RowKit Go.Proofs.Ytidengmcbppcoaa.oc Go.Proofs.Ytidengmcbppcoaa.mz Go.Proofs.Ytidengmcbppcoaa.pf Go.Proofs.Ytidengmcbppcoaa.wh Go.Proofs.Ytidengmcbppcoaa.qk Go.Proofs.Ytidengmcbppcoaa.bys
theorem rd_of_blk {w : World} {g : Nat} {t : TypeId} {l : List Nat} (b : Blk w g t (by_ l)) : Rd w (g + 1) (some ⟨g, 0, none⟩) (by_ l) := fun j v hj => ⟨g, 0, rfl, Nat.lt_succ_self g, by rw [Nat.zero_add, b.cell]; exact hj⟩
section
variable (w : World)
set_option maxRecDepth 100000 in
set_option maxHeartbeats 4000000 in
theorem psl_0 (a b : Hd) (ha : a.Wf) (hb : b.Wf) (A A2 : Option Addr) (n n2 c c2 : Nat) (hl : a.dat.length = n) (hl2 : b.dat.length = n2) (hn : n ≤ 140737488351232) (hr : Rd w w.heap.size A (by_ a.dat)) (hr2 : Rd w w.heap.size A2 (by_ b.dat)) (f : Int) (hf1 : -9223372036854775808 ≤ f) (hf2 : f ≤ 9223372036854775807) (hq : Int.tmod (Int.tmod f 11 + 11) 11 = 0) :
    Calls Try.prog 3 #[hvv a (.slice A n c), hvv b (.slice A2 n2 c2), .int .i64 f] w fun e w' => e = .returned (.bool true) ∧ ∀ S, Keeps S w w' := by
  obtain ⟨w1, hw1, k1, bA, bB, s1⟩ := box2 w (hcs a (.slice A n c)) (hcs b (.slice A2 n2 c2)) 29 29
  obtain ⟨wz, hwz, kz, bz, sz⟩ := box1 w1 zhd 29
  dsimp only [zhd] at hwz
  obtain ⟨t2, b2, k2⟩ := p_store bz (cs := hcs a (.slice A n c)) (by rw [hcs_len ha]; rfl)
  obtain ⟨w2, hw2⟩ : ∃ w2, w2 = wz.setCells w1.heap.size 0 (hcs a (.slice A n c)) := ⟨_, rfl⟩
  rw [← hw2] at b2 k2
  have k12 : ∀ S, Keeps S w1 w2 := keeps_own kz k2 (Nat.le_refl _)
  obtain ⟨w3, hw3, k3, b3, s3⟩ := box1 w2 [] 5
  have s2 : w1.heap.size + 1 ≤ w2.heap.size := by have := k2.size; omega
  have y3 : By w2 w3 (.slice (some ⟨w2.heap.size, 0, none⟩) 0 0) [] := By.of_blk b3 rfl (Nat.le_refl _) (by omega) k3
  have r3 := rd_old hr (((k1 (fun _ => False)).trans (k12 _)).trans (k3 _))
  obtain ⟨r, hrm⟩ : ∃ r, Int.tmod f 11 = r := ⟨_, rfl⟩
  have hrb := tmod11 f
  rw [hrm] at hrb hq
  have r1 := hrb.1
  have r2 := hrb.2
  have x42 : w3.cell? ⟨w.heap.size, 42, none⟩ = some (.slice A n c) := (HF.of_blk ha (Blk.keeps bA ((k12 (fun _ => False)).trans (k3 _)) (fun z => z))).dat
  have HWA := Lib.hid ha
  have HWB := Lib.hid hb
  have HY3 := Lib.hid y3
  have HR3 := Lib.hid r3
  have HLL := Lib.hid (And.intro hl hl2)
  have HRR := Lib.hid (And.intro hr hr2)
  have HN := Lib.hid hn
  have HKK := Lib.hid (And.intro k1 (And.intro k12 k3))
  have HBA := Lib.hid bA
  have HBB := Lib.hid bB
  have HB2 := Lib.hid b2
  have HT2 := Lib.hid t2
  have HS := Lib.hid (And.intro s1 s2)
  have HSZ : Hid ((Try.prog.info? 29).map (·.size) = some (hcs a (.slice A n c)).length) := Lib.hid (hd_sz ha _)
  have HSO := Lib.hid (all_oneCell_toArray (hcs_one (h := a) (v := .slice A n c) rfl))
  have HW1 := Lib.hid hw1
  have HWZ := Lib.hid hwz
  have HW2 := Lib.hid hw2
  replace hw3 : w3 = w2.alloc (.cells #[] 5) := hw3
  rw [hw3] at x42
  have HW3 := Lib.hid hw3
  unfold hvv
  clear hw1 k1 bA bB s1 hwz kz bz sz t2 b2 k2 hw2 k12 hw3 k3 b3 s3 s2 y3 r3 hrb ha hb hl hl2 hr hr2
  generalize hCA : hcs a (.slice A n c) = CA at *
  generalize hCB : hcs b (.slice A2 n2 c2) = CB at *
  have HCA := Lib.hid hCA
  have HCB := Lib.hid hCB
  clear hCA hCB
  go_enter Try.func3, Try.ntmps3
  go_wp2_with (first
    | ((with_reducible show wpList _ _ _ (⟨some 8, _, _, _, _, _⟩ :: _) _ _); (try rw [← HW1.out]); refine wpList_load_mid rfl 29 _ rfl w.heap.size 0 rfl CA _ (Blk.range HBA.out) Try.underlying29 rfl HSZ.out ?_)
    | ((with_reducible show wpList _ _ _ (⟨none, .store _ (.tmp 7) _, _, _, _, _⟩ :: _) _ _); (try rw [← HWZ.out]); refine' wpList_store_mid rfl 29 _ _ rfl w1.heap.size 0 (CA).toArray ?hx rfl ?ht HSZ.out HSO.out ?_; (case hx => rfl); (case ht => exact HT2.out); rw [← HW2.out])
    | ((with_reducible show wpList _ _ _ (⟨some 12, _, _, _, _, _⟩ :: _) _ _); (try rw [← HW3.out]); refine By.wpList_append rfl _ _ rfl HY3.out rfl A n c _ a.dat rfl HLL.out.1 HR3.out (by have := HN.out; simp; omega) ?_; intro v4 w4 y4 k4; clear k4; have ya := y4; obtain ⟨A4, c4, rfl, r4⟩ := ya.rd; rw [List.nil_append] at ya r4 ⊢; rw [HLL.out.1] at ya ⊢; have h1 := HWA.out.s; have h2 := HWA.out.d; have g4 := Blk.keeps HB2.out (ya.keep (fun _ => False)) (fun z => z); rw [← HCA.out] at g4; have c42 : w4.cell? ⟨w1.heap.size, 42, none⟩ = some _ := h_cell g4 h1 h2 8 _ rfl; have f42 : w4.frozen? ⟨w1.heap.size, 42, none⟩ = false := g4.frozen 42; have g5 := st_dat g4 h1 h2 (.slice A4 n c4) a.dat; have p5 := keeps_put (G := w1.heap.size) (Keeps.refl _ w4) 42 (.slice A4 n c4); obtain ⟨b15, hb15⟩ : ∃ b15, b15 = a.src.B.getD 15 0 := ⟨_, rfl⟩; obtain ⟨xr, hxr0⟩ : ∃ xr, xr = b15 ^^^ 1 := ⟨_, rfl⟩; have cx : (w4.setCell ⟨w1.heap.size, 42, none⟩ (.slice A4 n c4)).cell? ⟨w1.heap.size, 16, none⟩ = some (.int .u8 (b15 : Int)) := (by rw [hb15]; exact c_b15 g5 h1); have fx : (w4.setCell ⟨w1.heap.size, 42, none⟩ (.slice A4 n c4)).frozen? ⟨w1.heap.size, 16, none⟩ = false := g5.frozen 16; have g6 := st_b15 g5 h1; rw [show ((({a with dat := a.dat} : Hd).src.B.getD 15 0 ^^^ 1 : Nat)) = xr from (by rw [hxr0, hb15])] at g6; have p6 := keeps_put p5 16 (.int .u8 (xr : Int)); have hxr : bits .xor .u8 (b15 : Int) 1 = (xr : Int) := (by rw [hxr0]; exact u8_xor_nat b15 1 (by rw [hb15]; exact getD_lt h1.sm 15) (by decide)); clear hb15 hxr0))
  --@E
  obtain ⟨w6, hw6⟩ : ∃ w6, w6 = (w4.setCell ⟨w1.heap.size, 42, none⟩ (.slice A4 n c4)).setCell ⟨w1.heap.size, 16, none⟩ (.int .u8 (xr : Int)) := ⟨_, rfl⟩
  rw [← hw6]
  rw [← hw6] at g6 p6
  have gC : Blk w6 w1.heap.size 29 (hcs (⟨tw15 a.src, a.dst, a.pr, a.sp, a.dp, a.ttl, a.cls, a.id, a.fl, a.seq, a.dat⟩ : Hd) (.slice A4 n c4)) := g6
  have hch : (⟨tw15 a.src, a.dst, a.pr, a.sp, a.dp, a.ttl, a.cls, a.id, a.fl, a.seq, a.dat⟩ : Hd).Wf := ⟨tw15_wf HWA.out.s, HWA.out.d, HWA.out.p, HWA.out.sl, HWA.out.dl, HWA.out.t, HWA.out.c, HWA.out.i, HWA.out.f, HWA.out.q, HWA.out.b⟩
  have hne : ¬ a = (⟨tw15 a.src, a.dst, a.pr, a.sp, a.dp, a.ttl, a.cls, a.id, a.fl, a.seq, a.dat⟩ : Hd) := fun e => tw15_ne HWA.out.s (congrArg Hd.src e)
  have hdl : (⟨tw15 a.src, a.dst, a.pr, a.sp, a.dp, a.ttl, a.cls, a.id, a.fl, a.seq, a.dat⟩ : Hd).dat.length = n := HLL.out.1
  have s1 := HS.out.1
  have s2 := HS.out.2
  have k16 : ∀ S, Keeps S w1 w6 := keeps_own (fun S => (HKK.out.2.1 S).trans (ya.keep S)) p6 (Nat.le_refl _)
  have kw6 : ∀ S, Keeps S w w6 := fun S => (HKK.out.1 S).trans (k16 S)
  have gA := Blk.keeps HBA.out (k16 (fun _ => False)) (fun z => z)
  have gB := Blk.keeps HBB.out (k16 (fun _ => False)) (fun z => z)
  have rC : Rd w6 w6.heap.size A4 (by_ (⟨tw15 a.src, a.dst, a.pr, a.sp, a.dp, a.ttl, a.cls, a.id, a.fl, a.seq, a.dat⟩ : Hd).dat) := (by obtain ⟨A9, c9, h9, r9⟩ := (past_ (By.base (w := w1) ya HKK.out.2.1) p6 (Nat.le_refl _) (ya.apart (by omega))).rd; injection h9 with e1 _ _; subst e1; exact r9)
  have KW6 := Lib.hid kw6
  have HCL : Hid (∀ wq, Keeps (fun _ => False) w6 wq → wq.rangeAt w.heap.size 0 CA ∧ wq.rangeAt (w.heap.size + 1) 0 CB ∧ wq.rangeAt w1.heap.size 0 (hcs (⟨tw15 a.src, a.dst, a.pr, a.sp, a.dp, a.ttl, a.cls, a.id, a.fl, a.seq, a.dat⟩ : Hd) (.slice A4 n c4))) := Lib.hid (fun wq kq => ⟨Blk.range (Blk.keeps gA kq (fun z => z)), Blk.range (Blk.keeps gB kq (fun z => z)), Blk.range (Blk.keeps gC kq (fun z => z))⟩)
  have ra : ∀ u, Keeps (fun _ => False) w6 u → Rd u u.heap.size A (by_ a.dat) := fun u hu => (rd_old HRR.out.1 ((kw6 _).trans hu)).more ((kw6 (fun _ => False)).trans hu).size
  have rb : ∀ u, Keeps (fun _ => False) w6 u → Rd u u.heap.size A2 (by_ b.dat) := fun u hu => (rd_old HRR.out.2 ((kw6 _).trans hu)).more ((kw6 (fun _ => False)).trans hu).size
  have rc : ∀ u, Keeps (fun _ => False) w6 u → Rd u u.heap.size A4 (by_ (⟨tw15 a.src, a.dst, a.pr, a.sp, a.dp, a.ttl, a.cls, a.id, a.fl, a.seq, a.dat⟩ : Hd).dat) := fun u hu => (rd_old rC hu).more hu.size
  have HAB : Hid (∀ u, Keeps (fun _ => False) w6 u → Calls Try.prog 11 #[.agg CA.toArray, .agg CB.toArray] u fun e w' => e = .returned (.bool (sameH a b)) ∧ ∀ S, Keeps S u w') := Lib.hid (fun u hu => by rw [← HCA.out, ← HCB.out]; exact psame2_ u a b HWA.out HWB.out A A2 n n2 c c2 HLL.out.1 HLL.out.2 (ra u hu) (rb u hu))
  have HRB : Hid (∀ u, Keeps (fun _ => False) w6 u → Calls Try.prog 12 #[.agg CA.toArray, .agg CB.toArray] u fun e w' => e = .returned (.bool (sameH a b)) ∧ ∀ S, Keeps S u w') := Lib.hid (fun u hu => by rw [← HCA.out, ← HCB.out]; exact rsame_ u a b HWA.out HWB.out A A2 n n2 c c2 HLL.out.1 HLL.out.2 (by have := HN.out; omega) (ra u hu) (rb u hu))
  have HAA : Hid (∀ u, Keeps (fun _ => False) w6 u → Calls Try.prog 11 #[.agg CA.toArray, .agg CA.toArray] u fun e w' => e = .returned (.bool true) ∧ ∀ S, Keeps S u w') := Lib.hid (fun u hu => by rw [← HCA.out]; have := psame2_ u a a HWA.out HWA.out A A n n c c HLL.out.1 HLL.out.1 (ra u hu) (ra u hu); rw [same_yes rfl] at this; exact this)
  have HAC : Hid (∀ u, Keeps (fun _ => False) w6 u → Calls Try.prog 11 #[.agg CA.toArray, .agg (hcs (⟨tw15 a.src, a.dst, a.pr, a.sp, a.dp, a.ttl, a.cls, a.id, a.fl, a.seq, a.dat⟩ : Hd) (.slice A4 n c4)).toArray] u fun e w' => e = .returned (.bool false) ∧ ∀ S, Keeps S u w') := Lib.hid (fun u hu => by rw [← HCA.out]; have := psame2_ u a (⟨tw15 a.src, a.dst, a.pr, a.sp, a.dp, a.ttl, a.cls, a.id, a.fl, a.seq, a.dat⟩ : Hd) HWA.out hch A A4 n n c c4 HLL.out.1 hdl (ra u hu) (rc u hu); rw [same_no hne] at this; exact this)
  have HCC : Hid (∀ u, Keeps (fun _ => False) w6 u → Calls Try.prog 11 #[.agg (hcs (⟨tw15 a.src, a.dst, a.pr, a.sp, a.dp, a.ttl, a.cls, a.id, a.fl, a.seq, a.dat⟩ : Hd) (.slice A4 n c4)).toArray, .agg CA.toArray] u fun e w' => e = .returned (.bool false) ∧ ∀ S, Keeps S u w') := Lib.hid (fun u hu => by rw [← HCA.out]; have := psame2_ u (⟨tw15 a.src, a.dst, a.pr, a.sp, a.dp, a.ttl, a.cls, a.id, a.fl, a.seq, a.dat⟩ : Hd) a hch HWA.out A4 A n n c4 c hdl HLL.out.1 (rc u hu) (ra u hu); rw [same_no (fun e => hne e.symm)] at this; exact this)
  have HSC : Hid ((Try.prog.info? 29).map (·.size) = some (hcs (⟨tw15 a.src, a.dst, a.pr, a.sp, a.dp, a.ttl, a.cls, a.id, a.fl, a.seq, a.dat⟩ : Hd) (.slice A4 n c4)).length) := Lib.hid (hd_sz hch _)
  have HSB : Hid ((Try.prog.info? 29).map (·.size) = some CB.length) := Lib.hid (by rw [← HCB.out]; exact hd_sz HWB.out _)
  clear hw6 g6 p6 gC hch hne hdl s1 s2 k16 kw6 gA gB rC ra rb rc ya r4 h1 h2 g4 c42 f42 g5 p5 cx fx hxr
  generalize hcs (⟨tw15 a.src, a.dst, a.pr, a.sp, a.dp, a.ttl, a.cls, a.id, a.fl, a.seq, a.dat⟩ : Hd) (.slice A4 n c4) = CC at *
  obtain ⟨z, hz⟩ : ∃ z, z = sameH a b := ⟨_, rfl⟩
  rw [← hz] at HAB HRB
  clear hz
  have hzz : (z == z) = true := beq_self_eq_true z
  go_wp2_with fail
  --@25
  refine wp_region_held_drew (S := fun w' => w'.rangeAt w.heap.size 0 CA ∧ w'.rangeAt (w.heap.size + 1) 0 CB ∧ w'.rangeAt w1.heap.size 0 CC) (by kernel_rfl) (HCL.out _ ((Keeps.refl _ w6).drew)) (fun hHeld => ?_)
  refine' wpAnyH_take (i := 0) (v := _) rfl (by kernel_rfl) (by kernel_rfl) (by kernel_rfl) (fun _ _ _ h => h) (yieldsIf_load_mid (by kernel_rfl) _ _ rfl _ _ rfl _ _ (fun w hSw => hSw.1) Try.underlying29 rfl HSZ.out) (by assumption) ?_
  try simp only [Act.put, Array.getInternal_eq_getElem, List.getElem_toArray, List.getElem_cons_zero, List.getElem_cons_succ, List.setIfInBounds_toArray, List.set_cons_zero, List.set_cons_succ]
  refine' wpAnyH_take (i := 1) (v := _) rfl (by kernel_rfl) (by kernel_rfl) (by kernel_rfl) (fun _ _ _ h => h) (yieldsIf_load_mid (by kernel_rfl) _ _ rfl _ _ rfl _ _ (fun w hSw => hSw.2.1) Try.underlying29 rfl HSB.out) (by assumption) ?_
  try simp only [Act.put, Array.getInternal_eq_getElem, List.getElem_toArray, List.getElem_cons_zero, List.getElem_cons_succ, List.setIfInBounds_toArray, List.set_cons_zero, List.set_cons_succ]
  refine' wpAnyH_take (i := 3) (v := _) rfl (by kernel_rfl) (by kernel_rfl) (by kernel_rfl) (fun _ _ _ h => h) (yieldsIf_load_mid (by kernel_rfl) _ _ rfl _ _ rfl _ _ (fun w hSw => hSw.1) Try.underlying29 rfl HSZ.out) (by assumption) ?_
  try simp only [Act.put, Array.getInternal_eq_getElem, List.getElem_toArray, List.getElem_cons_zero, List.getElem_cons_succ, List.setIfInBounds_toArray, List.set_cons_zero, List.set_cons_succ]
  refine' wpAnyH_take (i := 4) (v := _) rfl (by kernel_rfl) (by kernel_rfl) (by kernel_rfl) (fun _ _ _ h => h) (yieldsIf_load_mid (by kernel_rfl) _ _ rfl _ _ rfl _ _ (fun w hSw => hSw.2.1) Try.underlying29 rfl HSB.out) (by assumption) ?_
  try simp only [Act.put, Array.getInternal_eq_getElem, List.getElem_toArray, List.getElem_cons_zero, List.getElem_cons_succ, List.setIfInBounds_toArray, List.set_cons_zero, List.set_cons_succ]
  refine wpAnyH_ready (rs := [2]) (by kernel_rfl) (by simp) ?_
  refine AllReadyH.cons rfl (fun K hK => ?_) AllReadyH.nil
  (rw [if_pos (by kernel_rfl)]; go_simp; go_at_call 11; refine (HAB.out _ ((Keeps.refl _ w6).drew)).mono ?_; rintro e u1 ⟨rfl, k1⟩; have K1 := Lib.hid (Keeps.trans (S := fun _ => False) ((Keeps.refl _ w6).drew) (k1 _)); clear k1)
  refine hK.out _ _ (HCL.out _ K1.out) (fun hHeld => ?_)
  clear hK K
  try simp only [Act.put, Array.getInternal_eq_getElem, List.getElem_toArray, List.getElem_cons_zero, List.getElem_cons_succ, List.setIfInBounds_toArray, List.set_cons_zero, List.set_cons_succ]
  refine wpAnyH_ready (rs := [5]) (by kernel_rfl) (by simp) ?_
  refine AllReadyH.cons rfl (fun K hK => ?_) AllReadyH.nil
  (rw [if_pos (by kernel_rfl)]; go_simp; go_at_call 12; refine (HRB.out _ K1.out).mono ?_; rintro e u2 ⟨rfl, k2⟩; have K2 := Lib.hid (Keeps.trans (S := fun _ => False) K1.out (k2 _)); clear k2)
  refine hK.out _ _ (HCL.out _ K2.out) (fun hHeld => ?_)
  clear hK K
  try simp only [Act.put, Array.getInternal_eq_getElem, List.getElem_toArray, List.getElem_cons_zero, List.getElem_cons_succ, List.setIfInBounds_toArray, List.set_cons_zero, List.set_cons_succ]
  refine wpAnyH_take (i := 6) (v := ?_) rfl (by kernel_rfl) (by kernel_rfl) (by kernel_rfl) (fun _ _ _ h => h) (Or.inl ⟨by kernel_rfl, ?_⟩) (by assumption) ?_
  rotate_left
  · (intro w hSw; (try dsimp only at hSw); go_simp) <;> (try (with_reducible rfl))
  try simp only [Act.put, Array.getInternal_eq_getElem, List.getElem_toArray, List.getElem_cons_zero, List.getElem_cons_succ, List.setIfInBounds_toArray, List.set_cons_zero, List.set_cons_succ]
  refine wpAnyH_take (i := 7) (v := ?_) rfl (by kernel_rfl) (by kernel_rfl) (by kernel_rfl) (fun _ _ _ h => h) (Or.inl ⟨by kernel_rfl, ?_⟩) (by assumption) ?_
  rotate_left
  · (intro w hSw; (try dsimp only at hSw); go_simp) <;> (try (with_reducible rfl))
  try simp only [Act.put, Array.getInternal_eq_getElem, List.getElem_toArray, List.getElem_cons_zero, List.getElem_cons_succ, List.setIfInBounds_toArray, List.set_cons_zero, List.set_cons_succ]
  refine' wpAnyH_take (i := 8) (v := _) rfl (by kernel_rfl) (by kernel_rfl) (by kernel_rfl) (fun _ _ _ h => h) (yieldsIf_load_mid (by kernel_rfl) _ _ rfl _ _ rfl _ _ (fun w hSw => hSw.1) Try.underlying29 rfl HSZ.out) (by assumption) ?_
  try simp only [Act.put, Array.getInternal_eq_getElem, List.getElem_toArray, List.getElem_cons_zero, List.getElem_cons_succ, List.setIfInBounds_toArray, List.set_cons_zero, List.set_cons_succ]
  refine' wpAnyH_take (i := 9) (v := _) rfl (by kernel_rfl) (by kernel_rfl) (by kernel_rfl) (fun _ _ _ h => h) (yieldsIf_load_mid (by kernel_rfl) _ _ rfl _ _ rfl _ _ (fun w hSw => hSw.1) Try.underlying29 rfl HSZ.out) (by assumption) ?_
  try simp only [Act.put, Array.getInternal_eq_getElem, List.getElem_toArray, List.getElem_cons_zero, List.getElem_cons_succ, List.setIfInBounds_toArray, List.set_cons_zero, List.set_cons_succ]
  refine wpAnyH_ready (rs := [10]) (by kernel_rfl) (by simp) ?_
  refine AllReadyH.cons rfl (fun K hK => ?_) AllReadyH.nil
  (rw [if_pos (by kernel_rfl)]; go_simp; go_at_call 11; refine (HAA.out _ K2.out).mono ?_; rintro e u3 ⟨rfl, k3⟩; have K3 := Lib.hid (Keeps.trans (S := fun _ => False) K2.out (k3 _)); clear k3)
  refine hK.out _ _ (HCL.out _ K3.out) (fun hHeld => ?_)
  clear hK K
  try simp only [Act.put, Array.getInternal_eq_getElem, List.getElem_toArray, List.getElem_cons_zero, List.getElem_cons_succ, List.setIfInBounds_toArray, List.set_cons_zero, List.set_cons_succ]
  refine wpAnyH_take (i := 11) (v := ?_) rfl (by kernel_rfl) (by kernel_rfl) (by kernel_rfl) (fun _ _ _ h => h) (Or.inl ⟨by kernel_rfl, ?_⟩) (by assumption) ?_
  rotate_left
  · (intro w hSw; (try dsimp only at hSw); go_simp) <;> (try (with_reducible rfl))
  try simp only [Act.put, Array.getInternal_eq_getElem, List.getElem_toArray, List.getElem_cons_zero, List.getElem_cons_succ, List.setIfInBounds_toArray, List.set_cons_zero, List.set_cons_succ]
  refine wpAnyH_take (i := 12) (v := ?_) rfl (by kernel_rfl) (by kernel_rfl) (by kernel_rfl) (fun _ _ _ h => h) (Or.inl ⟨by kernel_rfl, ?_⟩) (by assumption) ?_
  rotate_left
  · (intro w hSw; (try dsimp only at hSw); go_simp) <;> (try (with_reducible rfl))
  try simp only [Act.put, Array.getInternal_eq_getElem, List.getElem_toArray, List.getElem_cons_zero, List.getElem_cons_succ, List.setIfInBounds_toArray, List.set_cons_zero, List.set_cons_succ]
  refine' wpAnyH_take (i := 13) (v := _) rfl (by kernel_rfl) (by kernel_rfl) (by kernel_rfl) (fun _ _ _ h => h) (yieldsIf_load_mid (by kernel_rfl) _ _ rfl _ _ rfl _ _ (fun w hSw => hSw.1) Try.underlying29 rfl HSZ.out) (by assumption) ?_
  try simp only [Act.put, Array.getInternal_eq_getElem, List.getElem_toArray, List.getElem_cons_zero, List.getElem_cons_succ, List.setIfInBounds_toArray, List.set_cons_zero, List.set_cons_succ]
  refine' wpAnyH_take (i := 14) (v := _) rfl (by kernel_rfl) (by kernel_rfl) (by kernel_rfl) (fun _ _ _ h => h) (yieldsIf_load_mid (by kernel_rfl) _ _ rfl _ _ rfl _ _ (fun w hSw => hSw.2.2) Try.underlying29 rfl HSC.out) (by assumption) ?_
  try simp only [Act.put, Array.getInternal_eq_getElem, List.getElem_toArray, List.getElem_cons_zero, List.getElem_cons_succ, List.setIfInBounds_toArray, List.set_cons_zero, List.set_cons_succ]
  refine wpAnyH_ready (rs := [15]) (by kernel_rfl) (by simp) ?_
  refine AllReadyH.cons rfl (fun K hK => ?_) AllReadyH.nil
  (rw [if_pos (by kernel_rfl)]; go_simp; go_at_call 11; refine (HAC.out _ K3.out).mono ?_; rintro e u4 ⟨rfl, k4⟩; have K4 := Lib.hid (Keeps.trans (S := fun _ => False) K3.out (k4 _)); clear k4)
  refine hK.out _ _ (HCL.out _ K4.out) (fun hHeld => ?_)
  clear hK K
  try simp only [Act.put, Array.getInternal_eq_getElem, List.getElem_toArray, List.getElem_cons_zero, List.getElem_cons_succ, List.setIfInBounds_toArray, List.set_cons_zero, List.set_cons_succ]
  refine wpAnyH_take (i := 16) (v := ?_) rfl (by kernel_rfl) (by kernel_rfl) (by kernel_rfl) (fun _ _ _ h => h) (Or.inl ⟨by kernel_rfl, ?_⟩) (by assumption) ?_
  rotate_left
  · (intro w hSw; (try dsimp only at hSw); go_simp) <;> (try (with_reducible rfl))
  try simp only [Act.put, Array.getInternal_eq_getElem, List.getElem_toArray, List.getElem_cons_zero, List.getElem_cons_succ, List.setIfInBounds_toArray, List.set_cons_zero, List.set_cons_succ]
  refine wpAnyH_take (i := 17) (v := ?_) rfl (by kernel_rfl) (by kernel_rfl) (by kernel_rfl) (fun _ _ _ h => h) (Or.inl ⟨by kernel_rfl, ?_⟩) (by assumption) ?_
  rotate_left
  · (intro w hSw; (try dsimp only at hSw); go_simp) <;> (try (with_reducible rfl))
  try simp only [Act.put, Array.getInternal_eq_getElem, List.getElem_toArray, List.getElem_cons_zero, List.getElem_cons_succ, List.setIfInBounds_toArray, List.set_cons_zero, List.set_cons_succ]
  refine wpAnyH_take (i := 18) (v := ?_) rfl (by kernel_rfl) (by kernel_rfl) (by kernel_rfl) (fun _ _ _ h => h) (Or.inl ⟨by kernel_rfl, ?_⟩) (by assumption) ?_
  rotate_left
  · (intro w hSw; (try dsimp only at hSw); go_simp) <;> (try (with_reducible rfl))
  try simp only [Act.put, Array.getInternal_eq_getElem, List.getElem_toArray, List.getElem_cons_zero, List.getElem_cons_succ, List.setIfInBounds_toArray, List.set_cons_zero, List.set_cons_succ]
  refine' wpAnyH_take (i := 19) (v := _) rfl (by kernel_rfl) (by kernel_rfl) (by kernel_rfl) (fun _ _ _ h => h) (yieldsIf_load_mid (by kernel_rfl) _ _ rfl _ _ rfl _ _ (fun w hSw => hSw.2.2) Try.underlying29 rfl HSC.out) (by assumption) ?_
  try simp only [Act.put, Array.getInternal_eq_getElem, List.getElem_toArray, List.getElem_cons_zero, List.getElem_cons_succ, List.setIfInBounds_toArray, List.set_cons_zero, List.set_cons_succ]
  refine' wpAnyH_take (i := 20) (v := _) rfl (by kernel_rfl) (by kernel_rfl) (by kernel_rfl) (fun _ _ _ h => h) (yieldsIf_load_mid (by kernel_rfl) _ _ rfl _ _ rfl _ _ (fun w hSw => hSw.1) Try.underlying29 rfl HSZ.out) (by assumption) ?_
  try simp only [Act.put, Array.getInternal_eq_getElem, List.getElem_toArray, List.getElem_cons_zero, List.getElem_cons_succ, List.setIfInBounds_toArray, List.set_cons_zero, List.set_cons_succ]
  refine wpAnyH_ready (rs := [21]) (by kernel_rfl) (by simp) ?_
  refine AllReadyH.cons rfl (fun K hK => ?_) AllReadyH.nil
  (rw [if_pos (by kernel_rfl)]; go_simp; go_at_call 11; refine (HCC.out _ K4.out).mono ?_; rintro e u5 ⟨rfl, k5⟩; have K5 := Lib.hid (Keeps.trans (S := fun _ => False) K4.out (k5 _)); clear k5)
  refine hK.out _ _ (HCL.out _ K5.out) (fun hHeld => ?_)
  clear hK K
  try simp only [Act.put, Array.getInternal_eq_getElem, List.getElem_toArray, List.getElem_cons_zero, List.getElem_cons_succ, List.setIfInBounds_toArray, List.set_cons_zero, List.set_cons_succ]
  refine wpAnyH_take (i := 22) (v := ?_) rfl (by kernel_rfl) (by kernel_rfl) (by kernel_rfl) (fun _ _ _ h => h) (Or.inl ⟨by kernel_rfl, ?_⟩) (by assumption) ?_
  rotate_left
  · (intro w hSw; (try dsimp only at hSw); go_simp) <;> (try (with_reducible rfl))
  try simp only [Act.put, Array.getInternal_eq_getElem, List.getElem_toArray, List.getElem_cons_zero, List.getElem_cons_succ, List.setIfInBounds_toArray, List.set_cons_zero, List.set_cons_succ]
  refine wpAnyH_take (i := 23) (v := ?_) rfl (by kernel_rfl) (by kernel_rfl) (by kernel_rfl) (fun _ _ _ h => h) (Or.inl ⟨by kernel_rfl, ?_⟩) (by assumption) ?_
  rotate_left
  · (intro w hSw; (try dsimp only at hSw); go_simp) <;> (try (with_reducible rfl))
  try simp only [Act.put, Array.getInternal_eq_getElem, List.getElem_toArray, List.getElem_cons_zero, List.getElem_cons_succ, List.setIfInBounds_toArray, List.set_cons_zero, List.set_cons_succ]
  refine wpAnyH_take (i := 24) (v := ?_) rfl (by kernel_rfl) (by kernel_rfl) (by kernel_rfl) (fun _ _ _ h => h) (Or.inl ⟨by kernel_rfl, ?_⟩) (by assumption) ?_
  rotate_left
  · (intro w hSw; (try dsimp only at hSw); go_simp) <;> (try (with_reducible rfl))
  try simp only [Act.put, Array.getInternal_eq_getElem, List.getElem_toArray, List.getElem_cons_zero, List.getElem_cons_succ, List.setIfInBounds_toArray, List.set_cons_zero, List.set_cons_succ]
  refine wpAnyH_ready (rs := [25]) (by kernel_rfl) (by simp) ?_
  refine AllReadyH.cons rfl (fun K hK => ?_) AllReadyH.nil
  (rw [if_pos (by kernel_rfl)]; go_simp; go_at_call 13; refine (works_ _).mono ?_; rintro e u6 ⟨rfl, k6⟩; have K6 := Lib.hid (Keeps.trans (S := fun _ => False) K5.out (k6 _)); clear k6)
  refine hK.out _ _ (HCL.out _ K6.out) (fun hHeld => ?_)
  clear hK K
  try simp only [Act.put, Array.getInternal_eq_getElem, List.getElem_toArray, List.getElem_cons_zero, List.getElem_cons_succ, List.setIfInBounds_toArray, List.set_cons_zero, List.set_cons_succ]
  refine wpAnyH_take (i := 26) (v := ?_) rfl (by kernel_rfl) (by kernel_rfl) (by kernel_rfl) (fun _ _ _ h => h) (Or.inl ⟨by kernel_rfl, ?_⟩) (by assumption) ?_
  rotate_left
  · (intro w hSw; (try dsimp only at hSw); go_simp) <;> (try (with_reducible rfl))
  try simp only [Act.put, Array.getInternal_eq_getElem, List.getElem_toArray, List.getElem_cons_zero, List.getElem_cons_succ, List.setIfInBounds_toArray, List.set_cons_zero, List.set_cons_succ]
  refine wpAnyH_take (i := 27) (v := ?_) rfl (by kernel_rfl) (by kernel_rfl) (by kernel_rfl) (fun _ _ _ h => h) (Or.inl ⟨by kernel_rfl, ?_⟩) (by assumption) ?_
  rotate_left
  · (intro w hSw; (try dsimp only at hSw); go_simp) <;> (try (with_reducible rfl))
  try simp only [Act.put, Array.getInternal_eq_getElem, List.getElem_toArray, List.getElem_cons_zero, List.getElem_cons_succ, List.setIfInBounds_toArray, List.set_cons_zero, List.set_cons_succ]
  refine wpAnyH_done ?_ ?_ _
  · kernel_rfl
  go_wp2_with fail
  try rw [Exit.noGoto_ret]
  go_ret
  exact ⟨rfl, fun S => (KW6.out S).trans (K6.out.mono (fun _ _ z => z.elim))⟩
set_option maxRecDepth 100000 in
set_option maxHeartbeats 4000000 in
theorem psl_1 (a b : Hd) (ha : a.Wf) (hb : b.Wf) (A A2 : Option Addr) (n n2 c c2 : Nat) (hl : a.dat.length = n) (hl2 : b.dat.length = n2) (hn : n ≤ 140737488351232) (hr : Rd w w.heap.size A (by_ a.dat)) (hr2 : Rd w w.heap.size A2 (by_ b.dat)) (f : Int) (hf1 : -9223372036854775808 ≤ f) (hf2 : f ≤ 9223372036854775807) (hq : Int.tmod (Int.tmod f 11 + 11) 11 = 1) :
    Calls Try.prog 3 #[hvv a (.slice A n c), hvv b (.slice A2 n2 c2), .int .i64 f] w fun e w' => e = .returned (.bool true) ∧ ∀ S, Keeps S w w' := by
  obtain ⟨w1, hw1, k1, bA, bB, s1⟩ := box2 w (hcs a (.slice A n c)) (hcs b (.slice A2 n2 c2)) 29 29
  obtain ⟨wz, hwz, kz, bz, sz⟩ := box1 w1 zhd 29
  dsimp only [zhd] at hwz
  obtain ⟨t2, b2, k2⟩ := p_store bz (cs := hcs a (.slice A n c)) (by rw [hcs_len ha]; rfl)
  obtain ⟨w2, hw2⟩ : ∃ w2, w2 = wz.setCells w1.heap.size 0 (hcs a (.slice A n c)) := ⟨_, rfl⟩
  rw [← hw2] at b2 k2
  have k12 : ∀ S, Keeps S w1 w2 := keeps_own kz k2 (Nat.le_refl _)
  obtain ⟨w3, hw3, k3, b3, s3⟩ := box1 w2 [] 5
  have s2 : w1.heap.size + 1 ≤ w2.heap.size := by have := k2.size; omega
  have y3 : By w2 w3 (.slice (some ⟨w2.heap.size, 0, none⟩) 0 0) [] := By.of_blk b3 rfl (Nat.le_refl _) (by omega) k3
  have r3 := rd_old hr (((k1 (fun _ => False)).trans (k12 _)).trans (k3 _))
  obtain ⟨r, hrm⟩ : ∃ r, Int.tmod f 11 = r := ⟨_, rfl⟩
  have hrb := tmod11 f
  rw [hrm] at hrb hq
  have r1 := hrb.1
  have r2 := hrb.2
  have x42 : w3.cell? ⟨w.heap.size, 42, none⟩ = some (.slice A n c) := (HF.of_blk ha (Blk.keeps bA ((k12 (fun _ => False)).trans (k3 _)) (fun z => z))).dat
  have HWA := Lib.hid ha
  have HWB := Lib.hid hb
  have HY3 := Lib.hid y3
  have HR3 := Lib.hid r3
  have HLL := Lib.hid (And.intro hl hl2)
  have HRR := Lib.hid (And.intro hr hr2)
  have HN := Lib.hid hn
  have HKK := Lib.hid (And.intro k1 (And.intro k12 k3))
  have HBA := Lib.hid bA
  have HBB := Lib.hid bB
  have HB2 := Lib.hid b2
  have HT2 := Lib.hid t2
  have HS := Lib.hid (And.intro s1 s2)
  have HSZ : Hid ((Try.prog.info? 29).map (·.size) = some (hcs a (.slice A n c)).length) := Lib.hid (hd_sz ha _)
  have HSO := Lib.hid (all_oneCell_toArray (hcs_one (h := a) (v := .slice A n c) rfl))
  have HW1 := Lib.hid hw1
  have HWZ := Lib.hid hwz
  have HW2 := Lib.hid hw2
  replace hw3 : w3 = w2.alloc (.cells #[] 5) := hw3
  rw [hw3] at x42
  have HW3 := Lib.hid hw3
  unfold hvv
  clear hw1 k1 bA bB s1 hwz kz bz sz t2 b2 k2 hw2 k12 hw3 k3 b3 s3 s2 y3 r3 hrb ha hb hl hl2 hr hr2
  generalize hCA : hcs a (.slice A n c) = CA at *
  generalize hCB : hcs b (.slice A2 n2 c2) = CB at *
  have HCA := Lib.hid hCA
  have HCB := Lib.hid hCB
  clear hCA hCB
  go_enter Try.func3, Try.ntmps3
  go_wp2_with (first
    | ((with_reducible show wpList _ _ _ (⟨some 8, _, _, _, _, _⟩ :: _) _ _); (try rw [← HW1.out]); refine wpList_load_mid rfl 29 _ rfl w.heap.size 0 rfl CA _ (Blk.range HBA.out) Try.underlying29 rfl HSZ.out ?_)
    | ((with_reducible show wpList _ _ _ (⟨none, .store _ (.tmp 7) _, _, _, _, _⟩ :: _) _ _); (try rw [← HWZ.out]); refine' wpList_store_mid rfl 29 _ _ rfl w1.heap.size 0 (CA).toArray ?hx rfl ?ht HSZ.out HSO.out ?_; (case hx => rfl); (case ht => exact HT2.out); rw [← HW2.out])
    | ((with_reducible show wpList _ _ _ (⟨some 12, _, _, _, _, _⟩ :: _) _ _); (try rw [← HW3.out]); refine By.wpList_append rfl _ _ rfl HY3.out rfl A n c _ a.dat rfl HLL.out.1 HR3.out (by have := HN.out; simp; omega) ?_; intro v4 w4 y4 k4; clear k4; have ya := y4; obtain ⟨A4, c4, rfl, r4⟩ := ya.rd; rw [List.nil_append] at ya r4 ⊢; rw [HLL.out.1] at ya ⊢; have h1 := HWA.out.s; have h2 := HWA.out.d; have g4 := Blk.keeps HB2.out (ya.keep (fun _ => False)) (fun z => z); rw [← HCA.out] at g4; have c42 : w4.cell? ⟨w1.heap.size, 42, none⟩ = some _ := h_cell g4 h1 h2 8 _ rfl; have f42 : w4.frozen? ⟨w1.heap.size, 42, none⟩ = false := g4.frozen 42; have g5 := st_dat g4 h1 h2 (.slice A4 n c4) a.dat; have p5 := keeps_put (G := w1.heap.size) (Keeps.refl _ w4) 42 (.slice A4 n c4); have cx : (w4.setCell ⟨w1.heap.size, 42, none⟩ (.slice A4 n c4)).cell? ⟨w1.heap.size, 17, none⟩ = some _ := c_dv6 g5 h1; have fx : (w4.setCell ⟨w1.heap.size, 42, none⟩ (.slice A4 n c4)).frozen? ⟨w1.heap.size, 17, none⟩ = false := g5.frozen 17; have g6 := st_dv6 g5 h1 (!a.dst.v6); have p6 := keeps_put p5 17 (.bool (!a.dst.v6))))
  --@E
  obtain ⟨w6, hw6⟩ : ∃ w6, w6 = (w4.setCell ⟨w1.heap.size, 42, none⟩ (.slice A4 n c4)).setCell ⟨w1.heap.size, 17, none⟩ (.bool (!a.dst.v6)) := ⟨_, rfl⟩
  rw [← hw6]
  rw [← hw6] at g6 p6
  have gC : Blk w6 w1.heap.size 29 (hcs (⟨a.src, ⟨!a.dst.v6, a.dst.B⟩, a.pr, a.sp, a.dp, a.ttl, a.cls, a.id, a.fl, a.seq, a.dat⟩ : Hd) (.slice A4 n c4)) := g6
  have hch : (⟨a.src, ⟨!a.dst.v6, a.dst.B⟩, a.pr, a.sp, a.dp, a.ttl, a.cls, a.id, a.fl, a.seq, a.dat⟩ : Hd).Wf := ⟨HWA.out.s, ⟨HWA.out.d.len, HWA.out.d.sm⟩, HWA.out.p, HWA.out.sl, HWA.out.dl, HWA.out.t, HWA.out.c, HWA.out.i, HWA.out.f, HWA.out.q, HWA.out.b⟩
  have hne : ¬ a = (⟨a.src, ⟨!a.dst.v6, a.dst.B⟩, a.pr, a.sp, a.dp, a.ttl, a.cls, a.id, a.fl, a.seq, a.dat⟩ : Hd) := fun e => by have := congrArg (fun h : Hd => h.dst.v6) e; dsimp only at this; revert this; cases a.dst.v6 <;> decide
  have hdl : (⟨a.src, ⟨!a.dst.v6, a.dst.B⟩, a.pr, a.sp, a.dp, a.ttl, a.cls, a.id, a.fl, a.seq, a.dat⟩ : Hd).dat.length = n := HLL.out.1
  have s1 := HS.out.1
  have s2 := HS.out.2
  have k16 : ∀ S, Keeps S w1 w6 := keeps_own (fun S => (HKK.out.2.1 S).trans (ya.keep S)) p6 (Nat.le_refl _)
  have kw6 : ∀ S, Keeps S w w6 := fun S => (HKK.out.1 S).trans (k16 S)
  have gA := Blk.keeps HBA.out (k16 (fun _ => False)) (fun z => z)
  have gB := Blk.keeps HBB.out (k16 (fun _ => False)) (fun z => z)
  have rC : Rd w6 w6.heap.size A4 (by_ (⟨a.src, ⟨!a.dst.v6, a.dst.B⟩, a.pr, a.sp, a.dp, a.ttl, a.cls, a.id, a.fl, a.seq, a.dat⟩ : Hd).dat) := (by obtain ⟨A9, c9, h9, r9⟩ := (past_ (By.base (w := w1) ya HKK.out.2.1) p6 (Nat.le_refl _) (ya.apart (by omega))).rd; injection h9 with e1 _ _; subst e1; exact r9)
  have KW6 := Lib.hid kw6
  have HCL : Hid (∀ wq, Keeps (fun _ => False) w6 wq → wq.rangeAt w.heap.size 0 CA ∧ wq.rangeAt (w.heap.size + 1) 0 CB ∧ wq.rangeAt w1.heap.size 0 (hcs (⟨a.src, ⟨!a.dst.v6, a.dst.B⟩, a.pr, a.sp, a.dp, a.ttl, a.cls, a.id, a.fl, a.seq, a.dat⟩ : Hd) (.slice A4 n c4))) := Lib.hid (fun wq kq => ⟨Blk.range (Blk.keeps gA kq (fun z => z)), Blk.range (Blk.keeps gB kq (fun z => z)), Blk.range (Blk.keeps gC kq (fun z => z))⟩)
  have ra : ∀ u, Keeps (fun _ => False) w6 u → Rd u u.heap.size A (by_ a.dat) := fun u hu => (rd_old HRR.out.1 ((kw6 _).trans hu)).more ((kw6 (fun _ => False)).trans hu).size
  have rb : ∀ u, Keeps (fun _ => False) w6 u → Rd u u.heap.size A2 (by_ b.dat) := fun u hu => (rd_old HRR.out.2 ((kw6 _).trans hu)).more ((kw6 (fun _ => False)).trans hu).size
  have rc : ∀ u, Keeps (fun _ => False) w6 u → Rd u u.heap.size A4 (by_ (⟨a.src, ⟨!a.dst.v6, a.dst.B⟩, a.pr, a.sp, a.dp, a.ttl, a.cls, a.id, a.fl, a.seq, a.dat⟩ : Hd).dat) := fun u hu => (rd_old rC hu).more hu.size
  have HAB : Hid (∀ u, Keeps (fun _ => False) w6 u → Calls Try.prog 11 #[.agg CA.toArray, .agg CB.toArray] u fun e w' => e = .returned (.bool (sameH a b)) ∧ ∀ S, Keeps S u w') := Lib.hid (fun u hu => by rw [← HCA.out, ← HCB.out]; exact psame2_ u a b HWA.out HWB.out A A2 n n2 c c2 HLL.out.1 HLL.out.2 (ra u hu) (rb u hu))
  have HRB : Hid (∀ u, Keeps (fun _ => False) w6 u → Calls Try.prog 12 #[.agg CA.toArray, .agg CB.toArray] u fun e w' => e = .returned (.bool (sameH a b)) ∧ ∀ S, Keeps S u w') := Lib.hid (fun u hu => by rw [← HCA.out, ← HCB.out]; exact rsame_ u a b HWA.out HWB.out A A2 n n2 c c2 HLL.out.1 HLL.out.2 (by have := HN.out; omega) (ra u hu) (rb u hu))
  have HAA : Hid (∀ u, Keeps (fun _ => False) w6 u → Calls Try.prog 11 #[.agg CA.toArray, .agg CA.toArray] u fun e w' => e = .returned (.bool true) ∧ ∀ S, Keeps S u w') := Lib.hid (fun u hu => by rw [← HCA.out]; have := psame2_ u a a HWA.out HWA.out A A n n c c HLL.out.1 HLL.out.1 (ra u hu) (ra u hu); rw [same_yes rfl] at this; exact this)
  have HAC : Hid (∀ u, Keeps (fun _ => False) w6 u → Calls Try.prog 11 #[.agg CA.toArray, .agg (hcs (⟨a.src, ⟨!a.dst.v6, a.dst.B⟩, a.pr, a.sp, a.dp, a.ttl, a.cls, a.id, a.fl, a.seq, a.dat⟩ : Hd) (.slice A4 n c4)).toArray] u fun e w' => e = .returned (.bool false) ∧ ∀ S, Keeps S u w') := Lib.hid (fun u hu => by rw [← HCA.out]; have := psame2_ u a (⟨a.src, ⟨!a.dst.v6, a.dst.B⟩, a.pr, a.sp, a.dp, a.ttl, a.cls, a.id, a.fl, a.seq, a.dat⟩ : Hd) HWA.out hch A A4 n n c c4 HLL.out.1 hdl (ra u hu) (rc u hu); rw [same_no hne] at this; exact this)
  have HCC : Hid (∀ u, Keeps (fun _ => False) w6 u → Calls Try.prog 11 #[.agg (hcs (⟨a.src, ⟨!a.dst.v6, a.dst.B⟩, a.pr, a.sp, a.dp, a.ttl, a.cls, a.id, a.fl, a.seq, a.dat⟩ : Hd) (.slice A4 n c4)).toArray, .agg CA.toArray] u fun e w' => e = .returned (.bool false) ∧ ∀ S, Keeps S u w') := Lib.hid (fun u hu => by rw [← HCA.out]; have := psame2_ u (⟨a.src, ⟨!a.dst.v6, a.dst.B⟩, a.pr, a.sp, a.dp, a.ttl, a.cls, a.id, a.fl, a.seq, a.dat⟩ : Hd) a hch HWA.out A4 A n n c4 c hdl HLL.out.1 (rc u hu) (ra u hu); rw [same_no (fun e => hne e.symm)] at this; exact this)
  have HSC : Hid ((Try.prog.info? 29).map (·.size) = some (hcs (⟨a.src, ⟨!a.dst.v6, a.dst.B⟩, a.pr, a.sp, a.dp, a.ttl, a.cls, a.id, a.fl, a.seq, a.dat⟩ : Hd) (.slice A4 n c4)).length) := Lib.hid (hd_sz hch _)
  have HSB : Hid ((Try.prog.info? 29).map (·.size) = some CB.length) := Lib.hid (by rw [← HCB.out]; exact hd_sz HWB.out _)
  clear hw6 g6 p6 gC hch hne hdl s1 s2 k16 kw6 gA gB rC ra rb rc ya r4 h1 h2 g4 c42 f42 g5 p5 cx fx
  generalize hcs (⟨a.src, ⟨!a.dst.v6, a.dst.B⟩, a.pr, a.sp, a.dp, a.ttl, a.cls, a.id, a.fl, a.seq, a.dat⟩ : Hd) (.slice A4 n c4) = CC at *
  obtain ⟨z, hz⟩ : ∃ z, z = sameH a b := ⟨_, rfl⟩
  rw [← hz] at HAB HRB
  clear hz
  have hzz : (z == z) = true := beq_self_eq_true z
  go_wp2_with fail
  --@25
  refine wp_region_held_drew (S := fun w' => w'.rangeAt w.heap.size 0 CA ∧ w'.rangeAt (w.heap.size + 1) 0 CB ∧ w'.rangeAt w1.heap.size 0 CC) (by kernel_rfl) (HCL.out _ ((Keeps.refl _ w6).drew)) (fun hHeld => ?_)
  refine' wpAnyH_take (i := 0) (v := _) rfl (by kernel_rfl) (by kernel_rfl) (by kernel_rfl) (fun _ _ _ h => h) (yieldsIf_load_mid (by kernel_rfl) _ _ rfl _ _ rfl _ _ (fun w hSw => hSw.1) Try.underlying29 rfl HSZ.out) (by assumption) ?_
  try simp only [Act.put, Array.getInternal_eq_getElem, List.getElem_toArray, List.getElem_cons_zero, List.getElem_cons_succ, List.setIfInBounds_toArray, List.set_cons_zero, List.set_cons_succ]
  refine' wpAnyH_take (i := 1) (v := _) rfl (by kernel_rfl) (by kernel_rfl) (by kernel_rfl) (fun _ _ _ h => h) (yieldsIf_load_mid (by kernel_rfl) _ _ rfl _ _ rfl _ _ (fun w hSw => hSw.2.1) Try.underlying29 rfl HSB.out) (by assumption) ?_
  try simp only [Act.put, Array.getInternal_eq_getElem, List.getElem_toArray, List.getElem_cons_zero, List.getElem_cons_succ, List.setIfInBounds_toArray, List.set_cons_zero, List.set_cons_succ]
  refine' wpAnyH_take (i := 3) (v := _) rfl (by kernel_rfl) (by kernel_rfl) (by kernel_rfl) (fun _ _ _ h => h) (yieldsIf_load_mid (by kernel_rfl) _ _ rfl _ _ rfl _ _ (fun w hSw => hSw.1) Try.underlying29 rfl HSZ.out) (by assumption) ?_
  try simp only [Act.put, Array.getInternal_eq_getElem, List.getElem_toArray, List.getElem_cons_zero, List.getElem_cons_succ, List.setIfInBounds_toArray, List.set_cons_zero, List.set_cons_succ]
  refine' wpAnyH_take (i := 4) (v := _) rfl (by kernel_rfl) (by kernel_rfl) (by kernel_rfl) (fun _ _ _ h => h) (yieldsIf_load_mid (by kernel_rfl) _ _ rfl _ _ rfl _ _ (fun w hSw => hSw.2.1) Try.underlying29 rfl HSB.out) (by assumption) ?_
  try simp only [Act.put, Array.getInternal_eq_getElem, List.getElem_toArray, List.getElem_cons_zero, List.getElem_cons_succ, List.setIfInBounds_toArray, List.set_cons_zero, List.set_cons_succ]
  refine wpAnyH_ready (rs := [2]) (by kernel_rfl) (by simp) ?_
  refine AllReadyH.cons rfl (fun K hK => ?_) AllReadyH.nil
  (rw [if_pos (by kernel_rfl)]; go_simp; go_at_call 11; refine (HAB.out _ ((Keeps.refl _ w6).drew)).mono ?_; rintro e u1 ⟨rfl, k1⟩; have K1 := Lib.hid (Keeps.trans (S := fun _ => False) ((Keeps.refl _ w6).drew) (k1 _)); clear k1)
  refine hK.out _ _ (HCL.out _ K1.out) (fun hHeld => ?_)
  clear hK K
  try simp only [Act.put, Array.getInternal_eq_getElem, List.getElem_toArray, List.getElem_cons_zero, List.getElem_cons_succ, List.setIfInBounds_toArray, List.set_cons_zero, List.set_cons_succ]
  refine wpAnyH_ready (rs := [5]) (by kernel_rfl) (by simp) ?_
  refine AllReadyH.cons rfl (fun K hK => ?_) AllReadyH.nil
  (rw [if_pos (by kernel_rfl)]; go_simp; go_at_call 12; refine (HRB.out _ K1.out).mono ?_; rintro e u2 ⟨rfl, k2⟩; have K2 := Lib.hid (Keeps.trans (S := fun _ => False) K1.out (k2 _)); clear k2)
  refine hK.out _ _ (HCL.out _ K2.out) (fun hHeld => ?_)
  clear hK K
  try simp only [Act.put, Array.getInternal_eq_getElem, List.getElem_toArray, List.getElem_cons_zero, List.getElem_cons_succ, List.setIfInBounds_toArray, List.set_cons_zero, List.set_cons_succ]
  refine wpAnyH_take (i := 6) (v := ?_) rfl (by kernel_rfl) (by kernel_rfl) (by kernel_rfl) (fun _ _ _ h => h) (Or.inl ⟨by kernel_rfl, ?_⟩) (by assumption) ?_
  rotate_left
  · (intro w hSw; (try dsimp only at hSw); go_simp) <;> (try (with_reducible rfl))
  try simp only [Act.put, Array.getInternal_eq_getElem, List.getElem_toArray, List.getElem_cons_zero, List.getElem_cons_succ, List.setIfInBounds_toArray, List.set_cons_zero, List.set_cons_succ]
  refine wpAnyH_take (i := 7) (v := ?_) rfl (by kernel_rfl) (by kernel_rfl) (by kernel_rfl) (fun _ _ _ h => h) (Or.inl ⟨by kernel_rfl, ?_⟩) (by assumption) ?_
  rotate_left
  · (intro w hSw; (try dsimp only at hSw); go_simp) <;> (try (with_reducible rfl))
  try simp only [Act.put, Array.getInternal_eq_getElem, List.getElem_toArray, List.getElem_cons_zero, List.getElem_cons_succ, List.setIfInBounds_toArray, List.set_cons_zero, List.set_cons_succ]
  refine' wpAnyH_take (i := 8) (v := _) rfl (by kernel_rfl) (by kernel_rfl) (by kernel_rfl) (fun _ _ _ h => h) (yieldsIf_load_mid (by kernel_rfl) _ _ rfl _ _ rfl _ _ (fun w hSw => hSw.1) Try.underlying29 rfl HSZ.out) (by assumption) ?_
  try simp only [Act.put, Array.getInternal_eq_getElem, List.getElem_toArray, List.getElem_cons_zero, List.getElem_cons_succ, List.setIfInBounds_toArray, List.set_cons_zero, List.set_cons_succ]
  refine' wpAnyH_take (i := 9) (v := _) rfl (by kernel_rfl) (by kernel_rfl) (by kernel_rfl) (fun _ _ _ h => h) (yieldsIf_load_mid (by kernel_rfl) _ _ rfl _ _ rfl _ _ (fun w hSw => hSw.1) Try.underlying29 rfl HSZ.out) (by assumption) ?_
  try simp only [Act.put, Array.getInternal_eq_getElem, List.getElem_toArray, List.getElem_cons_zero, List.getElem_cons_succ, List.setIfInBounds_toArray, List.set_cons_zero, List.set_cons_succ]
  refine wpAnyH_ready (rs := [10]) (by kernel_rfl) (by simp) ?_
  refine AllReadyH.cons rfl (fun K hK => ?_) AllReadyH.nil
  (rw [if_pos (by kernel_rfl)]; go_simp; go_at_call 11; refine (HAA.out _ K2.out).mono ?_; rintro e u3 ⟨rfl, k3⟩; have K3 := Lib.hid (Keeps.trans (S := fun _ => False) K2.out (k3 _)); clear k3)
  refine hK.out _ _ (HCL.out _ K3.out) (fun hHeld => ?_)
  clear hK K
  try simp only [Act.put, Array.getInternal_eq_getElem, List.getElem_toArray, List.getElem_cons_zero, List.getElem_cons_succ, List.setIfInBounds_toArray, List.set_cons_zero, List.set_cons_succ]
  refine wpAnyH_take (i := 11) (v := ?_) rfl (by kernel_rfl) (by kernel_rfl) (by kernel_rfl) (fun _ _ _ h => h) (Or.inl ⟨by kernel_rfl, ?_⟩) (by assumption) ?_
  rotate_left
  · (intro w hSw; (try dsimp only at hSw); go_simp) <;> (try (with_reducible rfl))
  try simp only [Act.put, Array.getInternal_eq_getElem, List.getElem_toArray, List.getElem_cons_zero, List.getElem_cons_succ, List.setIfInBounds_toArray, List.set_cons_zero, List.set_cons_succ]
  refine wpAnyH_take (i := 12) (v := ?_) rfl (by kernel_rfl) (by kernel_rfl) (by kernel_rfl) (fun _ _ _ h => h) (Or.inl ⟨by kernel_rfl, ?_⟩) (by assumption) ?_
  rotate_left
  · (intro w hSw; (try dsimp only at hSw); go_simp) <;> (try (with_reducible rfl))
  try simp only [Act.put, Array.getInternal_eq_getElem, List.getElem_toArray, List.getElem_cons_zero, List.getElem_cons_succ, List.setIfInBounds_toArray, List.set_cons_zero, List.set_cons_succ]
  refine' wpAnyH_take (i := 13) (v := _) rfl (by kernel_rfl) (by kernel_rfl) (by kernel_rfl) (fun _ _ _ h => h) (yieldsIf_load_mid (by kernel_rfl) _ _ rfl _ _ rfl _ _ (fun w hSw => hSw.1) Try.underlying29 rfl HSZ.out) (by assumption) ?_
  try simp only [Act.put, Array.getInternal_eq_getElem, List.getElem_toArray, List.getElem_cons_zero, List.getElem_cons_succ, List.setIfInBounds_toArray, List.set_cons_zero, List.set_cons_succ]
  refine' wpAnyH_take (i := 14) (v := _) rfl (by kernel_rfl) (by kernel_rfl) (by kernel_rfl) (fun _ _ _ h => h) (yieldsIf_load_mid (by kernel_rfl) _ _ rfl _ _ rfl _ _ (fun w hSw => hSw.2.2) Try.underlying29 rfl HSC.out) (by assumption) ?_
  try simp only [Act.put, Array.getInternal_eq_getElem, List.getElem_toArray, List.getElem_cons_zero, List.getElem_cons_succ, List.setIfInBounds_toArray, List.set_cons_zero, List.set_cons_succ]
  refine wpAnyH_ready (rs := [15]) (by kernel_rfl) (by simp) ?_
  refine AllReadyH.cons rfl (fun K hK => ?_) AllReadyH.nil
  (rw [if_pos (by kernel_rfl)]; go_simp; go_at_call 11; refine (HAC.out _ K3.out).mono ?_; rintro e u4 ⟨rfl, k4⟩; have K4 := Lib.hid (Keeps.trans (S := fun _ => False) K3.out (k4 _)); clear k4)
  refine hK.out _ _ (HCL.out _ K4.out) (fun hHeld => ?_)
  clear hK K
  try simp only [Act.put, Array.getInternal_eq_getElem, List.getElem_toArray, List.getElem_cons_zero, List.getElem_cons_succ, List.setIfInBounds_toArray, List.set_cons_zero, List.set_cons_succ]
  refine wpAnyH_take (i := 16) (v := ?_) rfl (by kernel_rfl) (by kernel_rfl) (by kernel_rfl) (fun _ _ _ h => h) (Or.inl ⟨by kernel_rfl, ?_⟩) (by assumption) ?_
  rotate_left
  · (intro w hSw; (try dsimp only at hSw); go_simp) <;> (try (with_reducible rfl))
  try simp only [Act.put, Array.getInternal_eq_getElem, List.getElem_toArray, List.getElem_cons_zero, List.getElem_cons_succ, List.setIfInBounds_toArray, List.set_cons_zero, List.set_cons_succ]
  refine wpAnyH_take (i := 17) (v := ?_) rfl (by kernel_rfl) (by kernel_rfl) (by kernel_rfl) (fun _ _ _ h => h) (Or.inl ⟨by kernel_rfl, ?_⟩) (by assumption) ?_
  rotate_left
  · (intro w hSw; (try dsimp only at hSw); go_simp) <;> (try (with_reducible rfl))
  try simp only [Act.put, Array.getInternal_eq_getElem, List.getElem_toArray, List.getElem_cons_zero, List.getElem_cons_succ, List.setIfInBounds_toArray, List.set_cons_zero, List.set_cons_succ]
  refine wpAnyH_take (i := 18) (v := ?_) rfl (by kernel_rfl) (by kernel_rfl) (by kernel_rfl) (fun _ _ _ h => h) (Or.inl ⟨by kernel_rfl, ?_⟩) (by assumption) ?_
  rotate_left
  · (intro w hSw; (try dsimp only at hSw); go_simp) <;> (try (with_reducible rfl))
  try simp only [Act.put, Array.getInternal_eq_getElem, List.getElem_toArray, List.getElem_cons_zero, List.getElem_cons_succ, List.setIfInBounds_toArray, List.set_cons_zero, List.set_cons_succ]
  refine' wpAnyH_take (i := 19) (v := _) rfl (by kernel_rfl) (by kernel_rfl) (by kernel_rfl) (fun _ _ _ h => h) (yieldsIf_load_mid (by kernel_rfl) _ _ rfl _ _ rfl _ _ (fun w hSw => hSw.2.2) Try.underlying29 rfl HSC.out) (by assumption) ?_
  try simp only [Act.put, Array.getInternal_eq_getElem, List.getElem_toArray, List.getElem_cons_zero, List.getElem_cons_succ, List.setIfInBounds_toArray, List.set_cons_zero, List.set_cons_succ]
  refine' wpAnyH_take (i := 20) (v := _) rfl (by kernel_rfl) (by kernel_rfl) (by kernel_rfl) (fun _ _ _ h => h) (yieldsIf_load_mid (by kernel_rfl) _ _ rfl _ _ rfl _ _ (fun w hSw => hSw.1) Try.underlying29 rfl HSZ.out) (by assumption) ?_
  try simp only [Act.put, Array.getInternal_eq_getElem, List.getElem_toArray, List.getElem_cons_zero, List.getElem_cons_succ, List.setIfInBounds_toArray, List.set_cons_zero, List.set_cons_succ]
  refine wpAnyH_ready (rs := [21]) (by kernel_rfl) (by simp) ?_
  refine AllReadyH.cons rfl (fun K hK => ?_) AllReadyH.nil
  (rw [if_pos (by kernel_rfl)]; go_simp; go_at_call 11; refine (HCC.out _ K4.out).mono ?_; rintro e u5 ⟨rfl, k5⟩; have K5 := Lib.hid (Keeps.trans (S := fun _ => False) K4.out (k5 _)); clear k5)
  refine hK.out _ _ (HCL.out _ K5.out) (fun hHeld => ?_)
  clear hK K
  try simp only [Act.put, Array.getInternal_eq_getElem, List.getElem_toArray, List.getElem_cons_zero, List.getElem_cons_succ, List.setIfInBounds_toArray, List.set_cons_zero, List.set_cons_succ]
  refine wpAnyH_take (i := 22) (v := ?_) rfl (by kernel_rfl) (by kernel_rfl) (by kernel_rfl) (fun _ _ _ h => h) (Or.inl ⟨by kernel_rfl, ?_⟩) (by assumption) ?_
  rotate_left
  · (intro w hSw; (try dsimp only at hSw); go_simp) <;> (try (with_reducible rfl))
  try simp only [Act.put, Array.getInternal_eq_getElem, List.getElem_toArray, List.getElem_cons_zero, List.getElem_cons_succ, List.setIfInBounds_toArray, List.set_cons_zero, List.set_cons_succ]
  refine wpAnyH_take (i := 23) (v := ?_) rfl (by kernel_rfl) (by kernel_rfl) (by kernel_rfl) (fun _ _ _ h => h) (Or.inl ⟨by kernel_rfl, ?_⟩) (by assumption) ?_
  rotate_left
  · (intro w hSw; (try dsimp only at hSw); go_simp) <;> (try (with_reducible rfl))
  try simp only [Act.put, Array.getInternal_eq_getElem, List.getElem_toArray, List.getElem_cons_zero, List.getElem_cons_succ, List.setIfInBounds_toArray, List.set_cons_zero, List.set_cons_succ]
  refine wpAnyH_take (i := 24) (v := ?_) rfl (by kernel_rfl) (by kernel_rfl) (by kernel_rfl) (fun _ _ _ h => h) (Or.inl ⟨by kernel_rfl, ?_⟩) (by assumption) ?_
  rotate_left
  · (intro w hSw; (try dsimp only at hSw); go_simp) <;> (try (with_reducible rfl))
  try simp only [Act.put, Array.getInternal_eq_getElem, List.getElem_toArray, List.getElem_cons_zero, List.getElem_cons_succ, List.setIfInBounds_toArray, List.set_cons_zero, List.set_cons_succ]
  refine wpAnyH_ready (rs := [25]) (by kernel_rfl) (by simp) ?_
  refine AllReadyH.cons rfl (fun K hK => ?_) AllReadyH.nil
  (rw [if_pos (by kernel_rfl)]; go_simp; go_at_call 13; refine (works_ _).mono ?_; rintro e u6 ⟨rfl, k6⟩; have K6 := Lib.hid (Keeps.trans (S := fun _ => False) K5.out (k6 _)); clear k6)
  refine hK.out _ _ (HCL.out _ K6.out) (fun hHeld => ?_)
  clear hK K
  try simp only [Act.put, Array.getInternal_eq_getElem, List.getElem_toArray, List.getElem_cons_zero, List.getElem_cons_succ, List.setIfInBounds_toArray, List.set_cons_zero, List.set_cons_succ]
  refine wpAnyH_take (i := 26) (v := ?_) rfl (by kernel_rfl) (by kernel_rfl) (by kernel_rfl) (fun _ _ _ h => h) (Or.inl ⟨by kernel_rfl, ?_⟩) (by assumption) ?_
  rotate_left
  · (intro w hSw; (try dsimp only at hSw); go_simp) <;> (try (with_reducible rfl))
  try simp only [Act.put, Array.getInternal_eq_getElem, List.getElem_toArray, List.getElem_cons_zero, List.getElem_cons_succ, List.setIfInBounds_toArray, List.set_cons_zero, List.set_cons_succ]
  refine wpAnyH_take (i := 27) (v := ?_) rfl (by kernel_rfl) (by kernel_rfl) (by kernel_rfl) (fun _ _ _ h => h) (Or.inl ⟨by kernel_rfl, ?_⟩) (by assumption) ?_
  rotate_left
  · (intro w hSw; (try dsimp only at hSw); go_simp) <;> (try (with_reducible rfl))
  try simp only [Act.put, Array.getInternal_eq_getElem, List.getElem_toArray, List.getElem_cons_zero, List.getElem_cons_succ, List.setIfInBounds_toArray, List.set_cons_zero, List.set_cons_succ]
  refine wpAnyH_done ?_ ?_ _
  · kernel_rfl
  go_wp2_with fail
  try rw [Exit.noGoto_ret]
  go_ret
  exact ⟨rfl, fun S => (KW6.out S).trans (K6.out.mono (fun _ _ z => z.elim))⟩
set_option maxRecDepth 100000 in
set_option maxHeartbeats 4000000 in
theorem psl_2 (a b : Hd) (ha : a.Wf) (hb : b.Wf) (A A2 : Option Addr) (n n2 c c2 : Nat) (hl : a.dat.length = n) (hl2 : b.dat.length = n2) (hn : n ≤ 140737488351232) (hr : Rd w w.heap.size A (by_ a.dat)) (hr2 : Rd w w.heap.size A2 (by_ b.dat)) (f : Int) (hf1 : -9223372036854775808 ≤ f) (hf2 : f ≤ 9223372036854775807) (hq : Int.tmod (Int.tmod f 11 + 11) 11 = 2) :
    Calls Try.prog 3 #[hvv a (.slice A n c), hvv b (.slice A2 n2 c2), .int .i64 f] w fun e w' => e = .returned (.bool true) ∧ ∀ S, Keeps S w w' := by
  obtain ⟨w1, hw1, k1, bA, bB, s1⟩ := box2 w (hcs a (.slice A n c)) (hcs b (.slice A2 n2 c2)) 29 29
  obtain ⟨wz, hwz, kz, bz, sz⟩ := box1 w1 zhd 29
  dsimp only [zhd] at hwz
  obtain ⟨t2, b2, k2⟩ := p_store bz (cs := hcs a (.slice A n c)) (by rw [hcs_len ha]; rfl)
  obtain ⟨w2, hw2⟩ : ∃ w2, w2 = wz.setCells w1.heap.size 0 (hcs a (.slice A n c)) := ⟨_, rfl⟩
  rw [← hw2] at b2 k2
  have k12 : ∀ S, Keeps S w1 w2 := keeps_own kz k2 (Nat.le_refl _)
  obtain ⟨w3, hw3, k3, b3, s3⟩ := box1 w2 [] 5
  have s2 : w1.heap.size + 1 ≤ w2.heap.size := by have := k2.size; omega
  have y3 : By w2 w3 (.slice (some ⟨w2.heap.size, 0, none⟩) 0 0) [] := By.of_blk b3 rfl (Nat.le_refl _) (by omega) k3
  have r3 := rd_old hr (((k1 (fun _ => False)).trans (k12 _)).trans (k3 _))
  obtain ⟨r, hrm⟩ : ∃ r, Int.tmod f 11 = r := ⟨_, rfl⟩
  have hrb := tmod11 f
  rw [hrm] at hrb hq
  have r1 := hrb.1
  have r2 := hrb.2
  have x42 : w3.cell? ⟨w.heap.size, 42, none⟩ = some (.slice A n c) := (HF.of_blk ha (Blk.keeps bA ((k12 (fun _ => False)).trans (k3 _)) (fun z => z))).dat
  have HWA := Lib.hid ha
  have HWB := Lib.hid hb
  have HY3 := Lib.hid y3
  have HR3 := Lib.hid r3
  have HLL := Lib.hid (And.intro hl hl2)
  have HRR := Lib.hid (And.intro hr hr2)
  have HN := Lib.hid hn
  have HKK := Lib.hid (And.intro k1 (And.intro k12 k3))
  have HBA := Lib.hid bA
  have HBB := Lib.hid bB
  have HB2 := Lib.hid b2
  have HT2 := Lib.hid t2
  have HS := Lib.hid (And.intro s1 s2)
  have HSZ : Hid ((Try.prog.info? 29).map (·.size) = some (hcs a (.slice A n c)).length) := Lib.hid (hd_sz ha _)
  have HSO := Lib.hid (all_oneCell_toArray (hcs_one (h := a) (v := .slice A n c) rfl))
  have HW1 := Lib.hid hw1
  have HWZ := Lib.hid hwz
  have HW2 := Lib.hid hw2
  replace hw3 : w3 = w2.alloc (.cells #[] 5) := hw3
  rw [hw3] at x42
  have HW3 := Lib.hid hw3
  unfold hvv
  clear hw1 k1 bA bB s1 hwz kz bz sz t2 b2 k2 hw2 k12 hw3 k3 b3 s3 s2 y3 r3 hrb ha hb hl hl2 hr hr2
  generalize hCA : hcs a (.slice A n c) = CA at *
  generalize hCB : hcs b (.slice A2 n2 c2) = CB at *
  have HCA := Lib.hid hCA
  have HCB := Lib.hid hCB
  clear hCA hCB
  go_enter Try.func3, Try.ntmps3
  go_wp2_with (first
    | ((with_reducible show wpList _ _ _ (⟨some 8, _, _, _, _, _⟩ :: _) _ _); (try rw [← HW1.out]); refine wpList_load_mid rfl 29 _ rfl w.heap.size 0 rfl CA _ (Blk.range HBA.out) Try.underlying29 rfl HSZ.out ?_)
    | ((with_reducible show wpList _ _ _ (⟨none, .store _ (.tmp 7) _, _, _, _, _⟩ :: _) _ _); (try rw [← HWZ.out]); refine' wpList_store_mid rfl 29 _ _ rfl w1.heap.size 0 (CA).toArray ?hx rfl ?ht HSZ.out HSO.out ?_; (case hx => rfl); (case ht => exact HT2.out); rw [← HW2.out])
    | ((with_reducible show wpList _ _ _ (⟨some 12, _, _, _, _, _⟩ :: _) _ _); (try rw [← HW3.out]); refine By.wpList_append rfl _ _ rfl HY3.out rfl A n c _ a.dat rfl HLL.out.1 HR3.out (by have := HN.out; simp; omega) ?_; intro v4 w4 y4 k4; clear k4; have ya := y4; obtain ⟨A4, c4, rfl, r4⟩ := ya.rd; rw [List.nil_append] at ya r4 ⊢; rw [HLL.out.1] at ya ⊢; have h1 := HWA.out.s; have h2 := HWA.out.d; have g4 := Blk.keeps HB2.out (ya.keep (fun _ => False)) (fun z => z); rw [← HCA.out] at g4; have c42 : w4.cell? ⟨w1.heap.size, 42, none⟩ = some _ := h_cell g4 h1 h2 8 _ rfl; have f42 : w4.frozen? ⟨w1.heap.size, 42, none⟩ = false := g4.frozen 42; have g5 := st_dat g4 h1 h2 (.slice A4 n c4) a.dat; have p5 := keeps_put (G := w1.heap.size) (Keeps.refl _ w4) 42 (.slice A4 n c4); obtain ⟨x, hx⟩ : ∃ x, x = (a.pr + 1) % 256 := ⟨_, rfl⟩; have hxi : IntKind.u8.wrap ((a.pr : Int) + 1) = (x : Int) := (by rw [IntKind.wrap_u8]; omega); have hxi2 : ((a.pr : Int) + 1) % 256 = (x : Int) := (by omega); have HX := Lib.hid hx; clear hx; have cx : (w4.setCell ⟨w1.heap.size, 42, none⟩ (.slice A4 n c4)).cell? ⟨w1.heap.size, 34, none⟩ = some _ := h_cell g5 h1 h2 0 _ rfl; have fx : (w4.setCell ⟨w1.heap.size, 42, none⟩ (.slice A4 n c4)).frozen? ⟨w1.heap.size, 34, none⟩ = false := g5.frozen 34; have g6 := st_pr g5 h1 h2 x; have p6 := keeps_put p5 34 (.int .u8 (x : Int))))
  --@E
  obtain ⟨w6, hw6⟩ : ∃ w6, w6 = (w4.setCell ⟨w1.heap.size, 42, none⟩ (.slice A4 n c4)).setCell ⟨w1.heap.size, 34, none⟩ (.int .u8 (x : Int)) := ⟨_, rfl⟩
  rw [← hw6]
  rw [← hw6] at g6 p6
  have gC : Blk w6 w1.heap.size 29 (hcs (⟨a.src, a.dst, x, a.sp, a.dp, a.ttl, a.cls, a.id, a.fl, a.seq, a.dat⟩ : Hd) (.slice A4 n c4)) := g6
  have hch : (⟨a.src, a.dst, x, a.sp, a.dp, a.ttl, a.cls, a.id, a.fl, a.seq, a.dat⟩ : Hd).Wf := ⟨HWA.out.s, HWA.out.d, (by have := HX.out; show x < _; omega), HWA.out.sl, HWA.out.dl, HWA.out.t, HWA.out.c, HWA.out.i, HWA.out.f, HWA.out.q, HWA.out.b⟩
  have hne : ¬ a = (⟨a.src, a.dst, x, a.sp, a.dp, a.ttl, a.cls, a.id, a.fl, a.seq, a.dat⟩ : Hd) := fun e => by have h3 : a.pr = x := congrArg Hd.pr e; have := HX.out; have := HWA.out.p; omega
  have hdl : (⟨a.src, a.dst, x, a.sp, a.dp, a.ttl, a.cls, a.id, a.fl, a.seq, a.dat⟩ : Hd).dat.length = n := HLL.out.1
  have s1 := HS.out.1
  have s2 := HS.out.2
  have k16 : ∀ S, Keeps S w1 w6 := keeps_own (fun S => (HKK.out.2.1 S).trans (ya.keep S)) p6 (Nat.le_refl _)
  have kw6 : ∀ S, Keeps S w w6 := fun S => (HKK.out.1 S).trans (k16 S)
  have gA := Blk.keeps HBA.out (k16 (fun _ => False)) (fun z => z)
  have gB := Blk.keeps HBB.out (k16 (fun _ => False)) (fun z => z)
  have rC : Rd w6 w6.heap.size A4 (by_ (⟨a.src, a.dst, x, a.sp, a.dp, a.ttl, a.cls, a.id, a.fl, a.seq, a.dat⟩ : Hd).dat) := (by obtain ⟨A9, c9, h9, r9⟩ := (past_ (By.base (w := w1) ya HKK.out.2.1) p6 (Nat.le_refl _) (ya.apart (by omega))).rd; injection h9 with e1 _ _; subst e1; exact r9)
  have KW6 := Lib.hid kw6
  have HCL : Hid (∀ wq, Keeps (fun _ => False) w6 wq → wq.rangeAt w.heap.size 0 CA ∧ wq.rangeAt (w.heap.size + 1) 0 CB ∧ wq.rangeAt w1.heap.size 0 (hcs (⟨a.src, a.dst, x, a.sp, a.dp, a.ttl, a.cls, a.id, a.fl, a.seq, a.dat⟩ : Hd) (.slice A4 n c4))) := Lib.hid (fun wq kq => ⟨Blk.range (Blk.keeps gA kq (fun z => z)), Blk.range (Blk.keeps gB kq (fun z => z)), Blk.range (Blk.keeps gC kq (fun z => z))⟩)
  have ra : ∀ u, Keeps (fun _ => False) w6 u → Rd u u.heap.size A (by_ a.dat) := fun u hu => (rd_old HRR.out.1 ((kw6 _).trans hu)).more ((kw6 (fun _ => False)).trans hu).size
  have rb : ∀ u, Keeps (fun _ => False) w6 u → Rd u u.heap.size A2 (by_ b.dat) := fun u hu => (rd_old HRR.out.2 ((kw6 _).trans hu)).more ((kw6 (fun _ => False)).trans hu).size
  have rc : ∀ u, Keeps (fun _ => False) w6 u → Rd u u.heap.size A4 (by_ (⟨a.src, a.dst, x, a.sp, a.dp, a.ttl, a.cls, a.id, a.fl, a.seq, a.dat⟩ : Hd).dat) := fun u hu => (rd_old rC hu).more hu.size
  have HAB : Hid (∀ u, Keeps (fun _ => False) w6 u → Calls Try.prog 11 #[.agg CA.toArray, .agg CB.toArray] u fun e w' => e = .returned (.bool (sameH a b)) ∧ ∀ S, Keeps S u w') := Lib.hid (fun u hu => by rw [← HCA.out, ← HCB.out]; exact psame2_ u a b HWA.out HWB.out A A2 n n2 c c2 HLL.out.1 HLL.out.2 (ra u hu) (rb u hu))
  have HRB : Hid (∀ u, Keeps (fun _ => False) w6 u → Calls Try.prog 12 #[.agg CA.toArray, .agg CB.toArray] u fun e w' => e = .returned (.bool (sameH a b)) ∧ ∀ S, Keeps S u w') := Lib.hid (fun u hu => by rw [← HCA.out, ← HCB.out]; exact rsame_ u a b HWA.out HWB.out A A2 n n2 c c2 HLL.out.1 HLL.out.2 (by have := HN.out; omega) (ra u hu) (rb u hu))
  have HAA : Hid (∀ u, Keeps (fun _ => False) w6 u → Calls Try.prog 11 #[.agg CA.toArray, .agg CA.toArray] u fun e w' => e = .returned (.bool true) ∧ ∀ S, Keeps S u w') := Lib.hid (fun u hu => by rw [← HCA.out]; have := psame2_ u a a HWA.out HWA.out A A n n c c HLL.out.1 HLL.out.1 (ra u hu) (ra u hu); rw [same_yes rfl] at this; exact this)
  have HAC : Hid (∀ u, Keeps (fun _ => False) w6 u → Calls Try.prog 11 #[.agg CA.toArray, .agg (hcs (⟨a.src, a.dst, x, a.sp, a.dp, a.ttl, a.cls, a.id, a.fl, a.seq, a.dat⟩ : Hd) (.slice A4 n c4)).toArray] u fun e w' => e = .returned (.bool false) ∧ ∀ S, Keeps S u w') := Lib.hid (fun u hu => by rw [← HCA.out]; have := psame2_ u a (⟨a.src, a.dst, x, a.sp, a.dp, a.ttl, a.cls, a.id, a.fl, a.seq, a.dat⟩ : Hd) HWA.out hch A A4 n n c c4 HLL.out.1 hdl (ra u hu) (rc u hu); rw [same_no hne] at this; exact this)
  have HCC : Hid (∀ u, Keeps (fun _ => False) w6 u → Calls Try.prog 11 #[.agg (hcs (⟨a.src, a.dst, x, a.sp, a.dp, a.ttl, a.cls, a.id, a.fl, a.seq, a.dat⟩ : Hd) (.slice A4 n c4)).toArray, .agg CA.toArray] u fun e w' => e = .returned (.bool false) ∧ ∀ S, Keeps S u w') := Lib.hid (fun u hu => by rw [← HCA.out]; have := psame2_ u (⟨a.src, a.dst, x, a.sp, a.dp, a.ttl, a.cls, a.id, a.fl, a.seq, a.dat⟩ : Hd) a hch HWA.out A4 A n n c4 c hdl HLL.out.1 (rc u hu) (ra u hu); rw [same_no (fun e => hne e.symm)] at this; exact this)
  have HSC : Hid ((Try.prog.info? 29).map (·.size) = some (hcs (⟨a.src, a.dst, x, a.sp, a.dp, a.ttl, a.cls, a.id, a.fl, a.seq, a.dat⟩ : Hd) (.slice A4 n c4)).length) := Lib.hid (hd_sz hch _)
  have HSB : Hid ((Try.prog.info? 29).map (·.size) = some CB.length) := Lib.hid (by rw [← HCB.out]; exact hd_sz HWB.out _)
  clear hw6 g6 p6 gC hch hne hdl s1 s2 k16 kw6 gA gB rC ra rb rc ya r4 h1 h2 g4 c42 f42 g5 p5 cx fx hxi hxi2
  generalize hcs (⟨a.src, a.dst, x, a.sp, a.dp, a.ttl, a.cls, a.id, a.fl, a.seq, a.dat⟩ : Hd) (.slice A4 n c4) = CC at *
  obtain ⟨z, hz⟩ : ∃ z, z = sameH a b := ⟨_, rfl⟩
  rw [← hz] at HAB HRB
  clear hz
  have hzz : (z == z) = true := beq_self_eq_true z
  go_wp2_with fail
  --@25
  refine wp_region_held_drew (S := fun w' => w'.rangeAt w.heap.size 0 CA ∧ w'.rangeAt (w.heap.size + 1) 0 CB ∧ w'.rangeAt w1.heap.size 0 CC) (by kernel_rfl) (HCL.out _ ((Keeps.refl _ w6).drew)) (fun hHeld => ?_)
  refine' wpAnyH_take (i := 0) (v := _) rfl (by kernel_rfl) (by kernel_rfl) (by kernel_rfl) (fun _ _ _ h => h) (yieldsIf_load_mid (by kernel_rfl) _ _ rfl _ _ rfl _ _ (fun w hSw => hSw.1) Try.underlying29 rfl HSZ.out) (by assumption) ?_
  try simp only [Act.put, Array.getInternal_eq_getElem, List.getElem_toArray, List.getElem_cons_zero, List.getElem_cons_succ, List.setIfInBounds_toArray, List.set_cons_zero, List.set_cons_succ]
  refine' wpAnyH_take (i := 1) (v := _) rfl (by kernel_rfl) (by kernel_rfl) (by kernel_rfl) (fun _ _ _ h => h) (yieldsIf_load_mid (by kernel_rfl) _ _ rfl _ _ rfl _ _ (fun w hSw => hSw.2.1) Try.underlying29 rfl HSB.out) (by assumption) ?_
  try simp only [Act.put, Array.getInternal_eq_getElem, List.getElem_toArray, List.getElem_cons_zero, List.getElem_cons_succ, List.setIfInBounds_toArray, List.set_cons_zero, List.set_cons_succ]
  refine' wpAnyH_take (i := 3) (v := _) rfl (by kernel_rfl) (by kernel_rfl) (by kernel_rfl) (fun _ _ _ h => h) (yieldsIf_load_mid (by kernel_rfl) _ _ rfl _ _ rfl _ _ (fun w hSw => hSw.1) Try.underlying29 rfl HSZ.out) (by assumption) ?_
  try simp only [Act.put, Array.getInternal_eq_getElem, List.getElem_toArray, List.getElem_cons_zero, List.getElem_cons_succ, List.setIfInBounds_toArray, List.set_cons_zero, List.set_cons_succ]
  refine' wpAnyH_take (i := 4) (v := _) rfl (by kernel_rfl) (by kernel_rfl) (by kernel_rfl) (fun _ _ _ h => h) (yieldsIf_load_mid (by kernel_rfl) _ _ rfl _ _ rfl _ _ (fun w hSw => hSw.2.1) Try.underlying29 rfl HSB.out) (by assumption) ?_
  try simp only [Act.put, Array.getInternal_eq_getElem, List.getElem_toArray, List.getElem_cons_zero, List.getElem_cons_succ, List.setIfInBounds_toArray, List.set_cons_zero, List.set_cons_succ]
  refine wpAnyH_ready (rs := [2]) (by kernel_rfl) (by simp) ?_
  refine AllReadyH.cons rfl (fun K hK => ?_) AllReadyH.nil
  (rw [if_pos (by kernel_rfl)]; go_simp; go_at_call 11; refine (HAB.out _ ((Keeps.refl _ w6).drew)).mono ?_; rintro e u1 ⟨rfl, k1⟩; have K1 := Lib.hid (Keeps.trans (S := fun _ => False) ((Keeps.refl _ w6).drew) (k1 _)); clear k1)
  refine hK.out _ _ (HCL.out _ K1.out) (fun hHeld => ?_)
  clear hK K
  try simp only [Act.put, Array.getInternal_eq_getElem, List.getElem_toArray, List.getElem_cons_zero, List.getElem_cons_succ, List.setIfInBounds_toArray, List.set_cons_zero, List.set_cons_succ]
  refine wpAnyH_ready (rs := [5]) (by kernel_rfl) (by simp) ?_
  refine AllReadyH.cons rfl (fun K hK => ?_) AllReadyH.nil
  (rw [if_pos (by kernel_rfl)]; go_simp; go_at_call 12; refine (HRB.out _ K1.out).mono ?_; rintro e u2 ⟨rfl, k2⟩; have K2 := Lib.hid (Keeps.trans (S := fun _ => False) K1.out (k2 _)); clear k2)
  refine hK.out _ _ (HCL.out _ K2.out) (fun hHeld => ?_)
  clear hK K
  try simp only [Act.put, Array.getInternal_eq_getElem, List.getElem_toArray, List.getElem_cons_zero, List.getElem_cons_succ, List.setIfInBounds_toArray, List.set_cons_zero, List.set_cons_succ]
  refine wpAnyH_take (i := 6) (v := ?_) rfl (by kernel_rfl) (by kernel_rfl) (by kernel_rfl) (fun _ _ _ h => h) (Or.inl ⟨by kernel_rfl, ?_⟩) (by assumption) ?_
  rotate_left
  · (intro w hSw; (try dsimp only at hSw); go_simp) <;> (try (with_reducible rfl))
  try simp only [Act.put, Array.getInternal_eq_getElem, List.getElem_toArray, List.getElem_cons_zero, List.getElem_cons_succ, List.setIfInBounds_toArray, List.set_cons_zero, List.set_cons_succ]
  refine wpAnyH_take (i := 7) (v := ?_) rfl (by kernel_rfl) (by kernel_rfl) (by kernel_rfl) (fun _ _ _ h => h) (Or.inl ⟨by kernel_rfl, ?_⟩) (by assumption) ?_
  rotate_left
  · (intro w hSw; (try dsimp only at hSw); go_simp) <;> (try (with_reducible rfl))
  try simp only [Act.put, Array.getInternal_eq_getElem, List.getElem_toArray, List.getElem_cons_zero, List.getElem_cons_succ, List.setIfInBounds_toArray, List.set_cons_zero, List.set_cons_succ]
  refine' wpAnyH_take (i := 8) (v := _) rfl (by kernel_rfl) (by kernel_rfl) (by kernel_rfl) (fun _ _ _ h => h) (yieldsIf_load_mid (by kernel_rfl) _ _ rfl _ _ rfl _ _ (fun w hSw => hSw.1) Try.underlying29 rfl HSZ.out) (by assumption) ?_
  try simp only [Act.put, Array.getInternal_eq_getElem, List.getElem_toArray, List.getElem_cons_zero, List.getElem_cons_succ, List.setIfInBounds_toArray, List.set_cons_zero, List.set_cons_succ]
  refine' wpAnyH_take (i := 9) (v := _) rfl (by kernel_rfl) (by kernel_rfl) (by kernel_rfl) (fun _ _ _ h => h) (yieldsIf_load_mid (by kernel_rfl) _ _ rfl _ _ rfl _ _ (fun w hSw => hSw.1) Try.underlying29 rfl HSZ.out) (by assumption) ?_
  try simp only [Act.put, Array.getInternal_eq_getElem, List.getElem_toArray, List.getElem_cons_zero, List.getElem_cons_succ, List.setIfInBounds_toArray, List.set_cons_zero, List.set_cons_succ]
  refine wpAnyH_ready (rs := [10]) (by kernel_rfl) (by simp) ?_
  refine AllReadyH.cons rfl (fun K hK => ?_) AllReadyH.nil
  (rw [if_pos (by kernel_rfl)]; go_simp; go_at_call 11; refine (HAA.out _ K2.out).mono ?_; rintro e u3 ⟨rfl, k3⟩; have K3 := Lib.hid (Keeps.trans (S := fun _ => False) K2.out (k3 _)); clear k3)
  refine hK.out _ _ (HCL.out _ K3.out) (fun hHeld => ?_)
  clear hK K
  try simp only [Act.put, Array.getInternal_eq_getElem, List.getElem_toArray, List.getElem_cons_zero, List.getElem_cons_succ, List.setIfInBounds_toArray, List.set_cons_zero, List.set_cons_succ]
  refine wpAnyH_take (i := 11) (v := ?_) rfl (by kernel_rfl) (by kernel_rfl) (by kernel_rfl) (fun _ _ _ h => h) (Or.inl ⟨by kernel_rfl, ?_⟩) (by assumption) ?_
  rotate_left
  · (intro w hSw; (try dsimp only at hSw); go_simp) <;> (try (with_reducible rfl))
  try simp only [Act.put, Array.getInternal_eq_getElem, List.getElem_toArray, List.getElem_cons_zero, List.getElem_cons_succ, List.setIfInBounds_toArray, List.set_cons_zero, List.set_cons_succ]
  refine wpAnyH_take (i := 12) (v := ?_) rfl (by kernel_rfl) (by kernel_rfl) (by kernel_rfl) (fun _ _ _ h => h) (Or.inl ⟨by kernel_rfl, ?_⟩) (by assumption) ?_
  rotate_left
  · (intro w hSw; (try dsimp only at hSw); go_simp) <;> (try (with_reducible rfl))
  try simp only [Act.put, Array.getInternal_eq_getElem, List.getElem_toArray, List.getElem_cons_zero, List.getElem_cons_succ, List.setIfInBounds_toArray, List.set_cons_zero, List.set_cons_succ]
  refine' wpAnyH_take (i := 13) (v := _) rfl (by kernel_rfl) (by kernel_rfl) (by kernel_rfl) (fun _ _ _ h => h) (yieldsIf_load_mid (by kernel_rfl) _ _ rfl _ _ rfl _ _ (fun w hSw => hSw.1) Try.underlying29 rfl HSZ.out) (by assumption) ?_
  try simp only [Act.put, Array.getInternal_eq_getElem, List.getElem_toArray, List.getElem_cons_zero, List.getElem_cons_succ, List.setIfInBounds_toArray, List.set_cons_zero, List.set_cons_succ]
  refine' wpAnyH_take (i := 14) (v := _) rfl (by kernel_rfl) (by kernel_rfl) (by kernel_rfl) (fun _ _ _ h => h) (yieldsIf_load_mid (by kernel_rfl) _ _ rfl _ _ rfl _ _ (fun w hSw => hSw.2.2) Try.underlying29 rfl HSC.out) (by assumption) ?_
  try simp only [Act.put, Array.getInternal_eq_getElem, List.getElem_toArray, List.getElem_cons_zero, List.getElem_cons_succ, List.setIfInBounds_toArray, List.set_cons_zero, List.set_cons_succ]
  refine wpAnyH_ready (rs := [15]) (by kernel_rfl) (by simp) ?_
  refine AllReadyH.cons rfl (fun K hK => ?_) AllReadyH.nil
  (rw [if_pos (by kernel_rfl)]; go_simp; go_at_call 11; refine (HAC.out _ K3.out).mono ?_; rintro e u4 ⟨rfl, k4⟩; have K4 := Lib.hid (Keeps.trans (S := fun _ => False) K3.out (k4 _)); clear k4)
  refine hK.out _ _ (HCL.out _ K4.out) (fun hHeld => ?_)
  clear hK K
  try simp only [Act.put, Array.getInternal_eq_getElem, List.getElem_toArray, List.getElem_cons_zero, List.getElem_cons_succ, List.setIfInBounds_toArray, List.set_cons_zero, List.set_cons_succ]
  refine wpAnyH_take (i := 16) (v := ?_) rfl (by kernel_rfl) (by kernel_rfl) (by kernel_rfl) (fun _ _ _ h => h) (Or.inl ⟨by kernel_rfl, ?_⟩) (by assumption) ?_
  rotate_left
  · (intro w hSw; (try dsimp only at hSw); go_simp) <;> (try (with_reducible rfl))
  try simp only [Act.put, Array.getInternal_eq_getElem, List.getElem_toArray, List.getElem_cons_zero, List.getElem_cons_succ, List.setIfInBounds_toArray, List.set_cons_zero, List.set_cons_succ]
  refine wpAnyH_take (i := 17) (v := ?_) rfl (by kernel_rfl) (by kernel_rfl) (by kernel_rfl) (fun _ _ _ h => h) (Or.inl ⟨by kernel_rfl, ?_⟩) (by assumption) ?_
  rotate_left
  · (intro w hSw; (try dsimp only at hSw); go_simp) <;> (try (with_reducible rfl))
  try simp only [Act.put, Array.getInternal_eq_getElem, List.getElem_toArray, List.getElem_cons_zero, List.getElem_cons_succ, List.setIfInBounds_toArray, List.set_cons_zero, List.set_cons_succ]
  refine wpAnyH_take (i := 18) (v := ?_) rfl (by kernel_rfl) (by kernel_rfl) (by kernel_rfl) (fun _ _ _ h => h) (Or.inl ⟨by kernel_rfl, ?_⟩) (by assumption) ?_
  rotate_left
  · (intro w hSw; (try dsimp only at hSw); go_simp) <;> (try (with_reducible rfl))
  try simp only [Act.put, Array.getInternal_eq_getElem, List.getElem_toArray, List.getElem_cons_zero, List.getElem_cons_succ, List.setIfInBounds_toArray, List.set_cons_zero, List.set_cons_succ]
  refine' wpAnyH_take (i := 19) (v := _) rfl (by kernel_rfl) (by kernel_rfl) (by kernel_rfl) (fun _ _ _ h => h) (yieldsIf_load_mid (by kernel_rfl) _ _ rfl _ _ rfl _ _ (fun w hSw => hSw.2.2) Try.underlying29 rfl HSC.out) (by assumption) ?_
  try simp only [Act.put, Array.getInternal_eq_getElem, List.getElem_toArray, List.getElem_cons_zero, List.getElem_cons_succ, List.setIfInBounds_toArray, List.set_cons_zero, List.set_cons_succ]
  refine' wpAnyH_take (i := 20) (v := _) rfl (by kernel_rfl) (by kernel_rfl) (by kernel_rfl) (fun _ _ _ h => h) (yieldsIf_load_mid (by kernel_rfl) _ _ rfl _ _ rfl _ _ (fun w hSw => hSw.1) Try.underlying29 rfl HSZ.out) (by assumption) ?_
  try simp only [Act.put, Array.getInternal_eq_getElem, List.getElem_toArray, List.getElem_cons_zero, List.getElem_cons_succ, List.setIfInBounds_toArray, List.set_cons_zero, List.set_cons_succ]
  refine wpAnyH_ready (rs := [21]) (by kernel_rfl) (by simp) ?_
  refine AllReadyH.cons rfl (fun K hK => ?_) AllReadyH.nil
  (rw [if_pos (by kernel_rfl)]; go_simp; go_at_call 11; refine (HCC.out _ K4.out).mono ?_; rintro e u5 ⟨rfl, k5⟩; have K5 := Lib.hid (Keeps.trans (S := fun _ => False) K4.out (k5 _)); clear k5)
  refine hK.out _ _ (HCL.out _ K5.out) (fun hHeld => ?_)
  clear hK K
  try simp only [Act.put, Array.getInternal_eq_getElem, List.getElem_toArray, List.getElem_cons_zero, List.getElem_cons_succ, List.setIfInBounds_toArray, List.set_cons_zero, List.set_cons_succ]
  refine wpAnyH_take (i := 22) (v := ?_) rfl (by kernel_rfl) (by kernel_rfl) (by kernel_rfl) (fun _ _ _ h => h) (Or.inl ⟨by kernel_rfl, ?_⟩) (by assumption) ?_
  rotate_left
  · (intro w hSw; (try dsimp only at hSw); go_simp) <;> (try (with_reducible rfl))
  try simp only [Act.put, Array.getInternal_eq_getElem, List.getElem_toArray, List.getElem_cons_zero, List.getElem_cons_succ, List.setIfInBounds_toArray, List.set_cons_zero, List.set_cons_succ]
  refine wpAnyH_take (i := 23) (v := ?_) rfl (by kernel_rfl) (by kernel_rfl) (by kernel_rfl) (fun _ _ _ h => h) (Or.inl ⟨by kernel_rfl, ?_⟩) (by assumption) ?_
  rotate_left
  · (intro w hSw; (try dsimp only at hSw); go_simp) <;> (try (with_reducible rfl))
  try simp only [Act.put, Array.getInternal_eq_getElem, List.getElem_toArray, List.getElem_cons_zero, List.getElem_cons_succ, List.setIfInBounds_toArray, List.set_cons_zero, List.set_cons_succ]
  refine wpAnyH_take (i := 24) (v := ?_) rfl (by kernel_rfl) (by kernel_rfl) (by kernel_rfl) (fun _ _ _ h => h) (Or.inl ⟨by kernel_rfl, ?_⟩) (by assumption) ?_
  rotate_left
  · (intro w hSw; (try dsimp only at hSw); go_simp) <;> (try (with_reducible rfl))
  try simp only [Act.put, Array.getInternal_eq_getElem, List.getElem_toArray, List.getElem_cons_zero, List.getElem_cons_succ, List.setIfInBounds_toArray, List.set_cons_zero, List.set_cons_succ]
  refine wpAnyH_ready (rs := [25]) (by kernel_rfl) (by simp) ?_
  refine AllReadyH.cons rfl (fun K hK => ?_) AllReadyH.nil
  (rw [if_pos (by kernel_rfl)]; go_simp; go_at_call 13; refine (works_ _).mono ?_; rintro e u6 ⟨rfl, k6⟩; have K6 := Lib.hid (Keeps.trans (S := fun _ => False) K5.out (k6 _)); clear k6)
  refine hK.out _ _ (HCL.out _ K6.out) (fun hHeld => ?_)
  clear hK K
  try simp only [Act.put, Array.getInternal_eq_getElem, List.getElem_toArray, List.getElem_cons_zero, List.getElem_cons_succ, List.setIfInBounds_toArray, List.set_cons_zero, List.set_cons_succ]
  refine wpAnyH_take (i := 26) (v := ?_) rfl (by kernel_rfl) (by kernel_rfl) (by kernel_rfl) (fun _ _ _ h => h) (Or.inl ⟨by kernel_rfl, ?_⟩) (by assumption) ?_
  rotate_left
  · (intro w hSw; (try dsimp only at hSw); go_simp) <;> (try (with_reducible rfl))
  try simp only [Act.put, Array.getInternal_eq_getElem, List.getElem_toArray, List.getElem_cons_zero, List.getElem_cons_succ, List.setIfInBounds_toArray, List.set_cons_zero, List.set_cons_succ]
  refine wpAnyH_take (i := 27) (v := ?_) rfl (by kernel_rfl) (by kernel_rfl) (by kernel_rfl) (fun _ _ _ h => h) (Or.inl ⟨by kernel_rfl, ?_⟩) (by assumption) ?_
  rotate_left
  · (intro w hSw; (try dsimp only at hSw); go_simp) <;> (try (with_reducible rfl))
  try simp only [Act.put, Array.getInternal_eq_getElem, List.getElem_toArray, List.getElem_cons_zero, List.getElem_cons_succ, List.setIfInBounds_toArray, List.set_cons_zero, List.set_cons_succ]
  refine wpAnyH_done ?_ ?_ _
  · kernel_rfl
  go_wp2_with fail
  try rw [Exit.noGoto_ret]
  go_ret
  exact ⟨rfl, fun S => (KW6.out S).trans (K6.out.mono (fun _ _ z => z.elim))⟩
set_option maxRecDepth 100000 in
set_option maxHeartbeats 4000000 in
theorem psl_3 (a b : Hd) (ha : a.Wf) (hb : b.Wf) (A A2 : Option Addr) (n n2 c c2 : Nat) (hl : a.dat.length = n) (hl2 : b.dat.length = n2) (hn : n ≤ 140737488351232) (hr : Rd w w.heap.size A (by_ a.dat)) (hr2 : Rd w w.heap.size A2 (by_ b.dat)) (f : Int) (hf1 : -9223372036854775808 ≤ f) (hf2 : f ≤ 9223372036854775807) (hq : Int.tmod (Int.tmod f 11 + 11) 11 = 3) :
    Calls Try.prog 3 #[hvv a (.slice A n c), hvv b (.slice A2 n2 c2), .int .i64 f] w fun e w' => e = .returned (.bool true) ∧ ∀ S, Keeps S w w' := by
  obtain ⟨w1, hw1, k1, bA, bB, s1⟩ := box2 w (hcs a (.slice A n c)) (hcs b (.slice A2 n2 c2)) 29 29
  obtain ⟨wz, hwz, kz, bz, sz⟩ := box1 w1 zhd 29
  dsimp only [zhd] at hwz
  obtain ⟨t2, b2, k2⟩ := p_store bz (cs := hcs a (.slice A n c)) (by rw [hcs_len ha]; rfl)
  obtain ⟨w2, hw2⟩ : ∃ w2, w2 = wz.setCells w1.heap.size 0 (hcs a (.slice A n c)) := ⟨_, rfl⟩
  rw [← hw2] at b2 k2
  have k12 : ∀ S, Keeps S w1 w2 := keeps_own kz k2 (Nat.le_refl _)
  obtain ⟨w3, hw3, k3, b3, s3⟩ := box1 w2 [] 5
  have s2 : w1.heap.size + 1 ≤ w2.heap.size := by have := k2.size; omega
  have y3 : By w2 w3 (.slice (some ⟨w2.heap.size, 0, none⟩) 0 0) [] := By.of_blk b3 rfl (Nat.le_refl _) (by omega) k3
  have r3 := rd_old hr (((k1 (fun _ => False)).trans (k12 _)).trans (k3 _))
  obtain ⟨r, hrm⟩ : ∃ r, Int.tmod f 11 = r := ⟨_, rfl⟩
  have hrb := tmod11 f
  rw [hrm] at hrb hq
  have r1 := hrb.1
  have r2 := hrb.2
  have x42 : w3.cell? ⟨w.heap.size, 42, none⟩ = some (.slice A n c) := (HF.of_blk ha (Blk.keeps bA ((k12 (fun _ => False)).trans (k3 _)) (fun z => z))).dat
  have HWA := Lib.hid ha
  have HWB := Lib.hid hb
  have HY3 := Lib.hid y3
  have HR3 := Lib.hid r3
  have HLL := Lib.hid (And.intro hl hl2)
  have HRR := Lib.hid (And.intro hr hr2)
  have HN := Lib.hid hn
  have HKK := Lib.hid (And.intro k1 (And.intro k12 k3))
  have HBA := Lib.hid bA
  have HBB := Lib.hid bB
  have HB2 := Lib.hid b2
  have HT2 := Lib.hid t2
  have HS := Lib.hid (And.intro s1 s2)
  have HSZ : Hid ((Try.prog.info? 29).map (·.size) = some (hcs a (.slice A n c)).length) := Lib.hid (hd_sz ha _)
  have HSO := Lib.hid (all_oneCell_toArray (hcs_one (h := a) (v := .slice A n c) rfl))
  have HW1 := Lib.hid hw1
  have HWZ := Lib.hid hwz
  have HW2 := Lib.hid hw2
  replace hw3 : w3 = w2.alloc (.cells #[] 5) := hw3
  rw [hw3] at x42
  have HW3 := Lib.hid hw3
  unfold hvv
  clear hw1 k1 bA bB s1 hwz kz bz sz t2 b2 k2 hw2 k12 hw3 k3 b3 s3 s2 y3 r3 hrb ha hb hl hl2 hr hr2
  generalize hCA : hcs a (.slice A n c) = CA at *
  generalize hCB : hcs b (.slice A2 n2 c2) = CB at *
  have HCA := Lib.hid hCA
  have HCB := Lib.hid hCB
  clear hCA hCB
  go_enter Try.func3, Try.ntmps3
  go_wp2_with (first
    | ((with_reducible show wpList _ _ _ (⟨some 8, _, _, _, _, _⟩ :: _) _ _); (try rw [← HW1.out]); refine wpList_load_mid rfl 29 _ rfl w.heap.size 0 rfl CA _ (Blk.range HBA.out) Try.underlying29 rfl HSZ.out ?_)
    | ((with_reducible show wpList _ _ _ (⟨none, .store _ (.tmp 7) _, _, _, _, _⟩ :: _) _ _); (try rw [← HWZ.out]); refine' wpList_store_mid rfl 29 _ _ rfl w1.heap.size 0 (CA).toArray ?hx rfl ?ht HSZ.out HSO.out ?_; (case hx => rfl); (case ht => exact HT2.out); rw [← HW2.out])
    | ((with_reducible show wpList _ _ _ (⟨some 12, _, _, _, _, _⟩ :: _) _ _); (try rw [← HW3.out]); refine By.wpList_append rfl _ _ rfl HY3.out rfl A n c _ a.dat rfl HLL.out.1 HR3.out (by have := HN.out; simp; omega) ?_; intro v4 w4 y4 k4; clear k4; have ya := y4; obtain ⟨A4, c4, rfl, r4⟩ := ya.rd; rw [List.nil_append] at ya r4 ⊢; rw [HLL.out.1] at ya ⊢; have h1 := HWA.out.s; have h2 := HWA.out.d; have g4 := Blk.keeps HB2.out (ya.keep (fun _ => False)) (fun z => z); rw [← HCA.out] at g4; have c42 : w4.cell? ⟨w1.heap.size, 42, none⟩ = some _ := h_cell g4 h1 h2 8 _ rfl; have f42 : w4.frozen? ⟨w1.heap.size, 42, none⟩ = false := g4.frozen 42; have g5 := st_dat g4 h1 h2 (.slice A4 n c4) a.dat; have p5 := keeps_put (G := w1.heap.size) (Keeps.refl _ w4) 42 (.slice A4 n c4); obtain ⟨x, hx⟩ : ∃ x, x = (a.sp + 1) % 65536 := ⟨_, rfl⟩; have hxi : IntKind.u16.wrap ((a.sp : Int) + 1) = (x : Int) := (by rw [IntKind.wrap_u16]; omega); have hxi2 : ((a.sp : Int) + 1) % 65536 = (x : Int) := (by omega); have HX := Lib.hid hx; clear hx; have cx : (w4.setCell ⟨w1.heap.size, 42, none⟩ (.slice A4 n c4)).cell? ⟨w1.heap.size, 35, none⟩ = some _ := h_cell g5 h1 h2 1 _ rfl; have fx : (w4.setCell ⟨w1.heap.size, 42, none⟩ (.slice A4 n c4)).frozen? ⟨w1.heap.size, 35, none⟩ = false := g5.frozen 35; have g6 := st_sp g5 h1 h2 x; have p6 := keeps_put p5 35 (.int .u16 (x : Int))))
  --@E
  obtain ⟨w6, hw6⟩ : ∃ w6, w6 = (w4.setCell ⟨w1.heap.size, 42, none⟩ (.slice A4 n c4)).setCell ⟨w1.heap.size, 35, none⟩ (.int .u16 (x : Int)) := ⟨_, rfl⟩
  rw [← hw6]
  rw [← hw6] at g6 p6
  have gC : Blk w6 w1.heap.size 29 (hcs (⟨a.src, a.dst, a.pr, x, a.dp, a.ttl, a.cls, a.id, a.fl, a.seq, a.dat⟩ : Hd) (.slice A4 n c4)) := g6
  have hch : (⟨a.src, a.dst, a.pr, x, a.dp, a.ttl, a.cls, a.id, a.fl, a.seq, a.dat⟩ : Hd).Wf := ⟨HWA.out.s, HWA.out.d, HWA.out.p, (by have := HX.out; show x < _; omega), HWA.out.dl, HWA.out.t, HWA.out.c, HWA.out.i, HWA.out.f, HWA.out.q, HWA.out.b⟩
  have hne : ¬ a = (⟨a.src, a.dst, a.pr, x, a.dp, a.ttl, a.cls, a.id, a.fl, a.seq, a.dat⟩ : Hd) := fun e => by have h3 : a.sp = x := congrArg Hd.sp e; have := HX.out; have := HWA.out.sl; omega
  have hdl : (⟨a.src, a.dst, a.pr, x, a.dp, a.ttl, a.cls, a.id, a.fl, a.seq, a.dat⟩ : Hd).dat.length = n := HLL.out.1
  have s1 := HS.out.1
  have s2 := HS.out.2
  have k16 : ∀ S, Keeps S w1 w6 := keeps_own (fun S => (HKK.out.2.1 S).trans (ya.keep S)) p6 (Nat.le_refl _)
  have kw6 : ∀ S, Keeps S w w6 := fun S => (HKK.out.1 S).trans (k16 S)
  have gA := Blk.keeps HBA.out (k16 (fun _ => False)) (fun z => z)
  have gB := Blk.keeps HBB.out (k16 (fun _ => False)) (fun z => z)
  have rC : Rd w6 w6.heap.size A4 (by_ (⟨a.src, a.dst, a.pr, x, a.dp, a.ttl, a.cls, a.id, a.fl, a.seq, a.dat⟩ : Hd).dat) := (by obtain ⟨A9, c9, h9, r9⟩ := (past_ (By.base (w := w1) ya HKK.out.2.1) p6 (Nat.le_refl _) (ya.apart (by omega))).rd; injection h9 with e1 _ _; subst e1; exact r9)
  have KW6 := Lib.hid kw6
  have HCL : Hid (∀ wq, Keeps (fun _ => False) w6 wq → wq.rangeAt w.heap.size 0 CA ∧ wq.rangeAt (w.heap.size + 1) 0 CB ∧ wq.rangeAt w1.heap.size 0 (hcs (⟨a.src, a.dst, a.pr, x, a.dp, a.ttl, a.cls, a.id, a.fl, a.seq, a.dat⟩ : Hd) (.slice A4 n c4))) := Lib.hid (fun wq kq => ⟨Blk.range (Blk.keeps gA kq (fun z => z)), Blk.range (Blk.keeps gB kq (fun z => z)), Blk.range (Blk.keeps gC kq (fun z => z))⟩)
  have ra : ∀ u, Keeps (fun _ => False) w6 u → Rd u u.heap.size A (by_ a.dat) := fun u hu => (rd_old HRR.out.1 ((kw6 _).trans hu)).more ((kw6 (fun _ => False)).trans hu).size
  have rb : ∀ u, Keeps (fun _ => False) w6 u → Rd u u.heap.size A2 (by_ b.dat) := fun u hu => (rd_old HRR.out.2 ((kw6 _).trans hu)).more ((kw6 (fun _ => False)).trans hu).size
  have rc : ∀ u, Keeps (fun _ => False) w6 u → Rd u u.heap.size A4 (by_ (⟨a.src, a.dst, a.pr, x, a.dp, a.ttl, a.cls, a.id, a.fl, a.seq, a.dat⟩ : Hd).dat) := fun u hu => (rd_old rC hu).more hu.size
  have HAB : Hid (∀ u, Keeps (fun _ => False) w6 u → Calls Try.prog 11 #[.agg CA.toArray, .agg CB.toArray] u fun e w' => e = .returned (.bool (sameH a b)) ∧ ∀ S, Keeps S u w') := Lib.hid (fun u hu => by rw [← HCA.out, ← HCB.out]; exact psame2_ u a b HWA.out HWB.out A A2 n n2 c c2 HLL.out.1 HLL.out.2 (ra u hu) (rb u hu))
  have HRB : Hid (∀ u, Keeps (fun _ => False) w6 u → Calls Try.prog 12 #[.agg CA.toArray, .agg CB.toArray] u fun e w' => e = .returned (.bool (sameH a b)) ∧ ∀ S, Keeps S u w') := Lib.hid (fun u hu => by rw [← HCA.out, ← HCB.out]; exact rsame_ u a b HWA.out HWB.out A A2 n n2 c c2 HLL.out.1 HLL.out.2 (by have := HN.out; omega) (ra u hu) (rb u hu))
  have HAA : Hid (∀ u, Keeps (fun _ => False) w6 u → Calls Try.prog 11 #[.agg CA.toArray, .agg CA.toArray] u fun e w' => e = .returned (.bool true) ∧ ∀ S, Keeps S u w') := Lib.hid (fun u hu => by rw [← HCA.out]; have := psame2_ u a a HWA.out HWA.out A A n n c c HLL.out.1 HLL.out.1 (ra u hu) (ra u hu); rw [same_yes rfl] at this; exact this)
  have HAC : Hid (∀ u, Keeps (fun _ => False) w6 u → Calls Try.prog 11 #[.agg CA.toArray, .agg (hcs (⟨a.src, a.dst, a.pr, x, a.dp, a.ttl, a.cls, a.id, a.fl, a.seq, a.dat⟩ : Hd) (.slice A4 n c4)).toArray] u fun e w' => e = .returned (.bool false) ∧ ∀ S, Keeps S u w') := Lib.hid (fun u hu => by rw [← HCA.out]; have := psame2_ u a (⟨a.src, a.dst, a.pr, x, a.dp, a.ttl, a.cls, a.id, a.fl, a.seq, a.dat⟩ : Hd) HWA.out hch A A4 n n c c4 HLL.out.1 hdl (ra u hu) (rc u hu); rw [same_no hne] at this; exact this)
  have HCC : Hid (∀ u, Keeps (fun _ => False) w6 u → Calls Try.prog 11 #[.agg (hcs (⟨a.src, a.dst, a.pr, x, a.dp, a.ttl, a.cls, a.id, a.fl, a.seq, a.dat⟩ : Hd) (.slice A4 n c4)).toArray, .agg CA.toArray] u fun e w' => e = .returned (.bool false) ∧ ∀ S, Keeps S u w') := Lib.hid (fun u hu => by rw [← HCA.out]; have := psame2_ u (⟨a.src, a.dst, a.pr, x, a.dp, a.ttl, a.cls, a.id, a.fl, a.seq, a.dat⟩ : Hd) a hch HWA.out A4 A n n c4 c hdl HLL.out.1 (rc u hu) (ra u hu); rw [same_no (fun e => hne e.symm)] at this; exact this)
  have HSC : Hid ((Try.prog.info? 29).map (·.size) = some (hcs (⟨a.src, a.dst, a.pr, x, a.dp, a.ttl, a.cls, a.id, a.fl, a.seq, a.dat⟩ : Hd) (.slice A4 n c4)).length) := Lib.hid (hd_sz hch _)
  have HSB : Hid ((Try.prog.info? 29).map (·.size) = some CB.length) := Lib.hid (by rw [← HCB.out]; exact hd_sz HWB.out _)
  clear hw6 g6 p6 gC hch hne hdl s1 s2 k16 kw6 gA gB rC ra rb rc ya r4 h1 h2 g4 c42 f42 g5 p5 cx fx hxi hxi2
  generalize hcs (⟨a.src, a.dst, a.pr, x, a.dp, a.ttl, a.cls, a.id, a.fl, a.seq, a.dat⟩ : Hd) (.slice A4 n c4) = CC at *
  obtain ⟨z, hz⟩ : ∃ z, z = sameH a b := ⟨_, rfl⟩
  rw [← hz] at HAB HRB
  clear hz
  have hzz : (z == z) = true := beq_self_eq_true z
  go_wp2_with fail
  --@25
  refine wp_region_held_drew (S := fun w' => w'.rangeAt w.heap.size 0 CA ∧ w'.rangeAt (w.heap.size + 1) 0 CB ∧ w'.rangeAt w1.heap.size 0 CC) (by kernel_rfl) (HCL.out _ ((Keeps.refl _ w6).drew)) (fun hHeld => ?_)
  refine' wpAnyH_take (i := 0) (v := _) rfl (by kernel_rfl) (by kernel_rfl) (by kernel_rfl) (fun _ _ _ h => h) (yieldsIf_load_mid (by kernel_rfl) _ _ rfl _ _ rfl _ _ (fun w hSw => hSw.1) Try.underlying29 rfl HSZ.out) (by assumption) ?_
  try simp only [Act.put, Array.getInternal_eq_getElem, List.getElem_toArray, List.getElem_cons_zero, List.getElem_cons_succ, List.setIfInBounds_toArray, List.set_cons_zero, List.set_cons_succ]
  refine' wpAnyH_take (i := 1) (v := _) rfl (by kernel_rfl) (by kernel_rfl) (by kernel_rfl) (fun _ _ _ h => h) (yieldsIf_load_mid (by kernel_rfl) _ _ rfl _ _ rfl _ _ (fun w hSw => hSw.2.1) Try.underlying29 rfl HSB.out) (by assumption) ?_
  try simp only [Act.put, Array.getInternal_eq_getElem, List.getElem_toArray, List.getElem_cons_zero, List.getElem_cons_succ, List.setIfInBounds_toArray, List.set_cons_zero, List.set_cons_succ]
  refine' wpAnyH_take (i := 3) (v := _) rfl (by kernel_rfl) (by kernel_rfl) (by kernel_rfl) (fun _ _ _ h => h) (yieldsIf_load_mid (by kernel_rfl) _ _ rfl _ _ rfl _ _ (fun w hSw => hSw.1) Try.underlying29 rfl HSZ.out) (by assumption) ?_
  try simp only [Act.put, Array.getInternal_eq_getElem, List.getElem_toArray, List.getElem_cons_zero, List.getElem_cons_succ, List.setIfInBounds_toArray, List.set_cons_zero, List.set_cons_succ]
  refine' wpAnyH_take (i := 4) (v := _) rfl (by kernel_rfl) (by kernel_rfl) (by kernel_rfl) (fun _ _ _ h => h) (yieldsIf_load_mid (by kernel_rfl) _ _ rfl _ _ rfl _ _ (fun w hSw => hSw.2.1) Try.underlying29 rfl HSB.out) (by assumption) ?_
  try simp only [Act.put, Array.getInternal_eq_getElem, List.getElem_toArray, List.getElem_cons_zero, List.getElem_cons_succ, List.setIfInBounds_toArray, List.set_cons_zero, List.set_cons_succ]
  refine wpAnyH_ready (rs := [2]) (by kernel_rfl) (by simp) ?_
  refine AllReadyH.cons rfl (fun K hK => ?_) AllReadyH.nil
  (rw [if_pos (by kernel_rfl)]; go_simp; go_at_call 11; refine (HAB.out _ ((Keeps.refl _ w6).drew)).mono ?_; rintro e u1 ⟨rfl, k1⟩; have K1 := Lib.hid (Keeps.trans (S := fun _ => False) ((Keeps.refl _ w6).drew) (k1 _)); clear k1)
  refine hK.out _ _ (HCL.out _ K1.out) (fun hHeld => ?_)
  clear hK K
  try simp only [Act.put, Array.getInternal_eq_getElem, List.getElem_toArray, List.getElem_cons_zero, List.getElem_cons_succ, List.setIfInBounds_toArray, List.set_cons_zero, List.set_cons_succ]
  refine wpAnyH_ready (rs := [5]) (by kernel_rfl) (by simp) ?_
  refine AllReadyH.cons rfl (fun K hK => ?_) AllReadyH.nil
  (rw [if_pos (by kernel_rfl)]; go_simp; go_at_call 12; refine (HRB.out _ K1.out).mono ?_; rintro e u2 ⟨rfl, k2⟩; have K2 := Lib.hid (Keeps.trans (S := fun _ => False) K1.out (k2 _)); clear k2)
  refine hK.out _ _ (HCL.out _ K2.out) (fun hHeld => ?_)
  clear hK K
  try simp only [Act.put, Array.getInternal_eq_getElem, List.getElem_toArray, List.getElem_cons_zero, List.getElem_cons_succ, List.setIfInBounds_toArray, List.set_cons_zero, List.set_cons_succ]
  refine wpAnyH_take (i := 6) (v := ?_) rfl (by kernel_rfl) (by kernel_rfl) (by kernel_rfl) (fun _ _ _ h => h) (Or.inl ⟨by kernel_rfl, ?_⟩) (by assumption) ?_
  rotate_left
  · (intro w hSw; (try dsimp only at hSw); go_simp) <;> (try (with_reducible rfl))
  try simp only [Act.put, Array.getInternal_eq_getElem, List.getElem_toArray, List.getElem_cons_zero, List.getElem_cons_succ, List.setIfInBounds_toArray, List.set_cons_zero, List.set_cons_succ]
  refine wpAnyH_take (i := 7) (v := ?_) rfl (by kernel_rfl) (by kernel_rfl) (by kernel_rfl) (fun _ _ _ h => h) (Or.inl ⟨by kernel_rfl, ?_⟩) (by assumption) ?_
  rotate_left
  · (intro w hSw; (try dsimp only at hSw); go_simp) <;> (try (with_reducible rfl))
  try simp only [Act.put, Array.getInternal_eq_getElem, List.getElem_toArray, List.getElem_cons_zero, List.getElem_cons_succ, List.setIfInBounds_toArray, List.set_cons_zero, List.set_cons_succ]
  refine' wpAnyH_take (i := 8) (v := _) rfl (by kernel_rfl) (by kernel_rfl) (by kernel_rfl) (fun _ _ _ h => h) (yieldsIf_load_mid (by kernel_rfl) _ _ rfl _ _ rfl _ _ (fun w hSw => hSw.1) Try.underlying29 rfl HSZ.out) (by assumption) ?_
  try simp only [Act.put, Array.getInternal_eq_getElem, List.getElem_toArray, List.getElem_cons_zero, List.getElem_cons_succ, List.setIfInBounds_toArray, List.set_cons_zero, List.set_cons_succ]
  refine' wpAnyH_take (i := 9) (v := _) rfl (by kernel_rfl) (by kernel_rfl) (by kernel_rfl) (fun _ _ _ h => h) (yieldsIf_load_mid (by kernel_rfl) _ _ rfl _ _ rfl _ _ (fun w hSw => hSw.1) Try.underlying29 rfl HSZ.out) (by assumption) ?_
  try simp only [Act.put, Array.getInternal_eq_getElem, List.getElem_toArray, List.getElem_cons_zero, List.getElem_cons_succ, List.setIfInBounds_toArray, List.set_cons_zero, List.set_cons_succ]
  refine wpAnyH_ready (rs := [10]) (by kernel_rfl) (by simp) ?_
  refine AllReadyH.cons rfl (fun K hK => ?_) AllReadyH.nil
  (rw [if_pos (by kernel_rfl)]; go_simp; go_at_call 11; refine (HAA.out _ K2.out).mono ?_; rintro e u3 ⟨rfl, k3⟩; have K3 := Lib.hid (Keeps.trans (S := fun _ => False) K2.out (k3 _)); clear k3)
  refine hK.out _ _ (HCL.out _ K3.out) (fun hHeld => ?_)
  clear hK K
  try simp only [Act.put, Array.getInternal_eq_getElem, List.getElem_toArray, List.getElem_cons_zero, List.getElem_cons_succ, List.setIfInBounds_toArray, List.set_cons_zero, List.set_cons_succ]
  refine wpAnyH_take (i := 11) (v := ?_) rfl (by kernel_rfl) (by kernel_rfl) (by kernel_rfl) (fun _ _ _ h => h) (Or.inl ⟨by kernel_rfl, ?_⟩) (by assumption) ?_
  rotate_left
  · (intro w hSw; (try dsimp only at hSw); go_simp) <;> (try (with_reducible rfl))
  try simp only [Act.put, Array.getInternal_eq_getElem, List.getElem_toArray, List.getElem_cons_zero, List.getElem_cons_succ, List.setIfInBounds_toArray, List.set_cons_zero, List.set_cons_succ]
  refine wpAnyH_take (i := 12) (v := ?_) rfl (by kernel_rfl) (by kernel_rfl) (by kernel_rfl) (fun _ _ _ h => h) (Or.inl ⟨by kernel_rfl, ?_⟩) (by assumption) ?_
  rotate_left
  · (intro w hSw; (try dsimp only at hSw); go_simp) <;> (try (with_reducible rfl))
  try simp only [Act.put, Array.getInternal_eq_getElem, List.getElem_toArray, List.getElem_cons_zero, List.getElem_cons_succ, List.setIfInBounds_toArray, List.set_cons_zero, List.set_cons_succ]
  refine' wpAnyH_take (i := 13) (v := _) rfl (by kernel_rfl) (by kernel_rfl) (by kernel_rfl) (fun _ _ _ h => h) (yieldsIf_load_mid (by kernel_rfl) _ _ rfl _ _ rfl _ _ (fun w hSw => hSw.1) Try.underlying29 rfl HSZ.out) (by assumption) ?_
  try simp only [Act.put, Array.getInternal_eq_getElem, List.getElem_toArray, List.getElem_cons_zero, List.getElem_cons_succ, List.setIfInBounds_toArray, List.set_cons_zero, List.set_cons_succ]
  refine' wpAnyH_take (i := 14) (v := _) rfl (by kernel_rfl) (by kernel_rfl) (by kernel_rfl) (fun _ _ _ h => h) (yieldsIf_load_mid (by kernel_rfl) _ _ rfl _ _ rfl _ _ (fun w hSw => hSw.2.2) Try.underlying29 rfl HSC.out) (by assumption) ?_
  try simp only [Act.put, Array.getInternal_eq_getElem, List.getElem_toArray, List.getElem_cons_zero, List.getElem_cons_succ, List.setIfInBounds_toArray, List.set_cons_zero, List.set_cons_succ]
  refine wpAnyH_ready (rs := [15]) (by kernel_rfl) (by simp) ?_
  refine AllReadyH.cons rfl (fun K hK => ?_) AllReadyH.nil
  (rw [if_pos (by kernel_rfl)]; go_simp; go_at_call 11; refine (HAC.out _ K3.out).mono ?_; rintro e u4 ⟨rfl, k4⟩; have K4 := Lib.hid (Keeps.trans (S := fun _ => False) K3.out (k4 _)); clear k4)
  refine hK.out _ _ (HCL.out _ K4.out) (fun hHeld => ?_)
  clear hK K
  try simp only [Act.put, Array.getInternal_eq_getElem, List.getElem_toArray, List.getElem_cons_zero, List.getElem_cons_succ, List.setIfInBounds_toArray, List.set_cons_zero, List.set_cons_succ]
  refine wpAnyH_take (i := 16) (v := ?_) rfl (by kernel_rfl) (by kernel_rfl) (by kernel_rfl) (fun _ _ _ h => h) (Or.inl ⟨by kernel_rfl, ?_⟩) (by assumption) ?_
  rotate_left
  · (intro w hSw; (try dsimp only at hSw); go_simp) <;> (try (with_reducible rfl))
  try simp only [Act.put, Array.getInternal_eq_getElem, List.getElem_toArray, List.getElem_cons_zero, List.getElem_cons_succ, List.setIfInBounds_toArray, List.set_cons_zero, List.set_cons_succ]
  refine wpAnyH_take (i := 17) (v := ?_) rfl (by kernel_rfl) (by kernel_rfl) (by kernel_rfl) (fun _ _ _ h => h) (Or.inl ⟨by kernel_rfl, ?_⟩) (by assumption) ?_
  rotate_left
  · (intro w hSw; (try dsimp only at hSw); go_simp) <;> (try (with_reducible rfl))
  try simp only [Act.put, Array.getInternal_eq_getElem, List.getElem_toArray, List.getElem_cons_zero, List.getElem_cons_succ, List.setIfInBounds_toArray, List.set_cons_zero, List.set_cons_succ]
  refine wpAnyH_take (i := 18) (v := ?_) rfl (by kernel_rfl) (by kernel_rfl) (by kernel_rfl) (fun _ _ _ h => h) (Or.inl ⟨by kernel_rfl, ?_⟩) (by assumption) ?_
  rotate_left
  · (intro w hSw; (try dsimp only at hSw); go_simp) <;> (try (with_reducible rfl))
  try simp only [Act.put, Array.getInternal_eq_getElem, List.getElem_toArray, List.getElem_cons_zero, List.getElem_cons_succ, List.setIfInBounds_toArray, List.set_cons_zero, List.set_cons_succ]
  refine' wpAnyH_take (i := 19) (v := _) rfl (by kernel_rfl) (by kernel_rfl) (by kernel_rfl) (fun _ _ _ h => h) (yieldsIf_load_mid (by kernel_rfl) _ _ rfl _ _ rfl _ _ (fun w hSw => hSw.2.2) Try.underlying29 rfl HSC.out) (by assumption) ?_
  try simp only [Act.put, Array.getInternal_eq_getElem, List.getElem_toArray, List.getElem_cons_zero, List.getElem_cons_succ, List.setIfInBounds_toArray, List.set_cons_zero, List.set_cons_succ]
  refine' wpAnyH_take (i := 20) (v := _) rfl (by kernel_rfl) (by kernel_rfl) (by kernel_rfl) (fun _ _ _ h => h) (yieldsIf_load_mid (by kernel_rfl) _ _ rfl _ _ rfl _ _ (fun w hSw => hSw.1) Try.underlying29 rfl HSZ.out) (by assumption) ?_
  try simp only [Act.put, Array.getInternal_eq_getElem, List.getElem_toArray, List.getElem_cons_zero, List.getElem_cons_succ, List.setIfInBounds_toArray, List.set_cons_zero, List.set_cons_succ]
  refine wpAnyH_ready (rs := [21]) (by kernel_rfl) (by simp) ?_
  refine AllReadyH.cons rfl (fun K hK => ?_) AllReadyH.nil
  (rw [if_pos (by kernel_rfl)]; go_simp; go_at_call 11; refine (HCC.out _ K4.out).mono ?_; rintro e u5 ⟨rfl, k5⟩; have K5 := Lib.hid (Keeps.trans (S := fun _ => False) K4.out (k5 _)); clear k5)
  refine hK.out _ _ (HCL.out _ K5.out) (fun hHeld => ?_)
  clear hK K
  try simp only [Act.put, Array.getInternal_eq_getElem, List.getElem_toArray, List.getElem_cons_zero, List.getElem_cons_succ, List.setIfInBounds_toArray, List.set_cons_zero, List.set_cons_succ]
  refine wpAnyH_take (i := 22) (v := ?_) rfl (by kernel_rfl) (by kernel_rfl) (by kernel_rfl) (fun _ _ _ h => h) (Or.inl ⟨by kernel_rfl, ?_⟩) (by assumption) ?_
  rotate_left
  · (intro w hSw; (try dsimp only at hSw); go_simp) <;> (try (with_reducible rfl))
  try simp only [Act.put, Array.getInternal_eq_getElem, List.getElem_toArray, List.getElem_cons_zero, List.getElem_cons_succ, List.setIfInBounds_toArray, List.set_cons_zero, List.set_cons_succ]
  refine wpAnyH_take (i := 23) (v := ?_) rfl (by kernel_rfl) (by kernel_rfl) (by kernel_rfl) (fun _ _ _ h => h) (Or.inl ⟨by kernel_rfl, ?_⟩) (by assumption) ?_
  rotate_left
  · (intro w hSw; (try dsimp only at hSw); go_simp) <;> (try (with_reducible rfl))
  try simp only [Act.put, Array.getInternal_eq_getElem, List.getElem_toArray, List.getElem_cons_zero, List.getElem_cons_succ, List.setIfInBounds_toArray, List.set_cons_zero, List.set_cons_succ]
  refine wpAnyH_take (i := 24) (v := ?_) rfl (by kernel_rfl) (by kernel_rfl) (by kernel_rfl) (fun _ _ _ h => h) (Or.inl ⟨by kernel_rfl, ?_⟩) (by assumption) ?_
  rotate_left
  · (intro w hSw; (try dsimp only at hSw); go_simp) <;> (try (with_reducible rfl))
  try simp only [Act.put, Array.getInternal_eq_getElem, List.getElem_toArray, List.getElem_cons_zero, List.getElem_cons_succ, List.setIfInBounds_toArray, List.set_cons_zero, List.set_cons_succ]
  refine wpAnyH_ready (rs := [25]) (by kernel_rfl) (by simp) ?_
  refine AllReadyH.cons rfl (fun K hK => ?_) AllReadyH.nil
  (rw [if_pos (by kernel_rfl)]; go_simp; go_at_call 13; refine (works_ _).mono ?_; rintro e u6 ⟨rfl, k6⟩; have K6 := Lib.hid (Keeps.trans (S := fun _ => False) K5.out (k6 _)); clear k6)
  refine hK.out _ _ (HCL.out _ K6.out) (fun hHeld => ?_)
  clear hK K
  try simp only [Act.put, Array.getInternal_eq_getElem, List.getElem_toArray, List.getElem_cons_zero, List.getElem_cons_succ, List.setIfInBounds_toArray, List.set_cons_zero, List.set_cons_succ]
  refine wpAnyH_take (i := 26) (v := ?_) rfl (by kernel_rfl) (by kernel_rfl) (by kernel_rfl) (fun _ _ _ h => h) (Or.inl ⟨by kernel_rfl, ?_⟩) (by assumption) ?_
  rotate_left
  · (intro w hSw; (try dsimp only at hSw); go_simp) <;> (try (with_reducible rfl))
  try simp only [Act.put, Array.getInternal_eq_getElem, List.getElem_toArray, List.getElem_cons_zero, List.getElem_cons_succ, List.setIfInBounds_toArray, List.set_cons_zero, List.set_cons_succ]
  refine wpAnyH_take (i := 27) (v := ?_) rfl (by kernel_rfl) (by kernel_rfl) (by kernel_rfl) (fun _ _ _ h => h) (Or.inl ⟨by kernel_rfl, ?_⟩) (by assumption) ?_
  rotate_left
  · (intro w hSw; (try dsimp only at hSw); go_simp) <;> (try (with_reducible rfl))
  try simp only [Act.put, Array.getInternal_eq_getElem, List.getElem_toArray, List.getElem_cons_zero, List.getElem_cons_succ, List.setIfInBounds_toArray, List.set_cons_zero, List.set_cons_succ]
  refine wpAnyH_done ?_ ?_ _
  · kernel_rfl
  go_wp2_with fail
  try rw [Exit.noGoto_ret]
  go_ret
  exact ⟨rfl, fun S => (KW6.out S).trans (K6.out.mono (fun _ _ z => z.elim))⟩
end
end Go.Proofs.Ytidengmcbppcoaa.pk
set_option linter.unusedVariables false
set_option linter.unusedSimpArgs false
namespace Go.Proofs.Ytidengmcbppcoaa.pk
open Go.RowKit Go.Proofs.Ytidengmcbppcoaa.oc Go.Proofs.Ytidengmcbppcoaa.mz Go.Proofs.Ytidengmcbppcoaa.pf Go.Proofs.Ytidengmcbppcoaa.wh Go.Proofs.Ytidengmcbppcoaa.qk Go.Proofs.Ytidengmcbppcoaa.bys
section
variable (w : World)
set_option maxRecDepth 100000 in
set_option maxHeartbeats 4000000 in
theorem psl_4 (a b : Hd) (ha : a.Wf) (hb : b.Wf) (A A2 : Option Addr) (n n2 c c2 : Nat) (hl : a.dat.length = n) (hl2 : b.dat.length = n2) (hn : n ≤ 140737488351232) (hr : Rd w w.heap.size A (by_ a.dat)) (hr2 : Rd w w.heap.size A2 (by_ b.dat)) (f : Int) (hf1 : -9223372036854775808 ≤ f) (hf2 : f ≤ 9223372036854775807) (hq : Int.tmod (Int.tmod f 11 + 11) 11 = 4) :
    Calls Try.prog 3 #[hvv a (.slice A n c), hvv b (.slice A2 n2 c2), .int .i64 f] w fun e w' => e = .returned (.bool true) ∧ ∀ S, Keeps S w w' := by
  obtain ⟨w1, hw1, k1, bA, bB, s1⟩ := box2 w (hcs a (.slice A n c)) (hcs b (.slice A2 n2 c2)) 29 29
  obtain ⟨wz, hwz, kz, bz, sz⟩ := box1 w1 zhd 29
  dsimp only [zhd] at hwz
  obtain ⟨t2, b2, k2⟩ := p_store bz (cs := hcs a (.slice A n c)) (by rw [hcs_len ha]; rfl)
  obtain ⟨w2, hw2⟩ : ∃ w2, w2 = wz.setCells w1.heap.size 0 (hcs a (.slice A n c)) := ⟨_, rfl⟩
  rw [← hw2] at b2 k2
  have k12 : ∀ S, Keeps S w1 w2 := keeps_own kz k2 (Nat.le_refl _)
  obtain ⟨w3, hw3, k3, b3, s3⟩ := box1 w2 [] 5
  have s2 : w1.heap.size + 1 ≤ w2.heap.size := by have := k2.size; omega
  have y3 : By w2 w3 (.slice (some ⟨w2.heap.size, 0, none⟩) 0 0) [] := By.of_blk b3 rfl (Nat.le_refl _) (by omega) k3
  have r3 := rd_old hr (((k1 (fun _ => False)).trans (k12 _)).trans (k3 _))
  obtain ⟨r, hrm⟩ : ∃ r, Int.tmod f 11 = r := ⟨_, rfl⟩
  have hrb := tmod11 f
  rw [hrm] at hrb hq
  have r1 := hrb.1
  have r2 := hrb.2
  have x42 : w3.cell? ⟨w.heap.size, 42, none⟩ = some (.slice A n c) := (HF.of_blk ha (Blk.keeps bA ((k12 (fun _ => False)).trans (k3 _)) (fun z => z))).dat
  have HWA := Lib.hid ha
  have HWB := Lib.hid hb
  have HY3 := Lib.hid y3
  have HR3 := Lib.hid r3
  have HLL := Lib.hid (And.intro hl hl2)
  have HRR := Lib.hid (And.intro hr hr2)
  have HN := Lib.hid hn
  have HKK := Lib.hid (And.intro k1 (And.intro k12 k3))
  have HBA := Lib.hid bA
  have HBB := Lib.hid bB
  have HB2 := Lib.hid b2
  have HT2 := Lib.hid t2
  have HS := Lib.hid (And.intro s1 s2)
  have HSZ : Hid ((Try.prog.info? 29).map (·.size) = some (hcs a (.slice A n c)).length) := Lib.hid (hd_sz ha _)
  have HSO := Lib.hid (all_oneCell_toArray (hcs_one (h := a) (v := .slice A n c) rfl))
  have HW1 := Lib.hid hw1
  have HWZ := Lib.hid hwz
  have HW2 := Lib.hid hw2
  replace hw3 : w3 = w2.alloc (.cells #[] 5) := hw3
  rw [hw3] at x42
  have HW3 := Lib.hid hw3
  unfold hvv
  clear hw1 k1 bA bB s1 hwz kz bz sz t2 b2 k2 hw2 k12 hw3 k3 b3 s3 s2 y3 r3 hrb ha hb hl hl2 hr hr2
  generalize hCA : hcs a (.slice A n c) = CA at *
  generalize hCB : hcs b (.slice A2 n2 c2) = CB at *
  have HCA := Lib.hid hCA
  have HCB := Lib.hid hCB
  clear hCA hCB
  go_enter Try.func3, Try.ntmps3
  go_wp2_with (first
    | ((with_reducible show wpList _ _ _ (⟨some 8, _, _, _, _, _⟩ :: _) _ _); (try rw [← HW1.out]); refine wpList_load_mid rfl 29 _ rfl w.heap.size 0 rfl CA _ (Blk.range HBA.out) Try.underlying29 rfl HSZ.out ?_)
    | ((with_reducible show wpList _ _ _ (⟨none, .store _ (.tmp 7) _, _, _, _, _⟩ :: _) _ _); (try rw [← HWZ.out]); refine' wpList_store_mid rfl 29 _ _ rfl w1.heap.size 0 (CA).toArray ?hx rfl ?ht HSZ.out HSO.out ?_; (case hx => rfl); (case ht => exact HT2.out); rw [← HW2.out])
    | ((with_reducible show wpList _ _ _ (⟨some 12, _, _, _, _, _⟩ :: _) _ _); (try rw [← HW3.out]); refine By.wpList_append rfl _ _ rfl HY3.out rfl A n c _ a.dat rfl HLL.out.1 HR3.out (by have := HN.out; simp; omega) ?_; intro v4 w4 y4 k4; clear k4; have ya := y4; obtain ⟨A4, c4, rfl, r4⟩ := ya.rd; rw [List.nil_append] at ya r4 ⊢; rw [HLL.out.1] at ya ⊢; have h1 := HWA.out.s; have h2 := HWA.out.d; have g4 := Blk.keeps HB2.out (ya.keep (fun _ => False)) (fun z => z); rw [← HCA.out] at g4; have c42 : w4.cell? ⟨w1.heap.size, 42, none⟩ = some _ := h_cell g4 h1 h2 8 _ rfl; have f42 : w4.frozen? ⟨w1.heap.size, 42, none⟩ = false := g4.frozen 42; have g5 := st_dat g4 h1 h2 (.slice A4 n c4) a.dat; have p5 := keeps_put (G := w1.heap.size) (Keeps.refl _ w4) 42 (.slice A4 n c4); obtain ⟨x, hx⟩ : ∃ x, x = (a.dp + 1) % 65536 := ⟨_, rfl⟩; have hxi : IntKind.u16.wrap ((a.dp : Int) + 1) = (x : Int) := (by rw [IntKind.wrap_u16]; omega); have hxi2 : ((a.dp : Int) + 1) % 65536 = (x : Int) := (by omega); have HX := Lib.hid hx; clear hx; have cx : (w4.setCell ⟨w1.heap.size, 42, none⟩ (.slice A4 n c4)).cell? ⟨w1.heap.size, 36, none⟩ = some _ := h_cell g5 h1 h2 2 _ rfl; have fx : (w4.setCell ⟨w1.heap.size, 42, none⟩ (.slice A4 n c4)).frozen? ⟨w1.heap.size, 36, none⟩ = false := g5.frozen 36; have g6 := st_dp g5 h1 h2 x; have p6 := keeps_put p5 36 (.int .u16 (x : Int))))
  --@E
  obtain ⟨w6, hw6⟩ : ∃ w6, w6 = (w4.setCell ⟨w1.heap.size, 42, none⟩ (.slice A4 n c4)).setCell ⟨w1.heap.size, 36, none⟩ (.int .u16 (x : Int)) := ⟨_, rfl⟩
  rw [← hw6]
  rw [← hw6] at g6 p6
  have gC : Blk w6 w1.heap.size 29 (hcs (⟨a.src, a.dst, a.pr, a.sp, x, a.ttl, a.cls, a.id, a.fl, a.seq, a.dat⟩ : Hd) (.slice A4 n c4)) := g6
  have hch : (⟨a.src, a.dst, a.pr, a.sp, x, a.ttl, a.cls, a.id, a.fl, a.seq, a.dat⟩ : Hd).Wf := ⟨HWA.out.s, HWA.out.d, HWA.out.p, HWA.out.sl, (by have := HX.out; show x < _; omega), HWA.out.t, HWA.out.c, HWA.out.i, HWA.out.f, HWA.out.q, HWA.out.b⟩
  have hne : ¬ a = (⟨a.src, a.dst, a.pr, a.sp, x, a.ttl, a.cls, a.id, a.fl, a.seq, a.dat⟩ : Hd) := fun e => by have h3 : a.dp = x := congrArg Hd.dp e; have := HX.out; have := HWA.out.dl; omega
  have hdl : (⟨a.src, a.dst, a.pr, a.sp, x, a.ttl, a.cls, a.id, a.fl, a.seq, a.dat⟩ : Hd).dat.length = n := HLL.out.1
  have s1 := HS.out.1
  have s2 := HS.out.2
  have k16 : ∀ S, Keeps S w1 w6 := keeps_own (fun S => (HKK.out.2.1 S).trans (ya.keep S)) p6 (Nat.le_refl _)
  have kw6 : ∀ S, Keeps S w w6 := fun S => (HKK.out.1 S).trans (k16 S)
  have gA := Blk.keeps HBA.out (k16 (fun _ => False)) (fun z => z)
  have gB := Blk.keeps HBB.out (k16 (fun _ => False)) (fun z => z)
  have rC : Rd w6 w6.heap.size A4 (by_ (⟨a.src, a.dst, a.pr, a.sp, x, a.ttl, a.cls, a.id, a.fl, a.seq, a.dat⟩ : Hd).dat) := (by obtain ⟨A9, c9, h9, r9⟩ := (past_ (By.base (w := w1) ya HKK.out.2.1) p6 (Nat.le_refl _) (ya.apart (by omega))).rd; injection h9 with e1 _ _; subst e1; exact r9)
  have KW6 := Lib.hid kw6
  have HCL : Hid (∀ wq, Keeps (fun _ => False) w6 wq → wq.rangeAt w.heap.size 0 CA ∧ wq.rangeAt (w.heap.size + 1) 0 CB ∧ wq.rangeAt w1.heap.size 0 (hcs (⟨a.src, a.dst, a.pr, a.sp, x, a.ttl, a.cls, a.id, a.fl, a.seq, a.dat⟩ : Hd) (.slice A4 n c4))) := Lib.hid (fun wq kq => ⟨Blk.range (Blk.keeps gA kq (fun z => z)), Blk.range (Blk.keeps gB kq (fun z => z)), Blk.range (Blk.keeps gC kq (fun z => z))⟩)
  have ra : ∀ u, Keeps (fun _ => False) w6 u → Rd u u.heap.size A (by_ a.dat) := fun u hu => (rd_old HRR.out.1 ((kw6 _).trans hu)).more ((kw6 (fun _ => False)).trans hu).size
  have rb : ∀ u, Keeps (fun _ => False) w6 u → Rd u u.heap.size A2 (by_ b.dat) := fun u hu => (rd_old HRR.out.2 ((kw6 _).trans hu)).more ((kw6 (fun _ => False)).trans hu).size
  have rc : ∀ u, Keeps (fun _ => False) w6 u → Rd u u.heap.size A4 (by_ (⟨a.src, a.dst, a.pr, a.sp, x, a.ttl, a.cls, a.id, a.fl, a.seq, a.dat⟩ : Hd).dat) := fun u hu => (rd_old rC hu).more hu.size
  have HAB : Hid (∀ u, Keeps (fun _ => False) w6 u → Calls Try.prog 11 #[.agg CA.toArray, .agg CB.toArray] u fun e w' => e = .returned (.bool (sameH a b)) ∧ ∀ S, Keeps S u w') := Lib.hid (fun u hu => by rw [← HCA.out, ← HCB.out]; exact psame2_ u a b HWA.out HWB.out A A2 n n2 c c2 HLL.out.1 HLL.out.2 (ra u hu) (rb u hu))
  have HRB : Hid (∀ u, Keeps (fun _ => False) w6 u → Calls Try.prog 12 #[.agg CA.toArray, .agg CB.toArray] u fun e w' => e = .returned (.bool (sameH a b)) ∧ ∀ S, Keeps S u w') := Lib.hid (fun u hu => by rw [← HCA.out, ← HCB.out]; exact rsame_ u a b HWA.out HWB.out A A2 n n2 c c2 HLL.out.1 HLL.out.2 (by have := HN.out; omega) (ra u hu) (rb u hu))
  have HAA : Hid (∀ u, Keeps (fun _ => False) w6 u → Calls Try.prog 11 #[.agg CA.toArray, .agg CA.toArray] u fun e w' => e = .returned (.bool true) ∧ ∀ S, Keeps S u w') := Lib.hid (fun u hu => by rw [← HCA.out]; have := psame2_ u a a HWA.out HWA.out A A n n c c HLL.out.1 HLL.out.1 (ra u hu) (ra u hu); rw [same_yes rfl] at this; exact this)
  have HAC : Hid (∀ u, Keeps (fun _ => False) w6 u → Calls Try.prog 11 #[.agg CA.toArray, .agg (hcs (⟨a.src, a.dst, a.pr, a.sp, x, a.ttl, a.cls, a.id, a.fl, a.seq, a.dat⟩ : Hd) (.slice A4 n c4)).toArray] u fun e w' => e = .returned (.bool false) ∧ ∀ S, Keeps S u w') := Lib.hid (fun u hu => by rw [← HCA.out]; have := psame2_ u a (⟨a.src, a.dst, a.pr, a.sp, x, a.ttl, a.cls, a.id, a.fl, a.seq, a.dat⟩ : Hd) HWA.out hch A A4 n n c c4 HLL.out.1 hdl (ra u hu) (rc u hu); rw [same_no hne] at this; exact this)
  have HCC : Hid (∀ u, Keeps (fun _ => False) w6 u → Calls Try.prog 11 #[.agg (hcs (⟨a.src, a.dst, a.pr, a.sp, x, a.ttl, a.cls, a.id, a.fl, a.seq, a.dat⟩ : Hd) (.slice A4 n c4)).toArray, .agg CA.toArray] u fun e w' => e = .returned (.bool false) ∧ ∀ S, Keeps S u w') := Lib.hid (fun u hu => by rw [← HCA.out]; have := psame2_ u (⟨a.src, a.dst, a.pr, a.sp, x, a.ttl, a.cls, a.id, a.fl, a.seq, a.dat⟩ : Hd) a hch HWA.out A4 A n n c4 c hdl HLL.out.1 (rc u hu) (ra u hu); rw [same_no (fun e => hne e.symm)] at this; exact this)
  have HSC : Hid ((Try.prog.info? 29).map (·.size) = some (hcs (⟨a.src, a.dst, a.pr, a.sp, x, a.ttl, a.cls, a.id, a.fl, a.seq, a.dat⟩ : Hd) (.slice A4 n c4)).length) := Lib.hid (hd_sz hch _)
  have HSB : Hid ((Try.prog.info? 29).map (·.size) = some CB.length) := Lib.hid (by rw [← HCB.out]; exact hd_sz HWB.out _)
  clear hw6 g6 p6 gC hch hne hdl s1 s2 k16 kw6 gA gB rC ra rb rc ya r4 h1 h2 g4 c42 f42 g5 p5 cx fx hxi hxi2
  generalize hcs (⟨a.src, a.dst, a.pr, a.sp, x, a.ttl, a.cls, a.id, a.fl, a.seq, a.dat⟩ : Hd) (.slice A4 n c4) = CC at *
  obtain ⟨z, hz⟩ : ∃ z, z = sameH a b := ⟨_, rfl⟩
  rw [← hz] at HAB HRB
  clear hz
  have hzz : (z == z) = true := beq_self_eq_true z
  go_wp2_with fail
  --@25
  refine wp_region_held_drew (S := fun w' => w'.rangeAt w.heap.size 0 CA ∧ w'.rangeAt (w.heap.size + 1) 0 CB ∧ w'.rangeAt w1.heap.size 0 CC) (by kernel_rfl) (HCL.out _ ((Keeps.refl _ w6).drew)) (fun hHeld => ?_)
  refine' wpAnyH_take (i := 0) (v := _) rfl (by kernel_rfl) (by kernel_rfl) (by kernel_rfl) (fun _ _ _ h => h) (yieldsIf_load_mid (by kernel_rfl) _ _ rfl _ _ rfl _ _ (fun w hSw => hSw.1) Try.underlying29 rfl HSZ.out) (by assumption) ?_
  try simp only [Act.put, Array.getInternal_eq_getElem, List.getElem_toArray, List.getElem_cons_zero, List.getElem_cons_succ, List.setIfInBounds_toArray, List.set_cons_zero, List.set_cons_succ]
  refine' wpAnyH_take (i := 1) (v := _) rfl (by kernel_rfl) (by kernel_rfl) (by kernel_rfl) (fun _ _ _ h => h) (yieldsIf_load_mid (by kernel_rfl) _ _ rfl _ _ rfl _ _ (fun w hSw => hSw.2.1) Try.underlying29 rfl HSB.out) (by assumption) ?_
  try simp only [Act.put, Array.getInternal_eq_getElem, List.getElem_toArray, List.getElem_cons_zero, List.getElem_cons_succ, List.setIfInBounds_toArray, List.set_cons_zero, List.set_cons_succ]
  refine' wpAnyH_take (i := 3) (v := _) rfl (by kernel_rfl) (by kernel_rfl) (by kernel_rfl) (fun _ _ _ h => h) (yieldsIf_load_mid (by kernel_rfl) _ _ rfl _ _ rfl _ _ (fun w hSw => hSw.1) Try.underlying29 rfl HSZ.out) (by assumption) ?_
  try simp only [Act.put, Array.getInternal_eq_getElem, List.getElem_toArray, List.getElem_cons_zero, List.getElem_cons_succ, List.setIfInBounds_toArray, List.set_cons_zero, List.set_cons_succ]
  refine' wpAnyH_take (i := 4) (v := _) rfl (by kernel_rfl) (by kernel_rfl) (by kernel_rfl) (fun _ _ _ h => h) (yieldsIf_load_mid (by kernel_rfl) _ _ rfl _ _ rfl _ _ (fun w hSw => hSw.2.1) Try.underlying29 rfl HSB.out) (by assumption) ?_
  try simp only [Act.put, Array.getInternal_eq_getElem, List.getElem_toArray, List.getElem_cons_zero, List.getElem_cons_succ, List.setIfInBounds_toArray, List.set_cons_zero, List.set_cons_succ]
  refine wpAnyH_ready (rs := [2]) (by kernel_rfl) (by simp) ?_
  refine AllReadyH.cons rfl (fun K hK => ?_) AllReadyH.nil
  (rw [if_pos (by kernel_rfl)]; go_simp; go_at_call 11; refine (HAB.out _ ((Keeps.refl _ w6).drew)).mono ?_; rintro e u1 ⟨rfl, k1⟩; have K1 := Lib.hid (Keeps.trans (S := fun _ => False) ((Keeps.refl _ w6).drew) (k1 _)); clear k1)
  refine hK.out _ _ (HCL.out _ K1.out) (fun hHeld => ?_)
  clear hK K
  try simp only [Act.put, Array.getInternal_eq_getElem, List.getElem_toArray, List.getElem_cons_zero, List.getElem_cons_succ, List.setIfInBounds_toArray, List.set_cons_zero, List.set_cons_succ]
  refine wpAnyH_ready (rs := [5]) (by kernel_rfl) (by simp) ?_
  refine AllReadyH.cons rfl (fun K hK => ?_) AllReadyH.nil
  (rw [if_pos (by kernel_rfl)]; go_simp; go_at_call 12; refine (HRB.out _ K1.out).mono ?_; rintro e u2 ⟨rfl, k2⟩; have K2 := Lib.hid (Keeps.trans (S := fun _ => False) K1.out (k2 _)); clear k2)
  refine hK.out _ _ (HCL.out _ K2.out) (fun hHeld => ?_)
  clear hK K
  try simp only [Act.put, Array.getInternal_eq_getElem, List.getElem_toArray, List.getElem_cons_zero, List.getElem_cons_succ, List.setIfInBounds_toArray, List.set_cons_zero, List.set_cons_succ]
  refine wpAnyH_take (i := 6) (v := ?_) rfl (by kernel_rfl) (by kernel_rfl) (by kernel_rfl) (fun _ _ _ h => h) (Or.inl ⟨by kernel_rfl, ?_⟩) (by assumption) ?_
  rotate_left
  · (intro w hSw; (try dsimp only at hSw); go_simp) <;> (try (with_reducible rfl))
  try simp only [Act.put, Array.getInternal_eq_getElem, List.getElem_toArray, List.getElem_cons_zero, List.getElem_cons_succ, List.setIfInBounds_toArray, List.set_cons_zero, List.set_cons_succ]
  refine wpAnyH_take (i := 7) (v := ?_) rfl (by kernel_rfl) (by kernel_rfl) (by kernel_rfl) (fun _ _ _ h => h) (Or.inl ⟨by kernel_rfl, ?_⟩) (by assumption) ?_
  rotate_left
  · (intro w hSw; (try dsimp only at hSw); go_simp) <;> (try (with_reducible rfl))
  try simp only [Act.put, Array.getInternal_eq_getElem, List.getElem_toArray, List.getElem_cons_zero, List.getElem_cons_succ, List.setIfInBounds_toArray, List.set_cons_zero, List.set_cons_succ]
  refine' wpAnyH_take (i := 8) (v := _) rfl (by kernel_rfl) (by kernel_rfl) (by kernel_rfl) (fun _ _ _ h => h) (yieldsIf_load_mid (by kernel_rfl) _ _ rfl _ _ rfl _ _ (fun w hSw => hSw.1) Try.underlying29 rfl HSZ.out) (by assumption) ?_
  try simp only [Act.put, Array.getInternal_eq_getElem, List.getElem_toArray, List.getElem_cons_zero, List.getElem_cons_succ, List.setIfInBounds_toArray, List.set_cons_zero, List.set_cons_succ]
  refine' wpAnyH_take (i := 9) (v := _) rfl (by kernel_rfl) (by kernel_rfl) (by kernel_rfl) (fun _ _ _ h => h) (yieldsIf_load_mid (by kernel_rfl) _ _ rfl _ _ rfl _ _ (fun w hSw => hSw.1) Try.underlying29 rfl HSZ.out) (by assumption) ?_
  try simp only [Act.put, Array.getInternal_eq_getElem, List.getElem_toArray, List.getElem_cons_zero, List.getElem_cons_succ, List.setIfInBounds_toArray, List.set_cons_zero, List.set_cons_succ]
  refine wpAnyH_ready (rs := [10]) (by kernel_rfl) (by simp) ?_
  refine AllReadyH.cons rfl (fun K hK => ?_) AllReadyH.nil
  (rw [if_pos (by kernel_rfl)]; go_simp; go_at_call 11; refine (HAA.out _ K2.out).mono ?_; rintro e u3 ⟨rfl, k3⟩; have K3 := Lib.hid (Keeps.trans (S := fun _ => False) K2.out (k3 _)); clear k3)
  refine hK.out _ _ (HCL.out _ K3.out) (fun hHeld => ?_)
  clear hK K
  try simp only [Act.put, Array.getInternal_eq_getElem, List.getElem_toArray, List.getElem_cons_zero, List.getElem_cons_succ, List.setIfInBounds_toArray, List.set_cons_zero, List.set_cons_succ]
  refine wpAnyH_take (i := 11) (v := ?_) rfl (by kernel_rfl) (by kernel_rfl) (by kernel_rfl) (fun _ _ _ h => h) (Or.inl ⟨by kernel_rfl, ?_⟩) (by assumption) ?_
  rotate_left
  · (intro w hSw; (try dsimp only at hSw); go_simp) <;> (try (with_reducible rfl))
  try simp only [Act.put, Array.getInternal_eq_getElem, List.getElem_toArray, List.getElem_cons_zero, List.getElem_cons_succ, List.setIfInBounds_toArray, List.set_cons_zero, List.set_cons_succ]
  refine wpAnyH_take (i := 12) (v := ?_) rfl (by kernel_rfl) (by kernel_rfl) (by kernel_rfl) (fun _ _ _ h => h) (Or.inl ⟨by kernel_rfl, ?_⟩) (by assumption) ?_
  rotate_left
  · (intro w hSw; (try dsimp only at hSw); go_simp) <;> (try (with_reducible rfl))
  try simp only [Act.put, Array.getInternal_eq_getElem, List.getElem_toArray, List.getElem_cons_zero, List.getElem_cons_succ, List.setIfInBounds_toArray, List.set_cons_zero, List.set_cons_succ]
  refine' wpAnyH_take (i := 13) (v := _) rfl (by kernel_rfl) (by kernel_rfl) (by kernel_rfl) (fun _ _ _ h => h) (yieldsIf_load_mid (by kernel_rfl) _ _ rfl _ _ rfl _ _ (fun w hSw => hSw.1) Try.underlying29 rfl HSZ.out) (by assumption) ?_
  try simp only [Act.put, Array.getInternal_eq_getElem, List.getElem_toArray, List.getElem_cons_zero, List.getElem_cons_succ, List.setIfInBounds_toArray, List.set_cons_zero, List.set_cons_succ]
  refine' wpAnyH_take (i := 14) (v := _) rfl (by kernel_rfl) (by kernel_rfl) (by kernel_rfl) (fun _ _ _ h => h) (yieldsIf_load_mid (by kernel_rfl) _ _ rfl _ _ rfl _ _ (fun w hSw => hSw.2.2) Try.underlying29 rfl HSC.out) (by assumption) ?_
  try simp only [Act.put, Array.getInternal_eq_getElem, List.getElem_toArray, List.getElem_cons_zero, List.getElem_cons_succ, List.setIfInBounds_toArray, List.set_cons_zero, List.set_cons_succ]
  refine wpAnyH_ready (rs := [15]) (by kernel_rfl) (by simp) ?_
  refine AllReadyH.cons rfl (fun K hK => ?_) AllReadyH.nil
  (rw [if_pos (by kernel_rfl)]; go_simp; go_at_call 11; refine (HAC.out _ K3.out).mono ?_; rintro e u4 ⟨rfl, k4⟩; have K4 := Lib.hid (Keeps.trans (S := fun _ => False) K3.out (k4 _)); clear k4)
  refine hK.out _ _ (HCL.out _ K4.out) (fun hHeld => ?_)
  clear hK K
  try simp only [Act.put, Array.getInternal_eq_getElem, List.getElem_toArray, List.getElem_cons_zero, List.getElem_cons_succ, List.setIfInBounds_toArray, List.set_cons_zero, List.set_cons_succ]
  refine wpAnyH_take (i := 16) (v := ?_) rfl (by kernel_rfl) (by kernel_rfl) (by kernel_rfl) (fun _ _ _ h => h) (Or.inl ⟨by kernel_rfl, ?_⟩) (by assumption) ?_
  rotate_left
  · (intro w hSw; (try dsimp only at hSw); go_simp) <;> (try (with_reducible rfl))
  try simp only [Act.put, Array.getInternal_eq_getElem, List.getElem_toArray, List.getElem_cons_zero, List.getElem_cons_succ, List.setIfInBounds_toArray, List.set_cons_zero, List.set_cons_succ]
  refine wpAnyH_take (i := 17) (v := ?_) rfl (by kernel_rfl) (by kernel_rfl) (by kernel_rfl) (fun _ _ _ h => h) (Or.inl ⟨by kernel_rfl, ?_⟩) (by assumption) ?_
  rotate_left
  · (intro w hSw; (try dsimp only at hSw); go_simp) <;> (try (with_reducible rfl))
  try simp only [Act.put, Array.getInternal_eq_getElem, List.getElem_toArray, List.getElem_cons_zero, List.getElem_cons_succ, List.setIfInBounds_toArray, List.set_cons_zero, List.set_cons_succ]
  refine wpAnyH_take (i := 18) (v := ?_) rfl (by kernel_rfl) (by kernel_rfl) (by kernel_rfl) (fun _ _ _ h => h) (Or.inl ⟨by kernel_rfl, ?_⟩) (by assumption) ?_
  rotate_left
  · (intro w hSw; (try dsimp only at hSw); go_simp) <;> (try (with_reducible rfl))
  try simp only [Act.put, Array.getInternal_eq_getElem, List.getElem_toArray, List.getElem_cons_zero, List.getElem_cons_succ, List.setIfInBounds_toArray, List.set_cons_zero, List.set_cons_succ]
  refine' wpAnyH_take (i := 19) (v := _) rfl (by kernel_rfl) (by kernel_rfl) (by kernel_rfl) (fun _ _ _ h => h) (yieldsIf_load_mid (by kernel_rfl) _ _ rfl _ _ rfl _ _ (fun w hSw => hSw.2.2) Try.underlying29 rfl HSC.out) (by assumption) ?_
  try simp only [Act.put, Array.getInternal_eq_getElem, List.getElem_toArray, List.getElem_cons_zero, List.getElem_cons_succ, List.setIfInBounds_toArray, List.set_cons_zero, List.set_cons_succ]
  refine' wpAnyH_take (i := 20) (v := _) rfl (by kernel_rfl) (by kernel_rfl) (by kernel_rfl) (fun _ _ _ h => h) (yieldsIf_load_mid (by kernel_rfl) _ _ rfl _ _ rfl _ _ (fun w hSw => hSw.1) Try.underlying29 rfl HSZ.out) (by assumption) ?_
  try simp only [Act.put, Array.getInternal_eq_getElem, List.getElem_toArray, List.getElem_cons_zero, List.getElem_cons_succ, List.setIfInBounds_toArray, List.set_cons_zero, List.set_cons_succ]
  refine wpAnyH_ready (rs := [21]) (by kernel_rfl) (by simp) ?_
  refine AllReadyH.cons rfl (fun K hK => ?_) AllReadyH.nil
  (rw [if_pos (by kernel_rfl)]; go_simp; go_at_call 11; refine (HCC.out _ K4.out).mono ?_; rintro e u5 ⟨rfl, k5⟩; have K5 := Lib.hid (Keeps.trans (S := fun _ => False) K4.out (k5 _)); clear k5)
  refine hK.out _ _ (HCL.out _ K5.out) (fun hHeld => ?_)
  clear hK K
  try simp only [Act.put, Array.getInternal_eq_getElem, List.getElem_toArray, List.getElem_cons_zero, List.getElem_cons_succ, List.setIfInBounds_toArray, List.set_cons_zero, List.set_cons_succ]
  refine wpAnyH_take (i := 22) (v := ?_) rfl (by kernel_rfl) (by kernel_rfl) (by kernel_rfl) (fun _ _ _ h => h) (Or.inl ⟨by kernel_rfl, ?_⟩) (by assumption) ?_
  rotate_left
  · (intro w hSw; (try dsimp only at hSw); go_simp) <;> (try (with_reducible rfl))
  try simp only [Act.put, Array.getInternal_eq_getElem, List.getElem_toArray, List.getElem_cons_zero, List.getElem_cons_succ, List.setIfInBounds_toArray, List.set_cons_zero, List.set_cons_succ]
  refine wpAnyH_take (i := 23) (v := ?_) rfl (by kernel_rfl) (by kernel_rfl) (by kernel_rfl) (fun _ _ _ h => h) (Or.inl ⟨by kernel_rfl, ?_⟩) (by assumption) ?_
  rotate_left
  · (intro w hSw; (try dsimp only at hSw); go_simp) <;> (try (with_reducible rfl))
  try simp only [Act.put, Array.getInternal_eq_getElem, List.getElem_toArray, List.getElem_cons_zero, List.getElem_cons_succ, List.setIfInBounds_toArray, List.set_cons_zero, List.set_cons_succ]
  refine wpAnyH_take (i := 24) (v := ?_) rfl (by kernel_rfl) (by kernel_rfl) (by kernel_rfl) (fun _ _ _ h => h) (Or.inl ⟨by kernel_rfl, ?_⟩) (by assumption) ?_
  rotate_left
  · (intro w hSw; (try dsimp only at hSw); go_simp) <;> (try (with_reducible rfl))
  try simp only [Act.put, Array.getInternal_eq_getElem, List.getElem_toArray, List.getElem_cons_zero, List.getElem_cons_succ, List.setIfInBounds_toArray, List.set_cons_zero, List.set_cons_succ]
  refine wpAnyH_ready (rs := [25]) (by kernel_rfl) (by simp) ?_
  refine AllReadyH.cons rfl (fun K hK => ?_) AllReadyH.nil
  (rw [if_pos (by kernel_rfl)]; go_simp; go_at_call 13; refine (works_ _).mono ?_; rintro e u6 ⟨rfl, k6⟩; have K6 := Lib.hid (Keeps.trans (S := fun _ => False) K5.out (k6 _)); clear k6)
  refine hK.out _ _ (HCL.out _ K6.out) (fun hHeld => ?_)
  clear hK K
  try simp only [Act.put, Array.getInternal_eq_getElem, List.getElem_toArray, List.getElem_cons_zero, List.getElem_cons_succ, List.setIfInBounds_toArray, List.set_cons_zero, List.set_cons_succ]
  refine wpAnyH_take (i := 26) (v := ?_) rfl (by kernel_rfl) (by kernel_rfl) (by kernel_rfl) (fun _ _ _ h => h) (Or.inl ⟨by kernel_rfl, ?_⟩) (by assumption) ?_
  rotate_left
  · (intro w hSw; (try dsimp only at hSw); go_simp) <;> (try (with_reducible rfl))
  try simp only [Act.put, Array.getInternal_eq_getElem, List.getElem_toArray, List.getElem_cons_zero, List.getElem_cons_succ, List.setIfInBounds_toArray, List.set_cons_zero, List.set_cons_succ]
  refine wpAnyH_take (i := 27) (v := ?_) rfl (by kernel_rfl) (by kernel_rfl) (by kernel_rfl) (fun _ _ _ h => h) (Or.inl ⟨by kernel_rfl, ?_⟩) (by assumption) ?_
  rotate_left
  · (intro w hSw; (try dsimp only at hSw); go_simp) <;> (try (with_reducible rfl))
  try simp only [Act.put, Array.getInternal_eq_getElem, List.getElem_toArray, List.getElem_cons_zero, List.getElem_cons_succ, List.setIfInBounds_toArray, List.set_cons_zero, List.set_cons_succ]
  refine wpAnyH_done ?_ ?_ _
  · kernel_rfl
  go_wp2_with fail
  try rw [Exit.noGoto_ret]
  go_ret
  exact ⟨rfl, fun S => (KW6.out S).trans (K6.out.mono (fun _ _ z => z.elim))⟩
set_option maxRecDepth 100000 in
set_option maxHeartbeats 4000000 in
theorem psl_5 (a b : Hd) (ha : a.Wf) (hb : b.Wf) (A A2 : Option Addr) (n n2 c c2 : Nat) (hl : a.dat.length = n) (hl2 : b.dat.length = n2) (hn : n ≤ 140737488351232) (hr : Rd w w.heap.size A (by_ a.dat)) (hr2 : Rd w w.heap.size A2 (by_ b.dat)) (f : Int) (hf1 : -9223372036854775808 ≤ f) (hf2 : f ≤ 9223372036854775807) (hq : Int.tmod (Int.tmod f 11 + 11) 11 = 5) :
    Calls Try.prog 3 #[hvv a (.slice A n c), hvv b (.slice A2 n2 c2), .int .i64 f] w fun e w' => e = .returned (.bool true) ∧ ∀ S, Keeps S w w' := by
  obtain ⟨w1, hw1, k1, bA, bB, s1⟩ := box2 w (hcs a (.slice A n c)) (hcs b (.slice A2 n2 c2)) 29 29
  obtain ⟨wz, hwz, kz, bz, sz⟩ := box1 w1 zhd 29
  dsimp only [zhd] at hwz
  obtain ⟨t2, b2, k2⟩ := p_store bz (cs := hcs a (.slice A n c)) (by rw [hcs_len ha]; rfl)
  obtain ⟨w2, hw2⟩ : ∃ w2, w2 = wz.setCells w1.heap.size 0 (hcs a (.slice A n c)) := ⟨_, rfl⟩
  rw [← hw2] at b2 k2
  have k12 : ∀ S, Keeps S w1 w2 := keeps_own kz k2 (Nat.le_refl _)
  obtain ⟨w3, hw3, k3, b3, s3⟩ := box1 w2 [] 5
  have s2 : w1.heap.size + 1 ≤ w2.heap.size := by have := k2.size; omega
  have y3 : By w2 w3 (.slice (some ⟨w2.heap.size, 0, none⟩) 0 0) [] := By.of_blk b3 rfl (Nat.le_refl _) (by omega) k3
  have r3 := rd_old hr (((k1 (fun _ => False)).trans (k12 _)).trans (k3 _))
  obtain ⟨r, hrm⟩ : ∃ r, Int.tmod f 11 = r := ⟨_, rfl⟩
  have hrb := tmod11 f
  rw [hrm] at hrb hq
  have r1 := hrb.1
  have r2 := hrb.2
  have x42 : w3.cell? ⟨w.heap.size, 42, none⟩ = some (.slice A n c) := (HF.of_blk ha (Blk.keeps bA ((k12 (fun _ => False)).trans (k3 _)) (fun z => z))).dat
  have HWA := Lib.hid ha
  have HWB := Lib.hid hb
  have HY3 := Lib.hid y3
  have HR3 := Lib.hid r3
  have HLL := Lib.hid (And.intro hl hl2)
  have HRR := Lib.hid (And.intro hr hr2)
  have HN := Lib.hid hn
  have HKK := Lib.hid (And.intro k1 (And.intro k12 k3))
  have HBA := Lib.hid bA
  have HBB := Lib.hid bB
  have HB2 := Lib.hid b2
  have HT2 := Lib.hid t2
  have HS := Lib.hid (And.intro s1 s2)
  have HSZ : Hid ((Try.prog.info? 29).map (·.size) = some (hcs a (.slice A n c)).length) := Lib.hid (hd_sz ha _)
  have HSO := Lib.hid (all_oneCell_toArray (hcs_one (h := a) (v := .slice A n c) rfl))
  have HW1 := Lib.hid hw1
  have HWZ := Lib.hid hwz
  have HW2 := Lib.hid hw2
  replace hw3 : w3 = w2.alloc (.cells #[] 5) := hw3
  rw [hw3] at x42
  have HW3 := Lib.hid hw3
  unfold hvv
  clear hw1 k1 bA bB s1 hwz kz bz sz t2 b2 k2 hw2 k12 hw3 k3 b3 s3 s2 y3 r3 hrb ha hb hl hl2 hr hr2
  generalize hCA : hcs a (.slice A n c) = CA at *
  generalize hCB : hcs b (.slice A2 n2 c2) = CB at *
  have HCA := Lib.hid hCA
  have HCB := Lib.hid hCB
  clear hCA hCB
  go_enter Try.func3, Try.ntmps3
  go_wp2_with (first
    | ((with_reducible show wpList _ _ _ (⟨some 8, _, _, _, _, _⟩ :: _) _ _); (try rw [← HW1.out]); refine wpList_load_mid rfl 29 _ rfl w.heap.size 0 rfl CA _ (Blk.range HBA.out) Try.underlying29 rfl HSZ.out ?_)
    | ((with_reducible show wpList _ _ _ (⟨none, .store _ (.tmp 7) _, _, _, _, _⟩ :: _) _ _); (try rw [← HWZ.out]); refine' wpList_store_mid rfl 29 _ _ rfl w1.heap.size 0 (CA).toArray ?hx rfl ?ht HSZ.out HSO.out ?_; (case hx => rfl); (case ht => exact HT2.out); rw [← HW2.out])
    | ((with_reducible show wpList _ _ _ (⟨some 12, _, _, _, _, _⟩ :: _) _ _); (try rw [← HW3.out]); refine By.wpList_append rfl _ _ rfl HY3.out rfl A n c _ a.dat rfl HLL.out.1 HR3.out (by have := HN.out; simp; omega) ?_; intro v4 w4 y4 k4; clear k4; have ya := y4; obtain ⟨A4, c4, rfl, r4⟩ := ya.rd; rw [List.nil_append] at ya r4 ⊢; rw [HLL.out.1] at ya ⊢; have h1 := HWA.out.s; have h2 := HWA.out.d; have g4 := Blk.keeps HB2.out (ya.keep (fun _ => False)) (fun z => z); rw [← HCA.out] at g4; have c42 : w4.cell? ⟨w1.heap.size, 42, none⟩ = some _ := h_cell g4 h1 h2 8 _ rfl; have f42 : w4.frozen? ⟨w1.heap.size, 42, none⟩ = false := g4.frozen 42; have g5 := st_dat g4 h1 h2 (.slice A4 n c4) a.dat; have p5 := keeps_put (G := w1.heap.size) (Keeps.refl _ w4) 42 (.slice A4 n c4); obtain ⟨x, hx⟩ : ∃ x, x = (a.ttl + 1) % 256 := ⟨_, rfl⟩; have hxi : IntKind.u8.wrap ((a.ttl : Int) + 1) = (x : Int) := (by rw [IntKind.wrap_u8]; omega); have hxi2 : ((a.ttl : Int) + 1) % 256 = (x : Int) := (by omega); have HX := Lib.hid hx; clear hx; have cx : (w4.setCell ⟨w1.heap.size, 42, none⟩ (.slice A4 n c4)).cell? ⟨w1.heap.size, 37, none⟩ = some _ := h_cell g5 h1 h2 3 _ rfl; have fx : (w4.setCell ⟨w1.heap.size, 42, none⟩ (.slice A4 n c4)).frozen? ⟨w1.heap.size, 37, none⟩ = false := g5.frozen 37; have g6 := st_ttl g5 h1 h2 x; have p6 := keeps_put p5 37 (.int .u8 (x : Int))))
  --@E
  obtain ⟨w6, hw6⟩ : ∃ w6, w6 = (w4.setCell ⟨w1.heap.size, 42, none⟩ (.slice A4 n c4)).setCell ⟨w1.heap.size, 37, none⟩ (.int .u8 (x : Int)) := ⟨_, rfl⟩
  rw [← hw6]
  rw [← hw6] at g6 p6
  have gC : Blk w6 w1.heap.size 29 (hcs (⟨a.src, a.dst, a.pr, a.sp, a.dp, x, a.cls, a.id, a.fl, a.seq, a.dat⟩ : Hd) (.slice A4 n c4)) := g6
  have hch : (⟨a.src, a.dst, a.pr, a.sp, a.dp, x, a.cls, a.id, a.fl, a.seq, a.dat⟩ : Hd).Wf := ⟨HWA.out.s, HWA.out.d, HWA.out.p, HWA.out.sl, HWA.out.dl, (by have := HX.out; show x < _; omega), HWA.out.c, HWA.out.i, HWA.out.f, HWA.out.q, HWA.out.b⟩
  have hne : ¬ a = (⟨a.src, a.dst, a.pr, a.sp, a.dp, x, a.cls, a.id, a.fl, a.seq, a.dat⟩ : Hd) := fun e => by have h3 : a.ttl = x := congrArg Hd.ttl e; have := HX.out; have := HWA.out.t; omega
  have hdl : (⟨a.src, a.dst, a.pr, a.sp, a.dp, x, a.cls, a.id, a.fl, a.seq, a.dat⟩ : Hd).dat.length = n := HLL.out.1
  have s1 := HS.out.1
  have s2 := HS.out.2
  have k16 : ∀ S, Keeps S w1 w6 := keeps_own (fun S => (HKK.out.2.1 S).trans (ya.keep S)) p6 (Nat.le_refl _)
  have kw6 : ∀ S, Keeps S w w6 := fun S => (HKK.out.1 S).trans (k16 S)
  have gA := Blk.keeps HBA.out (k16 (fun _ => False)) (fun z => z)
  have gB := Blk.keeps HBB.out (k16 (fun _ => False)) (fun z => z)
  have rC : Rd w6 w6.heap.size A4 (by_ (⟨a.src, a.dst, a.pr, a.sp, a.dp, x, a.cls, a.id, a.fl, a.seq, a.dat⟩ : Hd).dat) := (by obtain ⟨A9, c9, h9, r9⟩ := (past_ (By.base (w := w1) ya HKK.out.2.1) p6 (Nat.le_refl _) (ya.apart (by omega))).rd; injection h9 with e1 _ _; subst e1; exact r9)
  have KW6 := Lib.hid kw6
  have HCL : Hid (∀ wq, Keeps (fun _ => False) w6 wq → wq.rangeAt w.heap.size 0 CA ∧ wq.rangeAt (w.heap.size + 1) 0 CB ∧ wq.rangeAt w1.heap.size 0 (hcs (⟨a.src, a.dst, a.pr, a.sp, a.dp, x, a.cls, a.id, a.fl, a.seq, a.dat⟩ : Hd) (.slice A4 n c4))) := Lib.hid (fun wq kq => ⟨Blk.range (Blk.keeps gA kq (fun z => z)), Blk.range (Blk.keeps gB kq (fun z => z)), Blk.range (Blk.keeps gC kq (fun z => z))⟩)
  have ra : ∀ u, Keeps (fun _ => False) w6 u → Rd u u.heap.size A (by_ a.dat) := fun u hu => (rd_old HRR.out.1 ((kw6 _).trans hu)).more ((kw6 (fun _ => False)).trans hu).size
  have rb : ∀ u, Keeps (fun _ => False) w6 u → Rd u u.heap.size A2 (by_ b.dat) := fun u hu => (rd_old HRR.out.2 ((kw6 _).trans hu)).more ((kw6 (fun _ => False)).trans hu).size
  have rc : ∀ u, Keeps (fun _ => False) w6 u → Rd u u.heap.size A4 (by_ (⟨a.src, a.dst, a.pr, a.sp, a.dp, x, a.cls, a.id, a.fl, a.seq, a.dat⟩ : Hd).dat) := fun u hu => (rd_old rC hu).more hu.size
  have HAB : Hid (∀ u, Keeps (fun _ => False) w6 u → Calls Try.prog 11 #[.agg CA.toArray, .agg CB.toArray] u fun e w' => e = .returned (.bool (sameH a b)) ∧ ∀ S, Keeps S u w') := Lib.hid (fun u hu => by rw [← HCA.out, ← HCB.out]; exact psame2_ u a b HWA.out HWB.out A A2 n n2 c c2 HLL.out.1 HLL.out.2 (ra u hu) (rb u hu))
  have HRB : Hid (∀ u, Keeps (fun _ => False) w6 u → Calls Try.prog 12 #[.agg CA.toArray, .agg CB.toArray] u fun e w' => e = .returned (.bool (sameH a b)) ∧ ∀ S, Keeps S u w') := Lib.hid (fun u hu => by rw [← HCA.out, ← HCB.out]; exact rsame_ u a b HWA.out HWB.out A A2 n n2 c c2 HLL.out.1 HLL.out.2 (by have := HN.out; omega) (ra u hu) (rb u hu))
  have HAA : Hid (∀ u, Keeps (fun _ => False) w6 u → Calls Try.prog 11 #[.agg CA.toArray, .agg CA.toArray] u fun e w' => e = .returned (.bool true) ∧ ∀ S, Keeps S u w') := Lib.hid (fun u hu => by rw [← HCA.out]; have := psame2_ u a a HWA.out HWA.out A A n n c c HLL.out.1 HLL.out.1 (ra u hu) (ra u hu); rw [same_yes rfl] at this; exact this)
  have HAC : Hid (∀ u, Keeps (fun _ => False) w6 u → Calls Try.prog 11 #[.agg CA.toArray, .agg (hcs (⟨a.src, a.dst, a.pr, a.sp, a.dp, x, a.cls, a.id, a.fl, a.seq, a.dat⟩ : Hd) (.slice A4 n c4)).toArray] u fun e w' => e = .returned (.bool false) ∧ ∀ S, Keeps S u w') := Lib.hid (fun u hu => by rw [← HCA.out]; have := psame2_ u a (⟨a.src, a.dst, a.pr, a.sp, a.dp, x, a.cls, a.id, a.fl, a.seq, a.dat⟩ : Hd) HWA.out hch A A4 n n c c4 HLL.out.1 hdl (ra u hu) (rc u hu); rw [same_no hne] at this; exact this)
  have HCC : Hid (∀ u, Keeps (fun _ => False) w6 u → Calls Try.prog 11 #[.agg (hcs (⟨a.src, a.dst, a.pr, a.sp, a.dp, x, a.cls, a.id, a.fl, a.seq, a.dat⟩ : Hd) (.slice A4 n c4)).toArray, .agg CA.toArray] u fun e w' => e = .returned (.bool false) ∧ ∀ S, Keeps S u w') := Lib.hid (fun u hu => by rw [← HCA.out]; have := psame2_ u (⟨a.src, a.dst, a.pr, a.sp, a.dp, x, a.cls, a.id, a.fl, a.seq, a.dat⟩ : Hd) a hch HWA.out A4 A n n c4 c hdl HLL.out.1 (rc u hu) (ra u hu); rw [same_no (fun e => hne e.symm)] at this; exact this)
  have HSC : Hid ((Try.prog.info? 29).map (·.size) = some (hcs (⟨a.src, a.dst, a.pr, a.sp, a.dp, x, a.cls, a.id, a.fl, a.seq, a.dat⟩ : Hd) (.slice A4 n c4)).length) := Lib.hid (hd_sz hch _)
  have HSB : Hid ((Try.prog.info? 29).map (·.size) = some CB.length) := Lib.hid (by rw [← HCB.out]; exact hd_sz HWB.out _)
  clear hw6 g6 p6 gC hch hne hdl s1 s2 k16 kw6 gA gB rC ra rb rc ya r4 h1 h2 g4 c42 f42 g5 p5 cx fx hxi hxi2
  generalize hcs (⟨a.src, a.dst, a.pr, a.sp, a.dp, x, a.cls, a.id, a.fl, a.seq, a.dat⟩ : Hd) (.slice A4 n c4) = CC at *
  obtain ⟨z, hz⟩ : ∃ z, z = sameH a b := ⟨_, rfl⟩
  rw [← hz] at HAB HRB
  clear hz
  have hzz : (z == z) = true := beq_self_eq_true z
  go_wp2_with fail
  --@25
  refine wp_region_held_drew (S := fun w' => w'.rangeAt w.heap.size 0 CA ∧ w'.rangeAt (w.heap.size + 1) 0 CB ∧ w'.rangeAt w1.heap.size 0 CC) (by kernel_rfl) (HCL.out _ ((Keeps.refl _ w6).drew)) (fun hHeld => ?_)
  refine' wpAnyH_take (i := 0) (v := _) rfl (by kernel_rfl) (by kernel_rfl) (by kernel_rfl) (fun _ _ _ h => h) (yieldsIf_load_mid (by kernel_rfl) _ _ rfl _ _ rfl _ _ (fun w hSw => hSw.1) Try.underlying29 rfl HSZ.out) (by assumption) ?_
  try simp only [Act.put, Array.getInternal_eq_getElem, List.getElem_toArray, List.getElem_cons_zero, List.getElem_cons_succ, List.setIfInBounds_toArray, List.set_cons_zero, List.set_cons_succ]
  refine' wpAnyH_take (i := 1) (v := _) rfl (by kernel_rfl) (by kernel_rfl) (by kernel_rfl) (fun _ _ _ h => h) (yieldsIf_load_mid (by kernel_rfl) _ _ rfl _ _ rfl _ _ (fun w hSw => hSw.2.1) Try.underlying29 rfl HSB.out) (by assumption) ?_
  try simp only [Act.put, Array.getInternal_eq_getElem, List.getElem_toArray, List.getElem_cons_zero, List.getElem_cons_succ, List.setIfInBounds_toArray, List.set_cons_zero, List.set_cons_succ]
  refine' wpAnyH_take (i := 3) (v := _) rfl (by kernel_rfl) (by kernel_rfl) (by kernel_rfl) (fun _ _ _ h => h) (yieldsIf_load_mid (by kernel_rfl) _ _ rfl _ _ rfl _ _ (fun w hSw => hSw.1) Try.underlying29 rfl HSZ.out) (by assumption) ?_
  try simp only [Act.put, Array.getInternal_eq_getElem, List.getElem_toArray, List.getElem_cons_zero, List.getElem_cons_succ, List.setIfInBounds_toArray, List.set_cons_zero, List.set_cons_succ]
  refine' wpAnyH_take (i := 4) (v := _) rfl (by kernel_rfl) (by kernel_rfl) (by kernel_rfl) (fun _ _ _ h => h) (yieldsIf_load_mid (by kernel_rfl) _ _ rfl _ _ rfl _ _ (fun w hSw => hSw.2.1) Try.underlying29 rfl HSB.out) (by assumption) ?_
  try simp only [Act.put, Array.getInternal_eq_getElem, List.getElem_toArray, List.getElem_cons_zero, List.getElem_cons_succ, List.setIfInBounds_toArray, List.set_cons_zero, List.set_cons_succ]
  refine wpAnyH_ready (rs := [2]) (by kernel_rfl) (by simp) ?_
  refine AllReadyH.cons rfl (fun K hK => ?_) AllReadyH.nil
  (rw [if_pos (by kernel_rfl)]; go_simp; go_at_call 11; refine (HAB.out _ ((Keeps.refl _ w6).drew)).mono ?_; rintro e u1 ⟨rfl, k1⟩; have K1 := Lib.hid (Keeps.trans (S := fun _ => False) ((Keeps.refl _ w6).drew) (k1 _)); clear k1)
  refine hK.out _ _ (HCL.out _ K1.out) (fun hHeld => ?_)
  clear hK K
  try simp only [Act.put, Array.getInternal_eq_getElem, List.getElem_toArray, List.getElem_cons_zero, List.getElem_cons_succ, List.setIfInBounds_toArray, List.set_cons_zero, List.set_cons_succ]
  refine wpAnyH_ready (rs := [5]) (by kernel_rfl) (by simp) ?_
  refine AllReadyH.cons rfl (fun K hK => ?_) AllReadyH.nil
  (rw [if_pos (by kernel_rfl)]; go_simp; go_at_call 12; refine (HRB.out _ K1.out).mono ?_; rintro e u2 ⟨rfl, k2⟩; have K2 := Lib.hid (Keeps.trans (S := fun _ => False) K1.out (k2 _)); clear k2)
  refine hK.out _ _ (HCL.out _ K2.out) (fun hHeld => ?_)
  clear hK K
  try simp only [Act.put, Array.getInternal_eq_getElem, List.getElem_toArray, List.getElem_cons_zero, List.getElem_cons_succ, List.setIfInBounds_toArray, List.set_cons_zero, List.set_cons_succ]
  refine wpAnyH_take (i := 6) (v := ?_) rfl (by kernel_rfl) (by kernel_rfl) (by kernel_rfl) (fun _ _ _ h => h) (Or.inl ⟨by kernel_rfl, ?_⟩) (by assumption) ?_
  rotate_left
  · (intro w hSw; (try dsimp only at hSw); go_simp) <;> (try (with_reducible rfl))
  try simp only [Act.put, Array.getInternal_eq_getElem, List.getElem_toArray, List.getElem_cons_zero, List.getElem_cons_succ, List.setIfInBounds_toArray, List.set_cons_zero, List.set_cons_succ]
  refine wpAnyH_take (i := 7) (v := ?_) rfl (by kernel_rfl) (by kernel_rfl) (by kernel_rfl) (fun _ _ _ h => h) (Or.inl ⟨by kernel_rfl, ?_⟩) (by assumption) ?_
  rotate_left
  · (intro w hSw; (try dsimp only at hSw); go_simp) <;> (try (with_reducible rfl))
  try simp only [Act.put, Array.getInternal_eq_getElem, List.getElem_toArray, List.getElem_cons_zero, List.getElem_cons_succ, List.setIfInBounds_toArray, List.set_cons_zero, List.set_cons_succ]
  refine' wpAnyH_take (i := 8) (v := _) rfl (by kernel_rfl) (by kernel_rfl) (by kernel_rfl) (fun _ _ _ h => h) (yieldsIf_load_mid (by kernel_rfl) _ _ rfl _ _ rfl _ _ (fun w hSw => hSw.1) Try.underlying29 rfl HSZ.out) (by assumption) ?_
  try simp only [Act.put, Array.getInternal_eq_getElem, List.getElem_toArray, List.getElem_cons_zero, List.getElem_cons_succ, List.setIfInBounds_toArray, List.set_cons_zero, List.set_cons_succ]
  refine' wpAnyH_take (i := 9) (v := _) rfl (by kernel_rfl) (by kernel_rfl) (by kernel_rfl) (fun _ _ _ h => h) (yieldsIf_load_mid (by kernel_rfl) _ _ rfl _ _ rfl _ _ (fun w hSw => hSw.1) Try.underlying29 rfl HSZ.out) (by assumption) ?_
  try simp only [Act.put, Array.getInternal_eq_getElem, List.getElem_toArray, List.getElem_cons_zero, List.getElem_cons_succ, List.setIfInBounds_toArray, List.set_cons_zero, List.set_cons_succ]
  refine wpAnyH_ready (rs := [10]) (by kernel_rfl) (by simp) ?_
  refine AllReadyH.cons rfl (fun K hK => ?_) AllReadyH.nil
  (rw [if_pos (by kernel_rfl)]; go_simp; go_at_call 11; refine (HAA.out _ K2.out).mono ?_; rintro e u3 ⟨rfl, k3⟩; have K3 := Lib.hid (Keeps.trans (S := fun _ => False) K2.out (k3 _)); clear k3)
  refine hK.out _ _ (HCL.out _ K3.out) (fun hHeld => ?_)
  clear hK K
  try simp only [Act.put, Array.getInternal_eq_getElem, List.getElem_toArray, List.getElem_cons_zero, List.getElem_cons_succ, List.setIfInBounds_toArray, List.set_cons_zero, List.set_cons_succ]
  refine wpAnyH_take (i := 11) (v := ?_) rfl (by kernel_rfl) (by kernel_rfl) (by kernel_rfl) (fun _ _ _ h => h) (Or.inl ⟨by kernel_rfl, ?_⟩) (by assumption) ?_
  rotate_left
  · (intro w hSw; (try dsimp only at hSw); go_simp) <;> (try (with_reducible rfl))
  try simp only [Act.put, Array.getInternal_eq_getElem, List.getElem_toArray, List.getElem_cons_zero, List.getElem_cons_succ, List.setIfInBounds_toArray, List.set_cons_zero, List.set_cons_succ]
  refine wpAnyH_take (i := 12) (v := ?_) rfl (by kernel_rfl) (by kernel_rfl) (by kernel_rfl) (fun _ _ _ h => h) (Or.inl ⟨by kernel_rfl, ?_⟩) (by assumption) ?_
  rotate_left
  · (intro w hSw; (try dsimp only at hSw); go_simp) <;> (try (with_reducible rfl))
  try simp only [Act.put, Array.getInternal_eq_getElem, List.getElem_toArray, List.getElem_cons_zero, List.getElem_cons_succ, List.setIfInBounds_toArray, List.set_cons_zero, List.set_cons_succ]
  refine' wpAnyH_take (i := 13) (v := _) rfl (by kernel_rfl) (by kernel_rfl) (by kernel_rfl) (fun _ _ _ h => h) (yieldsIf_load_mid (by kernel_rfl) _ _ rfl _ _ rfl _ _ (fun w hSw => hSw.1) Try.underlying29 rfl HSZ.out) (by assumption) ?_
  try simp only [Act.put, Array.getInternal_eq_getElem, List.getElem_toArray, List.getElem_cons_zero, List.getElem_cons_succ, List.setIfInBounds_toArray, List.set_cons_zero, List.set_cons_succ]
  refine' wpAnyH_take (i := 14) (v := _) rfl (by kernel_rfl) (by kernel_rfl) (by kernel_rfl) (fun _ _ _ h => h) (yieldsIf_load_mid (by kernel_rfl) _ _ rfl _ _ rfl _ _ (fun w hSw => hSw.2.2) Try.underlying29 rfl HSC.out) (by assumption) ?_
  try simp only [Act.put, Array.getInternal_eq_getElem, List.getElem_toArray, List.getElem_cons_zero, List.getElem_cons_succ, List.setIfInBounds_toArray, List.set_cons_zero, List.set_cons_succ]
  refine wpAnyH_ready (rs := [15]) (by kernel_rfl) (by simp) ?_
  refine AllReadyH.cons rfl (fun K hK => ?_) AllReadyH.nil
  (rw [if_pos (by kernel_rfl)]; go_simp; go_at_call 11; refine (HAC.out _ K3.out).mono ?_; rintro e u4 ⟨rfl, k4⟩; have K4 := Lib.hid (Keeps.trans (S := fun _ => False) K3.out (k4 _)); clear k4)
  refine hK.out _ _ (HCL.out _ K4.out) (fun hHeld => ?_)
  clear hK K
  try simp only [Act.put, Array.getInternal_eq_getElem, List.getElem_toArray, List.getElem_cons_zero, List.getElem_cons_succ, List.setIfInBounds_toArray, List.set_cons_zero, List.set_cons_succ]
  refine wpAnyH_take (i := 16) (v := ?_) rfl (by kernel_rfl) (by kernel_rfl) (by kernel_rfl) (fun _ _ _ h => h) (Or.inl ⟨by kernel_rfl, ?_⟩) (by assumption) ?_
  rotate_left
  · (intro w hSw; (try dsimp only at hSw); go_simp) <;> (try (with_reducible rfl))
  try simp only [Act.put, Array.getInternal_eq_getElem, List.getElem_toArray, List.getElem_cons_zero, List.getElem_cons_succ, List.setIfInBounds_toArray, List.set_cons_zero, List.set_cons_succ]
  refine wpAnyH_take (i := 17) (v := ?_) rfl (by kernel_rfl) (by kernel_rfl) (by kernel_rfl) (fun _ _ _ h => h) (Or.inl ⟨by kernel_rfl, ?_⟩) (by assumption) ?_
  rotate_left
  · (intro w hSw; (try dsimp only at hSw); go_simp) <;> (try (with_reducible rfl))
  try simp only [Act.put, Array.getInternal_eq_getElem, List.getElem_toArray, List.getElem_cons_zero, List.getElem_cons_succ, List.setIfInBounds_toArray, List.set_cons_zero, List.set_cons_succ]
  refine wpAnyH_take (i := 18) (v := ?_) rfl (by kernel_rfl) (by kernel_rfl) (by kernel_rfl) (fun _ _ _ h => h) (Or.inl ⟨by kernel_rfl, ?_⟩) (by assumption) ?_
  rotate_left
  · (intro w hSw; (try dsimp only at hSw); go_simp) <;> (try (with_reducible rfl))
  try simp only [Act.put, Array.getInternal_eq_getElem, List.getElem_toArray, List.getElem_cons_zero, List.getElem_cons_succ, List.setIfInBounds_toArray, List.set_cons_zero, List.set_cons_succ]
  refine' wpAnyH_take (i := 19) (v := _) rfl (by kernel_rfl) (by kernel_rfl) (by kernel_rfl) (fun _ _ _ h => h) (yieldsIf_load_mid (by kernel_rfl) _ _ rfl _ _ rfl _ _ (fun w hSw => hSw.2.2) Try.underlying29 rfl HSC.out) (by assumption) ?_
  try simp only [Act.put, Array.getInternal_eq_getElem, List.getElem_toArray, List.getElem_cons_zero, List.getElem_cons_succ, List.setIfInBounds_toArray, List.set_cons_zero, List.set_cons_succ]
  refine' wpAnyH_take (i := 20) (v := _) rfl (by kernel_rfl) (by kernel_rfl) (by kernel_rfl) (fun _ _ _ h => h) (yieldsIf_load_mid (by kernel_rfl) _ _ rfl _ _ rfl _ _ (fun w hSw => hSw.1) Try.underlying29 rfl HSZ.out) (by assumption) ?_
  try simp only [Act.put, Array.getInternal_eq_getElem, List.getElem_toArray, List.getElem_cons_zero, List.getElem_cons_succ, List.setIfInBounds_toArray, List.set_cons_zero, List.set_cons_succ]
  refine wpAnyH_ready (rs := [21]) (by kernel_rfl) (by simp) ?_
  refine AllReadyH.cons rfl (fun K hK => ?_) AllReadyH.nil
  (rw [if_pos (by kernel_rfl)]; go_simp; go_at_call 11; refine (HCC.out _ K4.out).mono ?_; rintro e u5 ⟨rfl, k5⟩; have K5 := Lib.hid (Keeps.trans (S := fun _ => False) K4.out (k5 _)); clear k5)
  refine hK.out _ _ (HCL.out _ K5.out) (fun hHeld => ?_)
  clear hK K
  try simp only [Act.put, Array.getInternal_eq_getElem, List.getElem_toArray, List.getElem_cons_zero, List.getElem_cons_succ, List.setIfInBounds_toArray, List.set_cons_zero, List.set_cons_succ]
  refine wpAnyH_take (i := 22) (v := ?_) rfl (by kernel_rfl) (by kernel_rfl) (by kernel_rfl) (fun _ _ _ h => h) (Or.inl ⟨by kernel_rfl, ?_⟩) (by assumption) ?_
  rotate_left
  · (intro w hSw; (try dsimp only at hSw); go_simp) <;> (try (with_reducible rfl))
  try simp only [Act.put, Array.getInternal_eq_getElem, List.getElem_toArray, List.getElem_cons_zero, List.getElem_cons_succ, List.setIfInBounds_toArray, List.set_cons_zero, List.set_cons_succ]
  refine wpAnyH_take (i := 23) (v := ?_) rfl (by kernel_rfl) (by kernel_rfl) (by kernel_rfl) (fun _ _ _ h => h) (Or.inl ⟨by kernel_rfl, ?_⟩) (by assumption) ?_
  rotate_left
  · (intro w hSw; (try dsimp only at hSw); go_simp) <;> (try (with_reducible rfl))
  try simp only [Act.put, Array.getInternal_eq_getElem, List.getElem_toArray, List.getElem_cons_zero, List.getElem_cons_succ, List.setIfInBounds_toArray, List.set_cons_zero, List.set_cons_succ]
  refine wpAnyH_take (i := 24) (v := ?_) rfl (by kernel_rfl) (by kernel_rfl) (by kernel_rfl) (fun _ _ _ h => h) (Or.inl ⟨by kernel_rfl, ?_⟩) (by assumption) ?_
  rotate_left
  · (intro w hSw; (try dsimp only at hSw); go_simp) <;> (try (with_reducible rfl))
  try simp only [Act.put, Array.getInternal_eq_getElem, List.getElem_toArray, List.getElem_cons_zero, List.getElem_cons_succ, List.setIfInBounds_toArray, List.set_cons_zero, List.set_cons_succ]
  refine wpAnyH_ready (rs := [25]) (by kernel_rfl) (by simp) ?_
  refine AllReadyH.cons rfl (fun K hK => ?_) AllReadyH.nil
  (rw [if_pos (by kernel_rfl)]; go_simp; go_at_call 13; refine (works_ _).mono ?_; rintro e u6 ⟨rfl, k6⟩; have K6 := Lib.hid (Keeps.trans (S := fun _ => False) K5.out (k6 _)); clear k6)
  refine hK.out _ _ (HCL.out _ K6.out) (fun hHeld => ?_)
  clear hK K
  try simp only [Act.put, Array.getInternal_eq_getElem, List.getElem_toArray, List.getElem_cons_zero, List.getElem_cons_succ, List.setIfInBounds_toArray, List.set_cons_zero, List.set_cons_succ]
  refine wpAnyH_take (i := 26) (v := ?_) rfl (by kernel_rfl) (by kernel_rfl) (by kernel_rfl) (fun _ _ _ h => h) (Or.inl ⟨by kernel_rfl, ?_⟩) (by assumption) ?_
  rotate_left
  · (intro w hSw; (try dsimp only at hSw); go_simp) <;> (try (with_reducible rfl))
  try simp only [Act.put, Array.getInternal_eq_getElem, List.getElem_toArray, List.getElem_cons_zero, List.getElem_cons_succ, List.setIfInBounds_toArray, List.set_cons_zero, List.set_cons_succ]
  refine wpAnyH_take (i := 27) (v := ?_) rfl (by kernel_rfl) (by kernel_rfl) (by kernel_rfl) (fun _ _ _ h => h) (Or.inl ⟨by kernel_rfl, ?_⟩) (by assumption) ?_
  rotate_left
  · (intro w hSw; (try dsimp only at hSw); go_simp) <;> (try (with_reducible rfl))
  try simp only [Act.put, Array.getInternal_eq_getElem, List.getElem_toArray, List.getElem_cons_zero, List.getElem_cons_succ, List.setIfInBounds_toArray, List.set_cons_zero, List.set_cons_succ]
  refine wpAnyH_done ?_ ?_ _
  · kernel_rfl
  go_wp2_with fail
  try rw [Exit.noGoto_ret]
  go_ret
  exact ⟨rfl, fun S => (KW6.out S).trans (K6.out.mono (fun _ _ z => z.elim))⟩
set_option maxRecDepth 100000 in
set_option maxHeartbeats 4000000 in
theorem psl_6 (a b : Hd) (ha : a.Wf) (hb : b.Wf) (A A2 : Option Addr) (n n2 c c2 : Nat) (hl : a.dat.length = n) (hl2 : b.dat.length = n2) (hn : n ≤ 140737488351232) (hr : Rd w w.heap.size A (by_ a.dat)) (hr2 : Rd w w.heap.size A2 (by_ b.dat)) (f : Int) (hf1 : -9223372036854775808 ≤ f) (hf2 : f ≤ 9223372036854775807) (hq : Int.tmod (Int.tmod f 11 + 11) 11 = 6) :
    Calls Try.prog 3 #[hvv a (.slice A n c), hvv b (.slice A2 n2 c2), .int .i64 f] w fun e w' => e = .returned (.bool true) ∧ ∀ S, Keeps S w w' := by
  obtain ⟨w1, hw1, k1, bA, bB, s1⟩ := box2 w (hcs a (.slice A n c)) (hcs b (.slice A2 n2 c2)) 29 29
  obtain ⟨wz, hwz, kz, bz, sz⟩ := box1 w1 zhd 29
  dsimp only [zhd] at hwz
  obtain ⟨t2, b2, k2⟩ := p_store bz (cs := hcs a (.slice A n c)) (by rw [hcs_len ha]; rfl)
  obtain ⟨w2, hw2⟩ : ∃ w2, w2 = wz.setCells w1.heap.size 0 (hcs a (.slice A n c)) := ⟨_, rfl⟩
  rw [← hw2] at b2 k2
  have k12 : ∀ S, Keeps S w1 w2 := keeps_own kz k2 (Nat.le_refl _)
  obtain ⟨w3, hw3, k3, b3, s3⟩ := box1 w2 [] 5
  have s2 : w1.heap.size + 1 ≤ w2.heap.size := by have := k2.size; omega
  have y3 : By w2 w3 (.slice (some ⟨w2.heap.size, 0, none⟩) 0 0) [] := By.of_blk b3 rfl (Nat.le_refl _) (by omega) k3
  have r3 := rd_old hr (((k1 (fun _ => False)).trans (k12 _)).trans (k3 _))
  obtain ⟨r, hrm⟩ : ∃ r, Int.tmod f 11 = r := ⟨_, rfl⟩
  have hrb := tmod11 f
  rw [hrm] at hrb hq
  have r1 := hrb.1
  have r2 := hrb.2
  have x42 : w3.cell? ⟨w.heap.size, 42, none⟩ = some (.slice A n c) := (HF.of_blk ha (Blk.keeps bA ((k12 (fun _ => False)).trans (k3 _)) (fun z => z))).dat
  have HWA := Lib.hid ha
  have HWB := Lib.hid hb
  have HY3 := Lib.hid y3
  have HR3 := Lib.hid r3
  have HLL := Lib.hid (And.intro hl hl2)
  have HRR := Lib.hid (And.intro hr hr2)
  have HN := Lib.hid hn
  have HKK := Lib.hid (And.intro k1 (And.intro k12 k3))
  have HBA := Lib.hid bA
  have HBB := Lib.hid bB
  have HB2 := Lib.hid b2
  have HT2 := Lib.hid t2
  have HS := Lib.hid (And.intro s1 s2)
  have HSZ : Hid ((Try.prog.info? 29).map (·.size) = some (hcs a (.slice A n c)).length) := Lib.hid (hd_sz ha _)
  have HSO := Lib.hid (all_oneCell_toArray (hcs_one (h := a) (v := .slice A n c) rfl))
  have HW1 := Lib.hid hw1
  have HWZ := Lib.hid hwz
  have HW2 := Lib.hid hw2
  replace hw3 : w3 = w2.alloc (.cells #[] 5) := hw3
  rw [hw3] at x42
  have HW3 := Lib.hid hw3
  unfold hvv
  clear hw1 k1 bA bB s1 hwz kz bz sz t2 b2 k2 hw2 k12 hw3 k3 b3 s3 s2 y3 r3 hrb ha hb hl hl2 hr hr2
  generalize hCA : hcs a (.slice A n c) = CA at *
  generalize hCB : hcs b (.slice A2 n2 c2) = CB at *
  have HCA := Lib.hid hCA
  have HCB := Lib.hid hCB
  clear hCA hCB
  go_enter Try.func3, Try.ntmps3
  go_wp2_with (first
    | ((with_reducible show wpList _ _ _ (⟨some 8, _, _, _, _, _⟩ :: _) _ _); (try rw [← HW1.out]); refine wpList_load_mid rfl 29 _ rfl w.heap.size 0 rfl CA _ (Blk.range HBA.out) Try.underlying29 rfl HSZ.out ?_)
    | ((with_reducible show wpList _ _ _ (⟨none, .store _ (.tmp 7) _, _, _, _, _⟩ :: _) _ _); (try rw [← HWZ.out]); refine' wpList_store_mid rfl 29 _ _ rfl w1.heap.size 0 (CA).toArray ?hx rfl ?ht HSZ.out HSO.out ?_; (case hx => rfl); (case ht => exact HT2.out); rw [← HW2.out])
    | ((with_reducible show wpList _ _ _ (⟨some 12, _, _, _, _, _⟩ :: _) _ _); (try rw [← HW3.out]); refine By.wpList_append rfl _ _ rfl HY3.out rfl A n c _ a.dat rfl HLL.out.1 HR3.out (by have := HN.out; simp; omega) ?_; intro v4 w4 y4 k4; clear k4; have ya := y4; obtain ⟨A4, c4, rfl, r4⟩ := ya.rd; rw [List.nil_append] at ya r4 ⊢; rw [HLL.out.1] at ya ⊢; have h1 := HWA.out.s; have h2 := HWA.out.d; have g4 := Blk.keeps HB2.out (ya.keep (fun _ => False)) (fun z => z); rw [← HCA.out] at g4; have c42 : w4.cell? ⟨w1.heap.size, 42, none⟩ = some _ := h_cell g4 h1 h2 8 _ rfl; have f42 : w4.frozen? ⟨w1.heap.size, 42, none⟩ = false := g4.frozen 42; have g5 := st_dat g4 h1 h2 (.slice A4 n c4) a.dat; have p5 := keeps_put (G := w1.heap.size) (Keeps.refl _ w4) 42 (.slice A4 n c4); obtain ⟨x, hx⟩ : ∃ x, x = (a.cls + 1) % 256 := ⟨_, rfl⟩; have hxi : IntKind.u8.wrap ((a.cls : Int) + 1) = (x : Int) := (by rw [IntKind.wrap_u8]; omega); have hxi2 : ((a.cls : Int) + 1) % 256 = (x : Int) := (by omega); have HX := Lib.hid hx; clear hx; have cx : (w4.setCell ⟨w1.heap.size, 42, none⟩ (.slice A4 n c4)).cell? ⟨w1.heap.size, 38, none⟩ = some _ := h_cell g5 h1 h2 4 _ rfl; have fx : (w4.setCell ⟨w1.heap.size, 42, none⟩ (.slice A4 n c4)).frozen? ⟨w1.heap.size, 38, none⟩ = false := g5.frozen 38; have g6 := st_cls g5 h1 h2 x; have p6 := keeps_put p5 38 (.int .u8 (x : Int))))
  --@E
  obtain ⟨w6, hw6⟩ : ∃ w6, w6 = (w4.setCell ⟨w1.heap.size, 42, none⟩ (.slice A4 n c4)).setCell ⟨w1.heap.size, 38, none⟩ (.int .u8 (x : Int)) := ⟨_, rfl⟩
  rw [← hw6]
  rw [← hw6] at g6 p6
  have gC : Blk w6 w1.heap.size 29 (hcs (⟨a.src, a.dst, a.pr, a.sp, a.dp, a.ttl, x, a.id, a.fl, a.seq, a.dat⟩ : Hd) (.slice A4 n c4)) := g6
  have hch : (⟨a.src, a.dst, a.pr, a.sp, a.dp, a.ttl, x, a.id, a.fl, a.seq, a.dat⟩ : Hd).Wf := ⟨HWA.out.s, HWA.out.d, HWA.out.p, HWA.out.sl, HWA.out.dl, HWA.out.t, (by have := HX.out; show x < _; omega), HWA.out.i, HWA.out.f, HWA.out.q, HWA.out.b⟩
  have hne : ¬ a = (⟨a.src, a.dst, a.pr, a.sp, a.dp, a.ttl, x, a.id, a.fl, a.seq, a.dat⟩ : Hd) := fun e => by have h3 : a.cls = x := congrArg Hd.cls e; have := HX.out; have := HWA.out.c; omega
  have hdl : (⟨a.src, a.dst, a.pr, a.sp, a.dp, a.ttl, x, a.id, a.fl, a.seq, a.dat⟩ : Hd).dat.length = n := HLL.out.1
  have s1 := HS.out.1
  have s2 := HS.out.2
  have k16 : ∀ S, Keeps S w1 w6 := keeps_own (fun S => (HKK.out.2.1 S).trans (ya.keep S)) p6 (Nat.le_refl _)
  have kw6 : ∀ S, Keeps S w w6 := fun S => (HKK.out.1 S).trans (k16 S)
  have gA := Blk.keeps HBA.out (k16 (fun _ => False)) (fun z => z)
  have gB := Blk.keeps HBB.out (k16 (fun _ => False)) (fun z => z)
  have rC : Rd w6 w6.heap.size A4 (by_ (⟨a.src, a.dst, a.pr, a.sp, a.dp, a.ttl, x, a.id, a.fl, a.seq, a.dat⟩ : Hd).dat) := (by obtain ⟨A9, c9, h9, r9⟩ := (past_ (By.base (w := w1) ya HKK.out.2.1) p6 (Nat.le_refl _) (ya.apart (by omega))).rd; injection h9 with e1 _ _; subst e1; exact r9)
  have KW6 := Lib.hid kw6
  have HCL : Hid (∀ wq, Keeps (fun _ => False) w6 wq → wq.rangeAt w.heap.size 0 CA ∧ wq.rangeAt (w.heap.size + 1) 0 CB ∧ wq.rangeAt w1.heap.size 0 (hcs (⟨a.src, a.dst, a.pr, a.sp, a.dp, a.ttl, x, a.id, a.fl, a.seq, a.dat⟩ : Hd) (.slice A4 n c4))) := Lib.hid (fun wq kq => ⟨Blk.range (Blk.keeps gA kq (fun z => z)), Blk.range (Blk.keeps gB kq (fun z => z)), Blk.range (Blk.keeps gC kq (fun z => z))⟩)
  have ra : ∀ u, Keeps (fun _ => False) w6 u → Rd u u.heap.size A (by_ a.dat) := fun u hu => (rd_old HRR.out.1 ((kw6 _).trans hu)).more ((kw6 (fun _ => False)).trans hu).size
  have rb : ∀ u, Keeps (fun _ => False) w6 u → Rd u u.heap.size A2 (by_ b.dat) := fun u hu => (rd_old HRR.out.2 ((kw6 _).trans hu)).more ((kw6 (fun _ => False)).trans hu).size
  have rc : ∀ u, Keeps (fun _ => False) w6 u → Rd u u.heap.size A4 (by_ (⟨a.src, a.dst, a.pr, a.sp, a.dp, a.ttl, x, a.id, a.fl, a.seq, a.dat⟩ : Hd).dat) := fun u hu => (rd_old rC hu).more hu.size
  have HAB : Hid (∀ u, Keeps (fun _ => False) w6 u → Calls Try.prog 11 #[.agg CA.toArray, .agg CB.toArray] u fun e w' => e = .returned (.bool (sameH a b)) ∧ ∀ S, Keeps S u w') := Lib.hid (fun u hu => by rw [← HCA.out, ← HCB.out]; exact psame2_ u a b HWA.out HWB.out A A2 n n2 c c2 HLL.out.1 HLL.out.2 (ra u hu) (rb u hu))
  have HRB : Hid (∀ u, Keeps (fun _ => False) w6 u → Calls Try.prog 12 #[.agg CA.toArray, .agg CB.toArray] u fun e w' => e = .returned (.bool (sameH a b)) ∧ ∀ S, Keeps S u w') := Lib.hid (fun u hu => by rw [← HCA.out, ← HCB.out]; exact rsame_ u a b HWA.out HWB.out A A2 n n2 c c2 HLL.out.1 HLL.out.2 (by have := HN.out; omega) (ra u hu) (rb u hu))
  have HAA : Hid (∀ u, Keeps (fun _ => False) w6 u → Calls Try.prog 11 #[.agg CA.toArray, .agg CA.toArray] u fun e w' => e = .returned (.bool true) ∧ ∀ S, Keeps S u w') := Lib.hid (fun u hu => by rw [← HCA.out]; have := psame2_ u a a HWA.out HWA.out A A n n c c HLL.out.1 HLL.out.1 (ra u hu) (ra u hu); rw [same_yes rfl] at this; exact this)
  have HAC : Hid (∀ u, Keeps (fun _ => False) w6 u → Calls Try.prog 11 #[.agg CA.toArray, .agg (hcs (⟨a.src, a.dst, a.pr, a.sp, a.dp, a.ttl, x, a.id, a.fl, a.seq, a.dat⟩ : Hd) (.slice A4 n c4)).toArray] u fun e w' => e = .returned (.bool false) ∧ ∀ S, Keeps S u w') := Lib.hid (fun u hu => by rw [← HCA.out]; have := psame2_ u a (⟨a.src, a.dst, a.pr, a.sp, a.dp, a.ttl, x, a.id, a.fl, a.seq, a.dat⟩ : Hd) HWA.out hch A A4 n n c c4 HLL.out.1 hdl (ra u hu) (rc u hu); rw [same_no hne] at this; exact this)
  have HCC : Hid (∀ u, Keeps (fun _ => False) w6 u → Calls Try.prog 11 #[.agg (hcs (⟨a.src, a.dst, a.pr, a.sp, a.dp, a.ttl, x, a.id, a.fl, a.seq, a.dat⟩ : Hd) (.slice A4 n c4)).toArray, .agg CA.toArray] u fun e w' => e = .returned (.bool false) ∧ ∀ S, Keeps S u w') := Lib.hid (fun u hu => by rw [← HCA.out]; have := psame2_ u (⟨a.src, a.dst, a.pr, a.sp, a.dp, a.ttl, x, a.id, a.fl, a.seq, a.dat⟩ : Hd) a hch HWA.out A4 A n n c4 c hdl HLL.out.1 (rc u hu) (ra u hu); rw [same_no (fun e => hne e.symm)] at this; exact this)
  have HSC : Hid ((Try.prog.info? 29).map (·.size) = some (hcs (⟨a.src, a.dst, a.pr, a.sp, a.dp, a.ttl, x, a.id, a.fl, a.seq, a.dat⟩ : Hd) (.slice A4 n c4)).length) := Lib.hid (hd_sz hch _)
  have HSB : Hid ((Try.prog.info? 29).map (·.size) = some CB.length) := Lib.hid (by rw [← HCB.out]; exact hd_sz HWB.out _)
  clear hw6 g6 p6 gC hch hne hdl s1 s2 k16 kw6 gA gB rC ra rb rc ya r4 h1 h2 g4 c42 f42 g5 p5 cx fx hxi hxi2
  generalize hcs (⟨a.src, a.dst, a.pr, a.sp, a.dp, a.ttl, x, a.id, a.fl, a.seq, a.dat⟩ : Hd) (.slice A4 n c4) = CC at *
  obtain ⟨z, hz⟩ : ∃ z, z = sameH a b := ⟨_, rfl⟩
  rw [← hz] at HAB HRB
  clear hz
  have hzz : (z == z) = true := beq_self_eq_true z
  go_wp2_with fail
  --@25
  refine wp_region_held_drew (S := fun w' => w'.rangeAt w.heap.size 0 CA ∧ w'.rangeAt (w.heap.size + 1) 0 CB ∧ w'.rangeAt w1.heap.size 0 CC) (by kernel_rfl) (HCL.out _ ((Keeps.refl _ w6).drew)) (fun hHeld => ?_)
  refine' wpAnyH_take (i := 0) (v := _) rfl (by kernel_rfl) (by kernel_rfl) (by kernel_rfl) (fun _ _ _ h => h) (yieldsIf_load_mid (by kernel_rfl) _ _ rfl _ _ rfl _ _ (fun w hSw => hSw.1) Try.underlying29 rfl HSZ.out) (by assumption) ?_
  try simp only [Act.put, Array.getInternal_eq_getElem, List.getElem_toArray, List.getElem_cons_zero, List.getElem_cons_succ, List.setIfInBounds_toArray, List.set_cons_zero, List.set_cons_succ]
  refine' wpAnyH_take (i := 1) (v := _) rfl (by kernel_rfl) (by kernel_rfl) (by kernel_rfl) (fun _ _ _ h => h) (yieldsIf_load_mid (by kernel_rfl) _ _ rfl _ _ rfl _ _ (fun w hSw => hSw.2.1) Try.underlying29 rfl HSB.out) (by assumption) ?_
  try simp only [Act.put, Array.getInternal_eq_getElem, List.getElem_toArray, List.getElem_cons_zero, List.getElem_cons_succ, List.setIfInBounds_toArray, List.set_cons_zero, List.set_cons_succ]
  refine' wpAnyH_take (i := 3) (v := _) rfl (by kernel_rfl) (by kernel_rfl) (by kernel_rfl) (fun _ _ _ h => h) (yieldsIf_load_mid (by kernel_rfl) _ _ rfl _ _ rfl _ _ (fun w hSw => hSw.1) Try.underlying29 rfl HSZ.out) (by assumption) ?_
  try simp only [Act.put, Array.getInternal_eq_getElem, List.getElem_toArray, List.getElem_cons_zero, List.getElem_cons_succ, List.setIfInBounds_toArray, List.set_cons_zero, List.set_cons_succ]
  refine' wpAnyH_take (i := 4) (v := _) rfl (by kernel_rfl) (by kernel_rfl) (by kernel_rfl) (fun _ _ _ h => h) (yieldsIf_load_mid (by kernel_rfl) _ _ rfl _ _ rfl _ _ (fun w hSw => hSw.2.1) Try.underlying29 rfl HSB.out) (by assumption) ?_
  try simp only [Act.put, Array.getInternal_eq_getElem, List.getElem_toArray, List.getElem_cons_zero, List.getElem_cons_succ, List.setIfInBounds_toArray, List.set_cons_zero, List.set_cons_succ]
  refine wpAnyH_ready (rs := [2]) (by kernel_rfl) (by simp) ?_
  refine AllReadyH.cons rfl (fun K hK => ?_) AllReadyH.nil
  (rw [if_pos (by kernel_rfl)]; go_simp; go_at_call 11; refine (HAB.out _ ((Keeps.refl _ w6).drew)).mono ?_; rintro e u1 ⟨rfl, k1⟩; have K1 := Lib.hid (Keeps.trans (S := fun _ => False) ((Keeps.refl _ w6).drew) (k1 _)); clear k1)
  refine hK.out _ _ (HCL.out _ K1.out) (fun hHeld => ?_)
  clear hK K
  try simp only [Act.put, Array.getInternal_eq_getElem, List.getElem_toArray, List.getElem_cons_zero, List.getElem_cons_succ, List.setIfInBounds_toArray, List.set_cons_zero, List.set_cons_succ]
  refine wpAnyH_ready (rs := [5]) (by kernel_rfl) (by simp) ?_
  refine AllReadyH.cons rfl (fun K hK => ?_) AllReadyH.nil
  (rw [if_pos (by kernel_rfl)]; go_simp; go_at_call 12; refine (HRB.out _ K1.out).mono ?_; rintro e u2 ⟨rfl, k2⟩; have K2 := Lib.hid (Keeps.trans (S := fun _ => False) K1.out (k2 _)); clear k2)
  refine hK.out _ _ (HCL.out _ K2.out) (fun hHeld => ?_)
  clear hK K
  try simp only [Act.put, Array.getInternal_eq_getElem, List.getElem_toArray, List.getElem_cons_zero, List.getElem_cons_succ, List.setIfInBounds_toArray, List.set_cons_zero, List.set_cons_succ]
  refine wpAnyH_take (i := 6) (v := ?_) rfl (by kernel_rfl) (by kernel_rfl) (by kernel_rfl) (fun _ _ _ h => h) (Or.inl ⟨by kernel_rfl, ?_⟩) (by assumption) ?_
  rotate_left
  · (intro w hSw; (try dsimp only at hSw); go_simp) <;> (try (with_reducible rfl))
  try simp only [Act.put, Array.getInternal_eq_getElem, List.getElem_toArray, List.getElem_cons_zero, List.getElem_cons_succ, List.setIfInBounds_toArray, List.set_cons_zero, List.set_cons_succ]
  refine wpAnyH_take (i := 7) (v := ?_) rfl (by kernel_rfl) (by kernel_rfl) (by kernel_rfl) (fun _ _ _ h => h) (Or.inl ⟨by kernel_rfl, ?_⟩) (by assumption) ?_
  rotate_left
  · (intro w hSw; (try dsimp only at hSw); go_simp) <;> (try (with_reducible rfl))
  try simp only [Act.put, Array.getInternal_eq_getElem, List.getElem_toArray, List.getElem_cons_zero, List.getElem_cons_succ, List.setIfInBounds_toArray, List.set_cons_zero, List.set_cons_succ]
  refine' wpAnyH_take (i := 8) (v := _) rfl (by kernel_rfl) (by kernel_rfl) (by kernel_rfl) (fun _ _ _ h => h) (yieldsIf_load_mid (by kernel_rfl) _ _ rfl _ _ rfl _ _ (fun w hSw => hSw.1) Try.underlying29 rfl HSZ.out) (by assumption) ?_
  try simp only [Act.put, Array.getInternal_eq_getElem, List.getElem_toArray, List.getElem_cons_zero, List.getElem_cons_succ, List.setIfInBounds_toArray, List.set_cons_zero, List.set_cons_succ]
  refine' wpAnyH_take (i := 9) (v := _) rfl (by kernel_rfl) (by kernel_rfl) (by kernel_rfl) (fun _ _ _ h => h) (yieldsIf_load_mid (by kernel_rfl) _ _ rfl _ _ rfl _ _ (fun w hSw => hSw.1) Try.underlying29 rfl HSZ.out) (by assumption) ?_
  try simp only [Act.put, Array.getInternal_eq_getElem, List.getElem_toArray, List.getElem_cons_zero, List.getElem_cons_succ, List.setIfInBounds_toArray, List.set_cons_zero, List.set_cons_succ]
  refine wpAnyH_ready (rs := [10]) (by kernel_rfl) (by simp) ?_
  refine AllReadyH.cons rfl (fun K hK => ?_) AllReadyH.nil
  (rw [if_pos (by kernel_rfl)]; go_simp; go_at_call 11; refine (HAA.out _ K2.out).mono ?_; rintro e u3 ⟨rfl, k3⟩; have K3 := Lib.hid (Keeps.trans (S := fun _ => False) K2.out (k3 _)); clear k3)
  refine hK.out _ _ (HCL.out _ K3.out) (fun hHeld => ?_)
  clear hK K
  try simp only [Act.put, Array.getInternal_eq_getElem, List.getElem_toArray, List.getElem_cons_zero, List.getElem_cons_succ, List.setIfInBounds_toArray, List.set_cons_zero, List.set_cons_succ]
  refine wpAnyH_take (i := 11) (v := ?_) rfl (by kernel_rfl) (by kernel_rfl) (by kernel_rfl) (fun _ _ _ h => h) (Or.inl ⟨by kernel_rfl, ?_⟩) (by assumption) ?_
  rotate_left
  · (intro w hSw; (try dsimp only at hSw); go_simp) <;> (try (with_reducible rfl))
  try simp only [Act.put, Array.getInternal_eq_getElem, List.getElem_toArray, List.getElem_cons_zero, List.getElem_cons_succ, List.setIfInBounds_toArray, List.set_cons_zero, List.set_cons_succ]
  refine wpAnyH_take (i := 12) (v := ?_) rfl (by kernel_rfl) (by kernel_rfl) (by kernel_rfl) (fun _ _ _ h => h) (Or.inl ⟨by kernel_rfl, ?_⟩) (by assumption) ?_
  rotate_left
  · (intro w hSw; (try dsimp only at hSw); go_simp) <;> (try (with_reducible rfl))
  try simp only [Act.put, Array.getInternal_eq_getElem, List.getElem_toArray, List.getElem_cons_zero, List.getElem_cons_succ, List.setIfInBounds_toArray, List.set_cons_zero, List.set_cons_succ]
  refine' wpAnyH_take (i := 13) (v := _) rfl (by kernel_rfl) (by kernel_rfl) (by kernel_rfl) (fun _ _ _ h => h) (yieldsIf_load_mid (by kernel_rfl) _ _ rfl _ _ rfl _ _ (fun w hSw => hSw.1) Try.underlying29 rfl HSZ.out) (by assumption) ?_
  try simp only [Act.put, Array.getInternal_eq_getElem, List.getElem_toArray, List.getElem_cons_zero, List.getElem_cons_succ, List.setIfInBounds_toArray, List.set_cons_zero, List.set_cons_succ]
  refine' wpAnyH_take (i := 14) (v := _) rfl (by kernel_rfl) (by kernel_rfl) (by kernel_rfl) (fun _ _ _ h => h) (yieldsIf_load_mid (by kernel_rfl) _ _ rfl _ _ rfl _ _ (fun w hSw => hSw.2.2) Try.underlying29 rfl HSC.out) (by assumption) ?_
  try simp only [Act.put, Array.getInternal_eq_getElem, List.getElem_toArray, List.getElem_cons_zero, List.getElem_cons_succ, List.setIfInBounds_toArray, List.set_cons_zero, List.set_cons_succ]
  refine wpAnyH_ready (rs := [15]) (by kernel_rfl) (by simp) ?_
  refine AllReadyH.cons rfl (fun K hK => ?_) AllReadyH.nil
  (rw [if_pos (by kernel_rfl)]; go_simp; go_at_call 11; refine (HAC.out _ K3.out).mono ?_; rintro e u4 ⟨rfl, k4⟩; have K4 := Lib.hid (Keeps.trans (S := fun _ => False) K3.out (k4 _)); clear k4)
  refine hK.out _ _ (HCL.out _ K4.out) (fun hHeld => ?_)
  clear hK K
  try simp only [Act.put, Array.getInternal_eq_getElem, List.getElem_toArray, List.getElem_cons_zero, List.getElem_cons_succ, List.setIfInBounds_toArray, List.set_cons_zero, List.set_cons_succ]
  refine wpAnyH_take (i := 16) (v := ?_) rfl (by kernel_rfl) (by kernel_rfl) (by kernel_rfl) (fun _ _ _ h => h) (Or.inl ⟨by kernel_rfl, ?_⟩) (by assumption) ?_
  rotate_left
  · (intro w hSw; (try dsimp only at hSw); go_simp) <;> (try (with_reducible rfl))
  try simp only [Act.put, Array.getInternal_eq_getElem, List.getElem_toArray, List.getElem_cons_zero, List.getElem_cons_succ, List.setIfInBounds_toArray, List.set_cons_zero, List.set_cons_succ]
  refine wpAnyH_take (i := 17) (v := ?_) rfl (by kernel_rfl) (by kernel_rfl) (by kernel_rfl) (fun _ _ _ h => h) (Or.inl ⟨by kernel_rfl, ?_⟩) (by assumption) ?_
  rotate_left
  · (intro w hSw; (try dsimp only at hSw); go_simp) <;> (try (with_reducible rfl))
  try simp only [Act.put, Array.getInternal_eq_getElem, List.getElem_toArray, List.getElem_cons_zero, List.getElem_cons_succ, List.setIfInBounds_toArray, List.set_cons_zero, List.set_cons_succ]
  refine wpAnyH_take (i := 18) (v := ?_) rfl (by kernel_rfl) (by kernel_rfl) (by kernel_rfl) (fun _ _ _ h => h) (Or.inl ⟨by kernel_rfl, ?_⟩) (by assumption) ?_
  rotate_left
  · (intro w hSw; (try dsimp only at hSw); go_simp) <;> (try (with_reducible rfl))
  try simp only [Act.put, Array.getInternal_eq_getElem, List.getElem_toArray, List.getElem_cons_zero, List.getElem_cons_succ, List.setIfInBounds_toArray, List.set_cons_zero, List.set_cons_succ]
  refine' wpAnyH_take (i := 19) (v := _) rfl (by kernel_rfl) (by kernel_rfl) (by kernel_rfl) (fun _ _ _ h => h) (yieldsIf_load_mid (by kernel_rfl) _ _ rfl _ _ rfl _ _ (fun w hSw => hSw.2.2) Try.underlying29 rfl HSC.out) (by assumption) ?_
  try simp only [Act.put, Array.getInternal_eq_getElem, List.getElem_toArray, List.getElem_cons_zero, List.getElem_cons_succ, List.setIfInBounds_toArray, List.set_cons_zero, List.set_cons_succ]
  refine' wpAnyH_take (i := 20) (v := _) rfl (by kernel_rfl) (by kernel_rfl) (by kernel_rfl) (fun _ _ _ h => h) (yieldsIf_load_mid (by kernel_rfl) _ _ rfl _ _ rfl _ _ (fun w hSw => hSw.1) Try.underlying29 rfl HSZ.out) (by assumption) ?_
  try simp only [Act.put, Array.getInternal_eq_getElem, List.getElem_toArray, List.getElem_cons_zero, List.getElem_cons_succ, List.setIfInBounds_toArray, List.set_cons_zero, List.set_cons_succ]
  refine wpAnyH_ready (rs := [21]) (by kernel_rfl) (by simp) ?_
  refine AllReadyH.cons rfl (fun K hK => ?_) AllReadyH.nil
  (rw [if_pos (by kernel_rfl)]; go_simp; go_at_call 11; refine (HCC.out _ K4.out).mono ?_; rintro e u5 ⟨rfl, k5⟩; have K5 := Lib.hid (Keeps.trans (S := fun _ => False) K4.out (k5 _)); clear k5)
  refine hK.out _ _ (HCL.out _ K5.out) (fun hHeld => ?_)
  clear hK K
  try simp only [Act.put, Array.getInternal_eq_getElem, List.getElem_toArray, List.getElem_cons_zero, List.getElem_cons_succ, List.setIfInBounds_toArray, List.set_cons_zero, List.set_cons_succ]
  refine wpAnyH_take (i := 22) (v := ?_) rfl (by kernel_rfl) (by kernel_rfl) (by kernel_rfl) (fun _ _ _ h => h) (Or.inl ⟨by kernel_rfl, ?_⟩) (by assumption) ?_
  rotate_left
  · (intro w hSw; (try dsimp only at hSw); go_simp) <;> (try (with_reducible rfl))
  try simp only [Act.put, Array.getInternal_eq_getElem, List.getElem_toArray, List.getElem_cons_zero, List.getElem_cons_succ, List.setIfInBounds_toArray, List.set_cons_zero, List.set_cons_succ]
  refine wpAnyH_take (i := 23) (v := ?_) rfl (by kernel_rfl) (by kernel_rfl) (by kernel_rfl) (fun _ _ _ h => h) (Or.inl ⟨by kernel_rfl, ?_⟩) (by assumption) ?_
  rotate_left
  · (intro w hSw; (try dsimp only at hSw); go_simp) <;> (try (with_reducible rfl))
  try simp only [Act.put, Array.getInternal_eq_getElem, List.getElem_toArray, List.getElem_cons_zero, List.getElem_cons_succ, List.setIfInBounds_toArray, List.set_cons_zero, List.set_cons_succ]
  refine wpAnyH_take (i := 24) (v := ?_) rfl (by kernel_rfl) (by kernel_rfl) (by kernel_rfl) (fun _ _ _ h => h) (Or.inl ⟨by kernel_rfl, ?_⟩) (by assumption) ?_
  rotate_left
  · (intro w hSw; (try dsimp only at hSw); go_simp) <;> (try (with_reducible rfl))
  try simp only [Act.put, Array.getInternal_eq_getElem, List.getElem_toArray, List.getElem_cons_zero, List.getElem_cons_succ, List.setIfInBounds_toArray, List.set_cons_zero, List.set_cons_succ]
  refine wpAnyH_ready (rs := [25]) (by kernel_rfl) (by simp) ?_
  refine AllReadyH.cons rfl (fun K hK => ?_) AllReadyH.nil
  (rw [if_pos (by kernel_rfl)]; go_simp; go_at_call 13; refine (works_ _).mono ?_; rintro e u6 ⟨rfl, k6⟩; have K6 := Lib.hid (Keeps.trans (S := fun _ => False) K5.out (k6 _)); clear k6)
  refine hK.out _ _ (HCL.out _ K6.out) (fun hHeld => ?_)
  clear hK K
  try simp only [Act.put, Array.getInternal_eq_getElem, List.getElem_toArray, List.getElem_cons_zero, List.getElem_cons_succ, List.setIfInBounds_toArray, List.set_cons_zero, List.set_cons_succ]
  refine wpAnyH_take (i := 26) (v := ?_) rfl (by kernel_rfl) (by kernel_rfl) (by kernel_rfl) (fun _ _ _ h => h) (Or.inl ⟨by kernel_rfl, ?_⟩) (by assumption) ?_
  rotate_left
  · (intro w hSw; (try dsimp only at hSw); go_simp) <;> (try (with_reducible rfl))
  try simp only [Act.put, Array.getInternal_eq_getElem, List.getElem_toArray, List.getElem_cons_zero, List.getElem_cons_succ, List.setIfInBounds_toArray, List.set_cons_zero, List.set_cons_succ]
  refine wpAnyH_take (i := 27) (v := ?_) rfl (by kernel_rfl) (by kernel_rfl) (by kernel_rfl) (fun _ _ _ h => h) (Or.inl ⟨by kernel_rfl, ?_⟩) (by assumption) ?_
  rotate_left
  · (intro w hSw; (try dsimp only at hSw); go_simp) <;> (try (with_reducible rfl))
  try simp only [Act.put, Array.getInternal_eq_getElem, List.getElem_toArray, List.getElem_cons_zero, List.getElem_cons_succ, List.setIfInBounds_toArray, List.set_cons_zero, List.set_cons_succ]
  refine wpAnyH_done ?_ ?_ _
  · kernel_rfl
  go_wp2_with fail
  try rw [Exit.noGoto_ret]
  go_ret
  exact ⟨rfl, fun S => (KW6.out S).trans (K6.out.mono (fun _ _ z => z.elim))⟩
set_option maxRecDepth 100000 in
set_option maxHeartbeats 4000000 in
theorem psl_7 (a b : Hd) (ha : a.Wf) (hb : b.Wf) (A A2 : Option Addr) (n n2 c c2 : Nat) (hl : a.dat.length = n) (hl2 : b.dat.length = n2) (hn : n ≤ 140737488351232) (hr : Rd w w.heap.size A (by_ a.dat)) (hr2 : Rd w w.heap.size A2 (by_ b.dat)) (f : Int) (hf1 : -9223372036854775808 ≤ f) (hf2 : f ≤ 9223372036854775807) (hq : Int.tmod (Int.tmod f 11 + 11) 11 = 7) :
    Calls Try.prog 3 #[hvv a (.slice A n c), hvv b (.slice A2 n2 c2), .int .i64 f] w fun e w' => e = .returned (.bool true) ∧ ∀ S, Keeps S w w' := by
  obtain ⟨w1, hw1, k1, bA, bB, s1⟩ := box2 w (hcs a (.slice A n c)) (hcs b (.slice A2 n2 c2)) 29 29
  obtain ⟨wz, hwz, kz, bz, sz⟩ := box1 w1 zhd 29
  dsimp only [zhd] at hwz
  obtain ⟨t2, b2, k2⟩ := p_store bz (cs := hcs a (.slice A n c)) (by rw [hcs_len ha]; rfl)
  obtain ⟨w2, hw2⟩ : ∃ w2, w2 = wz.setCells w1.heap.size 0 (hcs a (.slice A n c)) := ⟨_, rfl⟩
  rw [← hw2] at b2 k2
  have k12 : ∀ S, Keeps S w1 w2 := keeps_own kz k2 (Nat.le_refl _)
  obtain ⟨w3, hw3, k3, b3, s3⟩ := box1 w2 [] 5
  have s2 : w1.heap.size + 1 ≤ w2.heap.size := by have := k2.size; omega
  have y3 : By w2 w3 (.slice (some ⟨w2.heap.size, 0, none⟩) 0 0) [] := By.of_blk b3 rfl (Nat.le_refl _) (by omega) k3
  have r3 := rd_old hr (((k1 (fun _ => False)).trans (k12 _)).trans (k3 _))
  obtain ⟨r, hrm⟩ : ∃ r, Int.tmod f 11 = r := ⟨_, rfl⟩
  have hrb := tmod11 f
  rw [hrm] at hrb hq
  have r1 := hrb.1
  have r2 := hrb.2
  have x42 : w3.cell? ⟨w.heap.size, 42, none⟩ = some (.slice A n c) := (HF.of_blk ha (Blk.keeps bA ((k12 (fun _ => False)).trans (k3 _)) (fun z => z))).dat
  have HWA := Lib.hid ha
  have HWB := Lib.hid hb
  have HY3 := Lib.hid y3
  have HR3 := Lib.hid r3
  have HLL := Lib.hid (And.intro hl hl2)
  have HRR := Lib.hid (And.intro hr hr2)
  have HN := Lib.hid hn
  have HKK := Lib.hid (And.intro k1 (And.intro k12 k3))
  have HBA := Lib.hid bA
  have HBB := Lib.hid bB
  have HB2 := Lib.hid b2
  have HT2 := Lib.hid t2
  have HS := Lib.hid (And.intro s1 s2)
  have HSZ : Hid ((Try.prog.info? 29).map (·.size) = some (hcs a (.slice A n c)).length) := Lib.hid (hd_sz ha _)
  have HSO := Lib.hid (all_oneCell_toArray (hcs_one (h := a) (v := .slice A n c) rfl))
  have HW1 := Lib.hid hw1
  have HWZ := Lib.hid hwz
  have HW2 := Lib.hid hw2
  replace hw3 : w3 = w2.alloc (.cells #[] 5) := hw3
  rw [hw3] at x42
  have HW3 := Lib.hid hw3
  unfold hvv
  clear hw1 k1 bA bB s1 hwz kz bz sz t2 b2 k2 hw2 k12 hw3 k3 b3 s3 s2 y3 r3 hrb ha hb hl hl2 hr hr2
  generalize hCA : hcs a (.slice A n c) = CA at *
  generalize hCB : hcs b (.slice A2 n2 c2) = CB at *
  have HCA := Lib.hid hCA
  have HCB := Lib.hid hCB
  clear hCA hCB
  go_enter Try.func3, Try.ntmps3
  go_wp2_with (first
    | ((with_reducible show wpList _ _ _ (⟨some 8, _, _, _, _, _⟩ :: _) _ _); (try rw [← HW1.out]); refine wpList_load_mid rfl 29 _ rfl w.heap.size 0 rfl CA _ (Blk.range HBA.out) Try.underlying29 rfl HSZ.out ?_)
    | ((with_reducible show wpList _ _ _ (⟨none, .store _ (.tmp 7) _, _, _, _, _⟩ :: _) _ _); (try rw [← HWZ.out]); refine' wpList_store_mid rfl 29 _ _ rfl w1.heap.size 0 (CA).toArray ?hx rfl ?ht HSZ.out HSO.out ?_; (case hx => rfl); (case ht => exact HT2.out); rw [← HW2.out])
    | ((with_reducible show wpList _ _ _ (⟨some 12, _, _, _, _, _⟩ :: _) _ _); (try rw [← HW3.out]); refine By.wpList_append rfl _ _ rfl HY3.out rfl A n c _ a.dat rfl HLL.out.1 HR3.out (by have := HN.out; simp; omega) ?_; intro v4 w4 y4 k4; clear k4; have ya := y4; obtain ⟨A4, c4, rfl, r4⟩ := ya.rd; rw [List.nil_append] at ya r4 ⊢; rw [HLL.out.1] at ya ⊢; have h1 := HWA.out.s; have h2 := HWA.out.d; have g4 := Blk.keeps HB2.out (ya.keep (fun _ => False)) (fun z => z); rw [← HCA.out] at g4; have c42 : w4.cell? ⟨w1.heap.size, 42, none⟩ = some _ := h_cell g4 h1 h2 8 _ rfl; have f42 : w4.frozen? ⟨w1.heap.size, 42, none⟩ = false := g4.frozen 42; have g5 := st_dat g4 h1 h2 (.slice A4 n c4) a.dat; have p5 := keeps_put (G := w1.heap.size) (Keeps.refl _ w4) 42 (.slice A4 n c4); obtain ⟨x, hx⟩ : ∃ x, x = (a.id + 1) % 4294967296 := ⟨_, rfl⟩; have hxi : IntKind.u32.wrap ((a.id : Int) + 1) = (x : Int) := (by rw [IntKind.wrap_u32]; omega); have hxi2 : ((a.id : Int) + 1) % 4294967296 = (x : Int) := (by omega); have HX := Lib.hid hx; clear hx; have cx : (w4.setCell ⟨w1.heap.size, 42, none⟩ (.slice A4 n c4)).cell? ⟨w1.heap.size, 39, none⟩ = some _ := h_cell g5 h1 h2 5 _ rfl; have fx : (w4.setCell ⟨w1.heap.size, 42, none⟩ (.slice A4 n c4)).frozen? ⟨w1.heap.size, 39, none⟩ = false := g5.frozen 39; have g6 := st_id g5 h1 h2 x; have p6 := keeps_put p5 39 (.int .u32 (x : Int))))
  --@E
  obtain ⟨w6, hw6⟩ : ∃ w6, w6 = (w4.setCell ⟨w1.heap.size, 42, none⟩ (.slice A4 n c4)).setCell ⟨w1.heap.size, 39, none⟩ (.int .u32 (x : Int)) := ⟨_, rfl⟩
  rw [← hw6]
  rw [← hw6] at g6 p6
  have gC : Blk w6 w1.heap.size 29 (hcs (⟨a.src, a.dst, a.pr, a.sp, a.dp, a.ttl, a.cls, x, a.fl, a.seq, a.dat⟩ : Hd) (.slice A4 n c4)) := g6
  have hch : (⟨a.src, a.dst, a.pr, a.sp, a.dp, a.ttl, a.cls, x, a.fl, a.seq, a.dat⟩ : Hd).Wf := ⟨HWA.out.s, HWA.out.d, HWA.out.p, HWA.out.sl, HWA.out.dl, HWA.out.t, HWA.out.c, (by have := HX.out; show x < _; omega), HWA.out.f, HWA.out.q, HWA.out.b⟩
  have hne : ¬ a = (⟨a.src, a.dst, a.pr, a.sp, a.dp, a.ttl, a.cls, x, a.fl, a.seq, a.dat⟩ : Hd) := fun e => by have h3 : a.id = x := congrArg Hd.id e; have := HX.out; have := HWA.out.i; omega
  have hdl : (⟨a.src, a.dst, a.pr, a.sp, a.dp, a.ttl, a.cls, x, a.fl, a.seq, a.dat⟩ : Hd).dat.length = n := HLL.out.1
  have s1 := HS.out.1
  have s2 := HS.out.2
  have k16 : ∀ S, Keeps S w1 w6 := keeps_own (fun S => (HKK.out.2.1 S).trans (ya.keep S)) p6 (Nat.le_refl _)
  have kw6 : ∀ S, Keeps S w w6 := fun S => (HKK.out.1 S).trans (k16 S)
  have gA := Blk.keeps HBA.out (k16 (fun _ => False)) (fun z => z)
  have gB := Blk.keeps HBB.out (k16 (fun _ => False)) (fun z => z)
  have rC : Rd w6 w6.heap.size A4 (by_ (⟨a.src, a.dst, a.pr, a.sp, a.dp, a.ttl, a.cls, x, a.fl, a.seq, a.dat⟩ : Hd).dat) := (by obtain ⟨A9, c9, h9, r9⟩ := (past_ (By.base (w := w1) ya HKK.out.2.1) p6 (Nat.le_refl _) (ya.apart (by omega))).rd; injection h9 with e1 _ _; subst e1; exact r9)
  have KW6 := Lib.hid kw6
  have HCL : Hid (∀ wq, Keeps (fun _ => False) w6 wq → wq.rangeAt w.heap.size 0 CA ∧ wq.rangeAt (w.heap.size + 1) 0 CB ∧ wq.rangeAt w1.heap.size 0 (hcs (⟨a.src, a.dst, a.pr, a.sp, a.dp, a.ttl, a.cls, x, a.fl, a.seq, a.dat⟩ : Hd) (.slice A4 n c4))) := Lib.hid (fun wq kq => ⟨Blk.range (Blk.keeps gA kq (fun z => z)), Blk.range (Blk.keeps gB kq (fun z => z)), Blk.range (Blk.keeps gC kq (fun z => z))⟩)
  have ra : ∀ u, Keeps (fun _ => False) w6 u → Rd u u.heap.size A (by_ a.dat) := fun u hu => (rd_old HRR.out.1 ((kw6 _).trans hu)).more ((kw6 (fun _ => False)).trans hu).size
  have rb : ∀ u, Keeps (fun _ => False) w6 u → Rd u u.heap.size A2 (by_ b.dat) := fun u hu => (rd_old HRR.out.2 ((kw6 _).trans hu)).more ((kw6 (fun _ => False)).trans hu).size
  have rc : ∀ u, Keeps (fun _ => False) w6 u → Rd u u.heap.size A4 (by_ (⟨a.src, a.dst, a.pr, a.sp, a.dp, a.ttl, a.cls, x, a.fl, a.seq, a.dat⟩ : Hd).dat) := fun u hu => (rd_old rC hu).more hu.size
  have HAB : Hid (∀ u, Keeps (fun _ => False) w6 u → Calls Try.prog 11 #[.agg CA.toArray, .agg CB.toArray] u fun e w' => e = .returned (.bool (sameH a b)) ∧ ∀ S, Keeps S u w') := Lib.hid (fun u hu => by rw [← HCA.out, ← HCB.out]; exact psame2_ u a b HWA.out HWB.out A A2 n n2 c c2 HLL.out.1 HLL.out.2 (ra u hu) (rb u hu))
  have HRB : Hid (∀ u, Keeps (fun _ => False) w6 u → Calls Try.prog 12 #[.agg CA.toArray, .agg CB.toArray] u fun e w' => e = .returned (.bool (sameH a b)) ∧ ∀ S, Keeps S u w') := Lib.hid (fun u hu => by rw [← HCA.out, ← HCB.out]; exact rsame_ u a b HWA.out HWB.out A A2 n n2 c c2 HLL.out.1 HLL.out.2 (by have := HN.out; omega) (ra u hu) (rb u hu))
  have HAA : Hid (∀ u, Keeps (fun _ => False) w6 u → Calls Try.prog 11 #[.agg CA.toArray, .agg CA.toArray] u fun e w' => e = .returned (.bool true) ∧ ∀ S, Keeps S u w') := Lib.hid (fun u hu => by rw [← HCA.out]; have := psame2_ u a a HWA.out HWA.out A A n n c c HLL.out.1 HLL.out.1 (ra u hu) (ra u hu); rw [same_yes rfl] at this; exact this)
  have HAC : Hid (∀ u, Keeps (fun _ => False) w6 u → Calls Try.prog 11 #[.agg CA.toArray, .agg (hcs (⟨a.src, a.dst, a.pr, a.sp, a.dp, a.ttl, a.cls, x, a.fl, a.seq, a.dat⟩ : Hd) (.slice A4 n c4)).toArray] u fun e w' => e = .returned (.bool false) ∧ ∀ S, Keeps S u w') := Lib.hid (fun u hu => by rw [← HCA.out]; have := psame2_ u a (⟨a.src, a.dst, a.pr, a.sp, a.dp, a.ttl, a.cls, x, a.fl, a.seq, a.dat⟩ : Hd) HWA.out hch A A4 n n c c4 HLL.out.1 hdl (ra u hu) (rc u hu); rw [same_no hne] at this; exact this)
  have HCC : Hid (∀ u, Keeps (fun _ => False) w6 u → Calls Try.prog 11 #[.agg (hcs (⟨a.src, a.dst, a.pr, a.sp, a.dp, a.ttl, a.cls, x, a.fl, a.seq, a.dat⟩ : Hd) (.slice A4 n c4)).toArray, .agg CA.toArray] u fun e w' => e = .returned (.bool false) ∧ ∀ S, Keeps S u w') := Lib.hid (fun u hu => by rw [← HCA.out]; have := psame2_ u (⟨a.src, a.dst, a.pr, a.sp, a.dp, a.ttl, a.cls, x, a.fl, a.seq, a.dat⟩ : Hd) a hch HWA.out A4 A n n c4 c hdl HLL.out.1 (rc u hu) (ra u hu); rw [same_no (fun e => hne e.symm)] at this; exact this)
  have HSC : Hid ((Try.prog.info? 29).map (·.size) = some (hcs (⟨a.src, a.dst, a.pr, a.sp, a.dp, a.ttl, a.cls, x, a.fl, a.seq, a.dat⟩ : Hd) (.slice A4 n c4)).length) := Lib.hid (hd_sz hch _)
  have HSB : Hid ((Try.prog.info? 29).map (·.size) = some CB.length) := Lib.hid (by rw [← HCB.out]; exact hd_sz HWB.out _)
  clear hw6 g6 p6 gC hch hne hdl s1 s2 k16 kw6 gA gB rC ra rb rc ya r4 h1 h2 g4 c42 f42 g5 p5 cx fx hxi hxi2
  generalize hcs (⟨a.src, a.dst, a.pr, a.sp, a.dp, a.ttl, a.cls, x, a.fl, a.seq, a.dat⟩ : Hd) (.slice A4 n c4) = CC at *
  obtain ⟨z, hz⟩ : ∃ z, z = sameH a b := ⟨_, rfl⟩
  rw [← hz] at HAB HRB
  clear hz
  have hzz : (z == z) = true := beq_self_eq_true z
  go_wp2_with fail
  --@25
  refine wp_region_held_drew (S := fun w' => w'.rangeAt w.heap.size 0 CA ∧ w'.rangeAt (w.heap.size + 1) 0 CB ∧ w'.rangeAt w1.heap.size 0 CC) (by kernel_rfl) (HCL.out _ ((Keeps.refl _ w6).drew)) (fun hHeld => ?_)
  refine' wpAnyH_take (i := 0) (v := _) rfl (by kernel_rfl) (by kernel_rfl) (by kernel_rfl) (fun _ _ _ h => h) (yieldsIf_load_mid (by kernel_rfl) _ _ rfl _ _ rfl _ _ (fun w hSw => hSw.1) Try.underlying29 rfl HSZ.out) (by assumption) ?_
  try simp only [Act.put, Array.getInternal_eq_getElem, List.getElem_toArray, List.getElem_cons_zero, List.getElem_cons_succ, List.setIfInBounds_toArray, List.set_cons_zero, List.set_cons_succ]
  refine' wpAnyH_take (i := 1) (v := _) rfl (by kernel_rfl) (by kernel_rfl) (by kernel_rfl) (fun _ _ _ h => h) (yieldsIf_load_mid (by kernel_rfl) _ _ rfl _ _ rfl _ _ (fun w hSw => hSw.2.1) Try.underlying29 rfl HSB.out) (by assumption) ?_
  try simp only [Act.put, Array.getInternal_eq_getElem, List.getElem_toArray, List.getElem_cons_zero, List.getElem_cons_succ, List.setIfInBounds_toArray, List.set_cons_zero, List.set_cons_succ]
  refine' wpAnyH_take (i := 3) (v := _) rfl (by kernel_rfl) (by kernel_rfl) (by kernel_rfl) (fun _ _ _ h => h) (yieldsIf_load_mid (by kernel_rfl) _ _ rfl _ _ rfl _ _ (fun w hSw => hSw.1) Try.underlying29 rfl HSZ.out) (by assumption) ?_
  try simp only [Act.put, Array.getInternal_eq_getElem, List.getElem_toArray, List.getElem_cons_zero, List.getElem_cons_succ, List.setIfInBounds_toArray, List.set_cons_zero, List.set_cons_succ]
  refine' wpAnyH_take (i := 4) (v := _) rfl (by kernel_rfl) (by kernel_rfl) (by kernel_rfl) (fun _ _ _ h => h) (yieldsIf_load_mid (by kernel_rfl) _ _ rfl _ _ rfl _ _ (fun w hSw => hSw.2.1) Try.underlying29 rfl HSB.out) (by assumption) ?_
  try simp only [Act.put, Array.getInternal_eq_getElem, List.getElem_toArray, List.getElem_cons_zero, List.getElem_cons_succ, List.setIfInBounds_toArray, List.set_cons_zero, List.set_cons_succ]
  refine wpAnyH_ready (rs := [2]) (by kernel_rfl) (by simp) ?_
  refine AllReadyH.cons rfl (fun K hK => ?_) AllReadyH.nil
  (rw [if_pos (by kernel_rfl)]; go_simp; go_at_call 11; refine (HAB.out _ ((Keeps.refl _ w6).drew)).mono ?_; rintro e u1 ⟨rfl, k1⟩; have K1 := Lib.hid (Keeps.trans (S := fun _ => False) ((Keeps.refl _ w6).drew) (k1 _)); clear k1)
  refine hK.out _ _ (HCL.out _ K1.out) (fun hHeld => ?_)
  clear hK K
  try simp only [Act.put, Array.getInternal_eq_getElem, List.getElem_toArray, List.getElem_cons_zero, List.getElem_cons_succ, List.setIfInBounds_toArray, List.set_cons_zero, List.set_cons_succ]
  refine wpAnyH_ready (rs := [5]) (by kernel_rfl) (by simp) ?_
  refine AllReadyH.cons rfl (fun K hK => ?_) AllReadyH.nil
  (rw [if_pos (by kernel_rfl)]; go_simp; go_at_call 12; refine (HRB.out _ K1.out).mono ?_; rintro e u2 ⟨rfl, k2⟩; have K2 := Lib.hid (Keeps.trans (S := fun _ => False) K1.out (k2 _)); clear k2)
  refine hK.out _ _ (HCL.out _ K2.out) (fun hHeld => ?_)
  clear hK K
  try simp only [Act.put, Array.getInternal_eq_getElem, List.getElem_toArray, List.getElem_cons_zero, List.getElem_cons_succ, List.setIfInBounds_toArray, List.set_cons_zero, List.set_cons_succ]
  refine wpAnyH_take (i := 6) (v := ?_) rfl (by kernel_rfl) (by kernel_rfl) (by kernel_rfl) (fun _ _ _ h => h) (Or.inl ⟨by kernel_rfl, ?_⟩) (by assumption) ?_
  rotate_left
  · (intro w hSw; (try dsimp only at hSw); go_simp) <;> (try (with_reducible rfl))
  try simp only [Act.put, Array.getInternal_eq_getElem, List.getElem_toArray, List.getElem_cons_zero, List.getElem_cons_succ, List.setIfInBounds_toArray, List.set_cons_zero, List.set_cons_succ]
  refine wpAnyH_take (i := 7) (v := ?_) rfl (by kernel_rfl) (by kernel_rfl) (by kernel_rfl) (fun _ _ _ h => h) (Or.inl ⟨by kernel_rfl, ?_⟩) (by assumption) ?_
  rotate_left
  · (intro w hSw; (try dsimp only at hSw); go_simp) <;> (try (with_reducible rfl))
  try simp only [Act.put, Array.getInternal_eq_getElem, List.getElem_toArray, List.getElem_cons_zero, List.getElem_cons_succ, List.setIfInBounds_toArray, List.set_cons_zero, List.set_cons_succ]
  refine' wpAnyH_take (i := 8) (v := _) rfl (by kernel_rfl) (by kernel_rfl) (by kernel_rfl) (fun _ _ _ h => h) (yieldsIf_load_mid (by kernel_rfl) _ _ rfl _ _ rfl _ _ (fun w hSw => hSw.1) Try.underlying29 rfl HSZ.out) (by assumption) ?_
  try simp only [Act.put, Array.getInternal_eq_getElem, List.getElem_toArray, List.getElem_cons_zero, List.getElem_cons_succ, List.setIfInBounds_toArray, List.set_cons_zero, List.set_cons_succ]
  refine' wpAnyH_take (i := 9) (v := _) rfl (by kernel_rfl) (by kernel_rfl) (by kernel_rfl) (fun _ _ _ h => h) (yieldsIf_load_mid (by kernel_rfl) _ _ rfl _ _ rfl _ _ (fun w hSw => hSw.1) Try.underlying29 rfl HSZ.out) (by assumption) ?_
  try simp only [Act.put, Array.getInternal_eq_getElem, List.getElem_toArray, List.getElem_cons_zero, List.getElem_cons_succ, List.setIfInBounds_toArray, List.set_cons_zero, List.set_cons_succ]
  refine wpAnyH_ready (rs := [10]) (by kernel_rfl) (by simp) ?_
  refine AllReadyH.cons rfl (fun K hK => ?_) AllReadyH.nil
  (rw [if_pos (by kernel_rfl)]; go_simp; go_at_call 11; refine (HAA.out _ K2.out).mono ?_; rintro e u3 ⟨rfl, k3⟩; have K3 := Lib.hid (Keeps.trans (S := fun _ => False) K2.out (k3 _)); clear k3)
  refine hK.out _ _ (HCL.out _ K3.out) (fun hHeld => ?_)
  clear hK K
  try simp only [Act.put, Array.getInternal_eq_getElem, List.getElem_toArray, List.getElem_cons_zero, List.getElem_cons_succ, List.setIfInBounds_toArray, List.set_cons_zero, List.set_cons_succ]
  refine wpAnyH_take (i := 11) (v := ?_) rfl (by kernel_rfl) (by kernel_rfl) (by kernel_rfl) (fun _ _ _ h => h) (Or.inl ⟨by kernel_rfl, ?_⟩) (by assumption) ?_
  rotate_left
  · (intro w hSw; (try dsimp only at hSw); go_simp) <;> (try (with_reducible rfl))
  try simp only [Act.put, Array.getInternal_eq_getElem, List.getElem_toArray, List.getElem_cons_zero, List.getElem_cons_succ, List.setIfInBounds_toArray, List.set_cons_zero, List.set_cons_succ]
  refine wpAnyH_take (i := 12) (v := ?_) rfl (by kernel_rfl) (by kernel_rfl) (by kernel_rfl) (fun _ _ _ h => h) (Or.inl ⟨by kernel_rfl, ?_⟩) (by assumption) ?_
  rotate_left
  · (intro w hSw; (try dsimp only at hSw); go_simp) <;> (try (with_reducible rfl))
  try simp only [Act.put, Array.getInternal_eq_getElem, List.getElem_toArray, List.getElem_cons_zero, List.getElem_cons_succ, List.setIfInBounds_toArray, List.set_cons_zero, List.set_cons_succ]
  refine' wpAnyH_take (i := 13) (v := _) rfl (by kernel_rfl) (by kernel_rfl) (by kernel_rfl) (fun _ _ _ h => h) (yieldsIf_load_mid (by kernel_rfl) _ _ rfl _ _ rfl _ _ (fun w hSw => hSw.1) Try.underlying29 rfl HSZ.out) (by assumption) ?_
  try simp only [Act.put, Array.getInternal_eq_getElem, List.getElem_toArray, List.getElem_cons_zero, List.getElem_cons_succ, List.setIfInBounds_toArray, List.set_cons_zero, List.set_cons_succ]
  refine' wpAnyH_take (i := 14) (v := _) rfl (by kernel_rfl) (by kernel_rfl) (by kernel_rfl) (fun _ _ _ h => h) (yieldsIf_load_mid (by kernel_rfl) _ _ rfl _ _ rfl _ _ (fun w hSw => hSw.2.2) Try.underlying29 rfl HSC.out) (by assumption) ?_
  try simp only [Act.put, Array.getInternal_eq_getElem, List.getElem_toArray, List.getElem_cons_zero, List.getElem_cons_succ, List.setIfInBounds_toArray, List.set_cons_zero, List.set_cons_succ]
  refine wpAnyH_ready (rs := [15]) (by kernel_rfl) (by simp) ?_
  refine AllReadyH.cons rfl (fun K hK => ?_) AllReadyH.nil
  (rw [if_pos (by kernel_rfl)]; go_simp; go_at_call 11; refine (HAC.out _ K3.out).mono ?_; rintro e u4 ⟨rfl, k4⟩; have K4 := Lib.hid (Keeps.trans (S := fun _ => False) K3.out (k4 _)); clear k4)
  refine hK.out _ _ (HCL.out _ K4.out) (fun hHeld => ?_)
  clear hK K
  try simp only [Act.put, Array.getInternal_eq_getElem, List.getElem_toArray, List.getElem_cons_zero, List.getElem_cons_succ, List.setIfInBounds_toArray, List.set_cons_zero, List.set_cons_succ]
  refine wpAnyH_take (i := 16) (v := ?_) rfl (by kernel_rfl) (by kernel_rfl) (by kernel_rfl) (fun _ _ _ h => h) (Or.inl ⟨by kernel_rfl, ?_⟩) (by assumption) ?_
  rotate_left
  · (intro w hSw; (try dsimp only at hSw); go_simp) <;> (try (with_reducible rfl))
  try simp only [Act.put, Array.getInternal_eq_getElem, List.getElem_toArray, List.getElem_cons_zero, List.getElem_cons_succ, List.setIfInBounds_toArray, List.set_cons_zero, List.set_cons_succ]
  refine wpAnyH_take (i := 17) (v := ?_) rfl (by kernel_rfl) (by kernel_rfl) (by kernel_rfl) (fun _ _ _ h => h) (Or.inl ⟨by kernel_rfl, ?_⟩) (by assumption) ?_
  rotate_left
  · (intro w hSw; (try dsimp only at hSw); go_simp) <;> (try (with_reducible rfl))
  try simp only [Act.put, Array.getInternal_eq_getElem, List.getElem_toArray, List.getElem_cons_zero, List.getElem_cons_succ, List.setIfInBounds_toArray, List.set_cons_zero, List.set_cons_succ]
  refine wpAnyH_take (i := 18) (v := ?_) rfl (by kernel_rfl) (by kernel_rfl) (by kernel_rfl) (fun _ _ _ h => h) (Or.inl ⟨by kernel_rfl, ?_⟩) (by assumption) ?_
  rotate_left
  · (intro w hSw; (try dsimp only at hSw); go_simp) <;> (try (with_reducible rfl))
  try simp only [Act.put, Array.getInternal_eq_getElem, List.getElem_toArray, List.getElem_cons_zero, List.getElem_cons_succ, List.setIfInBounds_toArray, List.set_cons_zero, List.set_cons_succ]
  refine' wpAnyH_take (i := 19) (v := _) rfl (by kernel_rfl) (by kernel_rfl) (by kernel_rfl) (fun _ _ _ h => h) (yieldsIf_load_mid (by kernel_rfl) _ _ rfl _ _ rfl _ _ (fun w hSw => hSw.2.2) Try.underlying29 rfl HSC.out) (by assumption) ?_
  try simp only [Act.put, Array.getInternal_eq_getElem, List.getElem_toArray, List.getElem_cons_zero, List.getElem_cons_succ, List.setIfInBounds_toArray, List.set_cons_zero, List.set_cons_succ]
  refine' wpAnyH_take (i := 20) (v := _) rfl (by kernel_rfl) (by kernel_rfl) (by kernel_rfl) (fun _ _ _ h => h) (yieldsIf_load_mid (by kernel_rfl) _ _ rfl _ _ rfl _ _ (fun w hSw => hSw.1) Try.underlying29 rfl HSZ.out) (by assumption) ?_
  try simp only [Act.put, Array.getInternal_eq_getElem, List.getElem_toArray, List.getElem_cons_zero, List.getElem_cons_succ, List.setIfInBounds_toArray, List.set_cons_zero, List.set_cons_succ]
  refine wpAnyH_ready (rs := [21]) (by kernel_rfl) (by simp) ?_
  refine AllReadyH.cons rfl (fun K hK => ?_) AllReadyH.nil
  (rw [if_pos (by kernel_rfl)]; go_simp; go_at_call 11; refine (HCC.out _ K4.out).mono ?_; rintro e u5 ⟨rfl, k5⟩; have K5 := Lib.hid (Keeps.trans (S := fun _ => False) K4.out (k5 _)); clear k5)
  refine hK.out _ _ (HCL.out _ K5.out) (fun hHeld => ?_)
  clear hK K
  try simp only [Act.put, Array.getInternal_eq_getElem, List.getElem_toArray, List.getElem_cons_zero, List.getElem_cons_succ, List.setIfInBounds_toArray, List.set_cons_zero, List.set_cons_succ]
  refine wpAnyH_take (i := 22) (v := ?_) rfl (by kernel_rfl) (by kernel_rfl) (by kernel_rfl) (fun _ _ _ h => h) (Or.inl ⟨by kernel_rfl, ?_⟩) (by assumption) ?_
  rotate_left
  · (intro w hSw; (try dsimp only at hSw); go_simp) <;> (try (with_reducible rfl))
  try simp only [Act.put, Array.getInternal_eq_getElem, List.getElem_toArray, List.getElem_cons_zero, List.getElem_cons_succ, List.setIfInBounds_toArray, List.set_cons_zero, List.set_cons_succ]
  refine wpAnyH_take (i := 23) (v := ?_) rfl (by kernel_rfl) (by kernel_rfl) (by kernel_rfl) (fun _ _ _ h => h) (Or.inl ⟨by kernel_rfl, ?_⟩) (by assumption) ?_
  rotate_left
  · (intro w hSw; (try dsimp only at hSw); go_simp) <;> (try (with_reducible rfl))
  try simp only [Act.put, Array.getInternal_eq_getElem, List.getElem_toArray, List.getElem_cons_zero, List.getElem_cons_succ, List.setIfInBounds_toArray, List.set_cons_zero, List.set_cons_succ]
  refine wpAnyH_take (i := 24) (v := ?_) rfl (by kernel_rfl) (by kernel_rfl) (by kernel_rfl) (fun _ _ _ h => h) (Or.inl ⟨by kernel_rfl, ?_⟩) (by assumption) ?_
  rotate_left
  · (intro w hSw; (try dsimp only at hSw); go_simp) <;> (try (with_reducible rfl))
  try simp only [Act.put, Array.getInternal_eq_getElem, List.getElem_toArray, List.getElem_cons_zero, List.getElem_cons_succ, List.setIfInBounds_toArray, List.set_cons_zero, List.set_cons_succ]
  refine wpAnyH_ready (rs := [25]) (by kernel_rfl) (by simp) ?_
  refine AllReadyH.cons rfl (fun K hK => ?_) AllReadyH.nil
  (rw [if_pos (by kernel_rfl)]; go_simp; go_at_call 13; refine (works_ _).mono ?_; rintro e u6 ⟨rfl, k6⟩; have K6 := Lib.hid (Keeps.trans (S := fun _ => False) K5.out (k6 _)); clear k6)
  refine hK.out _ _ (HCL.out _ K6.out) (fun hHeld => ?_)
  clear hK K
  try simp only [Act.put, Array.getInternal_eq_getElem, List.getElem_toArray, List.getElem_cons_zero, List.getElem_cons_succ, List.setIfInBounds_toArray, List.set_cons_zero, List.set_cons_succ]
  refine wpAnyH_take (i := 26) (v := ?_) rfl (by kernel_rfl) (by kernel_rfl) (by kernel_rfl) (fun _ _ _ h => h) (Or.inl ⟨by kernel_rfl, ?_⟩) (by assumption) ?_
  rotate_left
  · (intro w hSw; (try dsimp only at hSw); go_simp) <;> (try (with_reducible rfl))
  try simp only [Act.put, Array.getInternal_eq_getElem, List.getElem_toArray, List.getElem_cons_zero, List.getElem_cons_succ, List.setIfInBounds_toArray, List.set_cons_zero, List.set_cons_succ]
  refine wpAnyH_take (i := 27) (v := ?_) rfl (by kernel_rfl) (by kernel_rfl) (by kernel_rfl) (fun _ _ _ h => h) (Or.inl ⟨by kernel_rfl, ?_⟩) (by assumption) ?_
  rotate_left
  · (intro w hSw; (try dsimp only at hSw); go_simp) <;> (try (with_reducible rfl))
  try simp only [Act.put, Array.getInternal_eq_getElem, List.getElem_toArray, List.getElem_cons_zero, List.getElem_cons_succ, List.setIfInBounds_toArray, List.set_cons_zero, List.set_cons_succ]
  refine wpAnyH_done ?_ ?_ _
  · kernel_rfl
  go_wp2_with fail
  try rw [Exit.noGoto_ret]
  go_ret
  exact ⟨rfl, fun S => (KW6.out S).trans (K6.out.mono (fun _ _ z => z.elim))⟩
end
end Go.Proofs.Ytidengmcbppcoaa.pk
set_option linter.unusedVariables false
set_option linter.unusedSimpArgs false
namespace Go.Proofs.Ytidengmcbppcoaa.pk
open Go.RowKit Go.Proofs.Ytidengmcbppcoaa.oc Go.Proofs.Ytidengmcbppcoaa.mz Go.Proofs.Ytidengmcbppcoaa.pf Go.Proofs.Ytidengmcbppcoaa.wh Go.Proofs.Ytidengmcbppcoaa.qk Go.Proofs.Ytidengmcbppcoaa.bys
section
variable (w : World)
set_option maxRecDepth 100000 in
set_option maxHeartbeats 4000000 in
theorem psl_8 (a b : Hd) (ha : a.Wf) (hb : b.Wf) (A A2 : Option Addr) (n n2 c c2 : Nat) (hl : a.dat.length = n) (hl2 : b.dat.length = n2) (hn : n ≤ 140737488351232) (hr : Rd w w.heap.size A (by_ a.dat)) (hr2 : Rd w w.heap.size A2 (by_ b.dat)) (f : Int) (hf1 : -9223372036854775808 ≤ f) (hf2 : f ≤ 9223372036854775807) (hq : Int.tmod (Int.tmod f 11 + 11) 11 = 8) :
    Calls Try.prog 3 #[hvv a (.slice A n c), hvv b (.slice A2 n2 c2), .int .i64 f] w fun e w' => e = .returned (.bool true) ∧ ∀ S, Keeps S w w' := by
  obtain ⟨w1, hw1, k1, bA, bB, s1⟩ := box2 w (hcs a (.slice A n c)) (hcs b (.slice A2 n2 c2)) 29 29
  obtain ⟨wz, hwz, kz, bz, sz⟩ := box1 w1 zhd 29
  dsimp only [zhd] at hwz
  obtain ⟨t2, b2, k2⟩ := p_store bz (cs := hcs a (.slice A n c)) (by rw [hcs_len ha]; rfl)
  obtain ⟨w2, hw2⟩ : ∃ w2, w2 = wz.setCells w1.heap.size 0 (hcs a (.slice A n c)) := ⟨_, rfl⟩
  rw [← hw2] at b2 k2
  have k12 : ∀ S, Keeps S w1 w2 := keeps_own kz k2 (Nat.le_refl _)
  obtain ⟨w3, hw3, k3, b3, s3⟩ := box1 w2 [] 5
  have s2 : w1.heap.size + 1 ≤ w2.heap.size := by have := k2.size; omega
  have y3 : By w2 w3 (.slice (some ⟨w2.heap.size, 0, none⟩) 0 0) [] := By.of_blk b3 rfl (Nat.le_refl _) (by omega) k3
  have r3 := rd_old hr (((k1 (fun _ => False)).trans (k12 _)).trans (k3 _))
  obtain ⟨r, hrm⟩ : ∃ r, Int.tmod f 11 = r := ⟨_, rfl⟩
  have hrb := tmod11 f
  rw [hrm] at hrb hq
  have r1 := hrb.1
  have r2 := hrb.2
  have x42 : w3.cell? ⟨w.heap.size, 42, none⟩ = some (.slice A n c) := (HF.of_blk ha (Blk.keeps bA ((k12 (fun _ => False)).trans (k3 _)) (fun z => z))).dat
  have HWA := Lib.hid ha
  have HWB := Lib.hid hb
  have HY3 := Lib.hid y3
  have HR3 := Lib.hid r3
  have HLL := Lib.hid (And.intro hl hl2)
  have HRR := Lib.hid (And.intro hr hr2)
  have HN := Lib.hid hn
  have HKK := Lib.hid (And.intro k1 (And.intro k12 k3))
  have HBA := Lib.hid bA
  have HBB := Lib.hid bB
  have HB2 := Lib.hid b2
  have HT2 := Lib.hid t2
  have HS := Lib.hid (And.intro s1 s2)
  have HSZ : Hid ((Try.prog.info? 29).map (·.size) = some (hcs a (.slice A n c)).length) := Lib.hid (hd_sz ha _)
  have HSO := Lib.hid (all_oneCell_toArray (hcs_one (h := a) (v := .slice A n c) rfl))
  have HW1 := Lib.hid hw1
  have HWZ := Lib.hid hwz
  have HW2 := Lib.hid hw2
  replace hw3 : w3 = w2.alloc (.cells #[] 5) := hw3
  rw [hw3] at x42
  have HW3 := Lib.hid hw3
  unfold hvv
  clear hw1 k1 bA bB s1 hwz kz bz sz t2 b2 k2 hw2 k12 hw3 k3 b3 s3 s2 y3 r3 hrb ha hb hl hl2 hr hr2
  generalize hCA : hcs a (.slice A n c) = CA at *
  generalize hCB : hcs b (.slice A2 n2 c2) = CB at *
  have HCA := Lib.hid hCA
  have HCB := Lib.hid hCB
  clear hCA hCB
  go_enter Try.func3, Try.ntmps3
  go_wp2_with (first
    | ((with_reducible show wpList _ _ _ (⟨some 8, _, _, _, _, _⟩ :: _) _ _); (try rw [← HW1.out]); refine wpList_load_mid rfl 29 _ rfl w.heap.size 0 rfl CA _ (Blk.range HBA.out) Try.underlying29 rfl HSZ.out ?_)
    | ((with_reducible show wpList _ _ _ (⟨none, .store _ (.tmp 7) _, _, _, _, _⟩ :: _) _ _); (try rw [← HWZ.out]); refine' wpList_store_mid rfl 29 _ _ rfl w1.heap.size 0 (CA).toArray ?hx rfl ?ht HSZ.out HSO.out ?_; (case hx => rfl); (case ht => exact HT2.out); rw [← HW2.out])
    | ((with_reducible show wpList _ _ _ (⟨some 12, _, _, _, _, _⟩ :: _) _ _); (try rw [← HW3.out]); refine By.wpList_append rfl _ _ rfl HY3.out rfl A n c _ a.dat rfl HLL.out.1 HR3.out (by have := HN.out; simp; omega) ?_; intro v4 w4 y4 k4; clear k4; have ya := y4; obtain ⟨A4, c4, rfl, r4⟩ := ya.rd; rw [List.nil_append] at ya r4 ⊢; rw [HLL.out.1] at ya ⊢; have h1 := HWA.out.s; have h2 := HWA.out.d; have g4 := Blk.keeps HB2.out (ya.keep (fun _ => False)) (fun z => z); rw [← HCA.out] at g4; have c42 : w4.cell? ⟨w1.heap.size, 42, none⟩ = some _ := h_cell g4 h1 h2 8 _ rfl; have f42 : w4.frozen? ⟨w1.heap.size, 42, none⟩ = false := g4.frozen 42; have g5 := st_dat g4 h1 h2 (.slice A4 n c4) a.dat; have p5 := keeps_put (G := w1.heap.size) (Keeps.refl _ w4) 42 (.slice A4 n c4); obtain ⟨x, hx⟩ : ∃ x, x = (a.fl + 1) % 256 := ⟨_, rfl⟩; have hxi : IntKind.u8.wrap ((a.fl : Int) + 1) = (x : Int) := (by rw [IntKind.wrap_u8]; omega); have hxi2 : ((a.fl : Int) + 1) % 256 = (x : Int) := (by omega); have HX := Lib.hid hx; clear hx; have cx : (w4.setCell ⟨w1.heap.size, 42, none⟩ (.slice A4 n c4)).cell? ⟨w1.heap.size, 40, none⟩ = some _ := h_cell g5 h1 h2 6 _ rfl; have fx : (w4.setCell ⟨w1.heap.size, 42, none⟩ (.slice A4 n c4)).frozen? ⟨w1.heap.size, 40, none⟩ = false := g5.frozen 40; have g6 := st_fl g5 h1 h2 x; have p6 := keeps_put p5 40 (.int .u8 (x : Int))))
  --@E
  obtain ⟨w6, hw6⟩ : ∃ w6, w6 = (w4.setCell ⟨w1.heap.size, 42, none⟩ (.slice A4 n c4)).setCell ⟨w1.heap.size, 40, none⟩ (.int .u8 (x : Int)) := ⟨_, rfl⟩
  rw [← hw6]
  rw [← hw6] at g6 p6
  have gC : Blk w6 w1.heap.size 29 (hcs (⟨a.src, a.dst, a.pr, a.sp, a.dp, a.ttl, a.cls, a.id, x, a.seq, a.dat⟩ : Hd) (.slice A4 n c4)) := g6
  have hch : (⟨a.src, a.dst, a.pr, a.sp, a.dp, a.ttl, a.cls, a.id, x, a.seq, a.dat⟩ : Hd).Wf := ⟨HWA.out.s, HWA.out.d, HWA.out.p, HWA.out.sl, HWA.out.dl, HWA.out.t, HWA.out.c, HWA.out.i, (by have := HX.out; show x < _; omega), HWA.out.q, HWA.out.b⟩
  have hne : ¬ a = (⟨a.src, a.dst, a.pr, a.sp, a.dp, a.ttl, a.cls, a.id, x, a.seq, a.dat⟩ : Hd) := fun e => by have h3 : a.fl = x := congrArg Hd.fl e; have := HX.out; have := HWA.out.f; omega
  have hdl : (⟨a.src, a.dst, a.pr, a.sp, a.dp, a.ttl, a.cls, a.id, x, a.seq, a.dat⟩ : Hd).dat.length = n := HLL.out.1
  have s1 := HS.out.1
  have s2 := HS.out.2
  have k16 : ∀ S, Keeps S w1 w6 := keeps_own (fun S => (HKK.out.2.1 S).trans (ya.keep S)) p6 (Nat.le_refl _)
  have kw6 : ∀ S, Keeps S w w6 := fun S => (HKK.out.1 S).trans (k16 S)
  have gA := Blk.keeps HBA.out (k16 (fun _ => False)) (fun z => z)
  have gB := Blk.keeps HBB.out (k16 (fun _ => False)) (fun z => z)
  have rC : Rd w6 w6.heap.size A4 (by_ (⟨a.src, a.dst, a.pr, a.sp, a.dp, a.ttl, a.cls, a.id, x, a.seq, a.dat⟩ : Hd).dat) := (by obtain ⟨A9, c9, h9, r9⟩ := (past_ (By.base (w := w1) ya HKK.out.2.1) p6 (Nat.le_refl _) (ya.apart (by omega))).rd; injection h9 with e1 _ _; subst e1; exact r9)
  have KW6 := Lib.hid kw6
  have HCL : Hid (∀ wq, Keeps (fun _ => False) w6 wq → wq.rangeAt w.heap.size 0 CA ∧ wq.rangeAt (w.heap.size + 1) 0 CB ∧ wq.rangeAt w1.heap.size 0 (hcs (⟨a.src, a.dst, a.pr, a.sp, a.dp, a.ttl, a.cls, a.id, x, a.seq, a.dat⟩ : Hd) (.slice A4 n c4))) := Lib.hid (fun wq kq => ⟨Blk.range (Blk.keeps gA kq (fun z => z)), Blk.range (Blk.keeps gB kq (fun z => z)), Blk.range (Blk.keeps gC kq (fun z => z))⟩)
  have ra : ∀ u, Keeps (fun _ => False) w6 u → Rd u u.heap.size A (by_ a.dat) := fun u hu => (rd_old HRR.out.1 ((kw6 _).trans hu)).more ((kw6 (fun _ => False)).trans hu).size
  have rb : ∀ u, Keeps (fun _ => False) w6 u → Rd u u.heap.size A2 (by_ b.dat) := fun u hu => (rd_old HRR.out.2 ((kw6 _).trans hu)).more ((kw6 (fun _ => False)).trans hu).size
  have rc : ∀ u, Keeps (fun _ => False) w6 u → Rd u u.heap.size A4 (by_ (⟨a.src, a.dst, a.pr, a.sp, a.dp, a.ttl, a.cls, a.id, x, a.seq, a.dat⟩ : Hd).dat) := fun u hu => (rd_old rC hu).more hu.size
  have HAB : Hid (∀ u, Keeps (fun _ => False) w6 u → Calls Try.prog 11 #[.agg CA.toArray, .agg CB.toArray] u fun e w' => e = .returned (.bool (sameH a b)) ∧ ∀ S, Keeps S u w') := Lib.hid (fun u hu => by rw [← HCA.out, ← HCB.out]; exact psame2_ u a b HWA.out HWB.out A A2 n n2 c c2 HLL.out.1 HLL.out.2 (ra u hu) (rb u hu))
  have HRB : Hid (∀ u, Keeps (fun _ => False) w6 u → Calls Try.prog 12 #[.agg CA.toArray, .agg CB.toArray] u fun e w' => e = .returned (.bool (sameH a b)) ∧ ∀ S, Keeps S u w') := Lib.hid (fun u hu => by rw [← HCA.out, ← HCB.out]; exact rsame_ u a b HWA.out HWB.out A A2 n n2 c c2 HLL.out.1 HLL.out.2 (by have := HN.out; omega) (ra u hu) (rb u hu))
  have HAA : Hid (∀ u, Keeps (fun _ => False) w6 u → Calls Try.prog 11 #[.agg CA.toArray, .agg CA.toArray] u fun e w' => e = .returned (.bool true) ∧ ∀ S, Keeps S u w') := Lib.hid (fun u hu => by rw [← HCA.out]; have := psame2_ u a a HWA.out HWA.out A A n n c c HLL.out.1 HLL.out.1 (ra u hu) (ra u hu); rw [same_yes rfl] at this; exact this)
  have HAC : Hid (∀ u, Keeps (fun _ => False) w6 u → Calls Try.prog 11 #[.agg CA.toArray, .agg (hcs (⟨a.src, a.dst, a.pr, a.sp, a.dp, a.ttl, a.cls, a.id, x, a.seq, a.dat⟩ : Hd) (.slice A4 n c4)).toArray] u fun e w' => e = .returned (.bool false) ∧ ∀ S, Keeps S u w') := Lib.hid (fun u hu => by rw [← HCA.out]; have := psame2_ u a (⟨a.src, a.dst, a.pr, a.sp, a.dp, a.ttl, a.cls, a.id, x, a.seq, a.dat⟩ : Hd) HWA.out hch A A4 n n c c4 HLL.out.1 hdl (ra u hu) (rc u hu); rw [same_no hne] at this; exact this)
  have HCC : Hid (∀ u, Keeps (fun _ => False) w6 u → Calls Try.prog 11 #[.agg (hcs (⟨a.src, a.dst, a.pr, a.sp, a.dp, a.ttl, a.cls, a.id, x, a.seq, a.dat⟩ : Hd) (.slice A4 n c4)).toArray, .agg CA.toArray] u fun e w' => e = .returned (.bool false) ∧ ∀ S, Keeps S u w') := Lib.hid (fun u hu => by rw [← HCA.out]; have := psame2_ u (⟨a.src, a.dst, a.pr, a.sp, a.dp, a.ttl, a.cls, a.id, x, a.seq, a.dat⟩ : Hd) a hch HWA.out A4 A n n c4 c hdl HLL.out.1 (rc u hu) (ra u hu); rw [same_no (fun e => hne e.symm)] at this; exact this)
  have HSC : Hid ((Try.prog.info? 29).map (·.size) = some (hcs (⟨a.src, a.dst, a.pr, a.sp, a.dp, a.ttl, a.cls, a.id, x, a.seq, a.dat⟩ : Hd) (.slice A4 n c4)).length) := Lib.hid (hd_sz hch _)
  have HSB : Hid ((Try.prog.info? 29).map (·.size) = some CB.length) := Lib.hid (by rw [← HCB.out]; exact hd_sz HWB.out _)
  clear hw6 g6 p6 gC hch hne hdl s1 s2 k16 kw6 gA gB rC ra rb rc ya r4 h1 h2 g4 c42 f42 g5 p5 cx fx hxi hxi2
  generalize hcs (⟨a.src, a.dst, a.pr, a.sp, a.dp, a.ttl, a.cls, a.id, x, a.seq, a.dat⟩ : Hd) (.slice A4 n c4) = CC at *
  obtain ⟨z, hz⟩ : ∃ z, z = sameH a b := ⟨_, rfl⟩
  rw [← hz] at HAB HRB
  clear hz
  have hzz : (z == z) = true := beq_self_eq_true z
  go_wp2_with fail
  --@25
  refine wp_region_held_drew (S := fun w' => w'.rangeAt w.heap.size 0 CA ∧ w'.rangeAt (w.heap.size + 1) 0 CB ∧ w'.rangeAt w1.heap.size 0 CC) (by kernel_rfl) (HCL.out _ ((Keeps.refl _ w6).drew)) (fun hHeld => ?_)
  refine' wpAnyH_take (i := 0) (v := _) rfl (by kernel_rfl) (by kernel_rfl) (by kernel_rfl) (fun _ _ _ h => h) (yieldsIf_load_mid (by kernel_rfl) _ _ rfl _ _ rfl _ _ (fun w hSw => hSw.1) Try.underlying29 rfl HSZ.out) (by assumption) ?_
  try simp only [Act.put, Array.getInternal_eq_getElem, List.getElem_toArray, List.getElem_cons_zero, List.getElem_cons_succ, List.setIfInBounds_toArray, List.set_cons_zero, List.set_cons_succ]
  refine' wpAnyH_take (i := 1) (v := _) rfl (by kernel_rfl) (by kernel_rfl) (by kernel_rfl) (fun _ _ _ h => h) (yieldsIf_load_mid (by kernel_rfl) _ _ rfl _ _ rfl _ _ (fun w hSw => hSw.2.1) Try.underlying29 rfl HSB.out) (by assumption) ?_
  try simp only [Act.put, Array.getInternal_eq_getElem, List.getElem_toArray, List.getElem_cons_zero, List.getElem_cons_succ, List.setIfInBounds_toArray, List.set_cons_zero, List.set_cons_succ]
  refine' wpAnyH_take (i := 3) (v := _) rfl (by kernel_rfl) (by kernel_rfl) (by kernel_rfl) (fun _ _ _ h => h) (yieldsIf_load_mid (by kernel_rfl) _ _ rfl _ _ rfl _ _ (fun w hSw => hSw.1) Try.underlying29 rfl HSZ.out) (by assumption) ?_
  try simp only [Act.put, Array.getInternal_eq_getElem, List.getElem_toArray, List.getElem_cons_zero, List.getElem_cons_succ, List.setIfInBounds_toArray, List.set_cons_zero, List.set_cons_succ]
  refine' wpAnyH_take (i := 4) (v := _) rfl (by kernel_rfl) (by kernel_rfl) (by kernel_rfl) (fun _ _ _ h => h) (yieldsIf_load_mid (by kernel_rfl) _ _ rfl _ _ rfl _ _ (fun w hSw => hSw.2.1) Try.underlying29 rfl HSB.out) (by assumption) ?_
  try simp only [Act.put, Array.getInternal_eq_getElem, List.getElem_toArray, List.getElem_cons_zero, List.getElem_cons_succ, List.setIfInBounds_toArray, List.set_cons_zero, List.set_cons_succ]
  refine wpAnyH_ready (rs := [2]) (by kernel_rfl) (by simp) ?_
  refine AllReadyH.cons rfl (fun K hK => ?_) AllReadyH.nil
  (rw [if_pos (by kernel_rfl)]; go_simp; go_at_call 11; refine (HAB.out _ ((Keeps.refl _ w6).drew)).mono ?_; rintro e u1 ⟨rfl, k1⟩; have K1 := Lib.hid (Keeps.trans (S := fun _ => False) ((Keeps.refl _ w6).drew) (k1 _)); clear k1)
  refine hK.out _ _ (HCL.out _ K1.out) (fun hHeld => ?_)
  clear hK K
  try simp only [Act.put, Array.getInternal_eq_getElem, List.getElem_toArray, List.getElem_cons_zero, List.getElem_cons_succ, List.setIfInBounds_toArray, List.set_cons_zero, List.set_cons_succ]
  refine wpAnyH_ready (rs := [5]) (by kernel_rfl) (by simp) ?_
  refine AllReadyH.cons rfl (fun K hK => ?_) AllReadyH.nil
  (rw [if_pos (by kernel_rfl)]; go_simp; go_at_call 12; refine (HRB.out _ K1.out).mono ?_; rintro e u2 ⟨rfl, k2⟩; have K2 := Lib.hid (Keeps.trans (S := fun _ => False) K1.out (k2 _)); clear k2)
  refine hK.out _ _ (HCL.out _ K2.out) (fun hHeld => ?_)
  clear hK K
  try simp only [Act.put, Array.getInternal_eq_getElem, List.getElem_toArray, List.getElem_cons_zero, List.getElem_cons_succ, List.setIfInBounds_toArray, List.set_cons_zero, List.set_cons_succ]
  refine wpAnyH_take (i := 6) (v := ?_) rfl (by kernel_rfl) (by kernel_rfl) (by kernel_rfl) (fun _ _ _ h => h) (Or.inl ⟨by kernel_rfl, ?_⟩) (by assumption) ?_
  rotate_left
  · (intro w hSw; (try dsimp only at hSw); go_simp) <;> (try (with_reducible rfl))
  try simp only [Act.put, Array.getInternal_eq_getElem, List.getElem_toArray, List.getElem_cons_zero, List.getElem_cons_succ, List.setIfInBounds_toArray, List.set_cons_zero, List.set_cons_succ]
  refine wpAnyH_take (i := 7) (v := ?_) rfl (by kernel_rfl) (by kernel_rfl) (by kernel_rfl) (fun _ _ _ h => h) (Or.inl ⟨by kernel_rfl, ?_⟩) (by assumption) ?_
  rotate_left
  · (intro w hSw; (try dsimp only at hSw); go_simp) <;> (try (with_reducible rfl))
  try simp only [Act.put, Array.getInternal_eq_getElem, List.getElem_toArray, List.getElem_cons_zero, List.getElem_cons_succ, List.setIfInBounds_toArray, List.set_cons_zero, List.set_cons_succ]
  refine' wpAnyH_take (i := 8) (v := _) rfl (by kernel_rfl) (by kernel_rfl) (by kernel_rfl) (fun _ _ _ h => h) (yieldsIf_load_mid (by kernel_rfl) _ _ rfl _ _ rfl _ _ (fun w hSw => hSw.1) Try.underlying29 rfl HSZ.out) (by assumption) ?_
  try simp only [Act.put, Array.getInternal_eq_getElem, List.getElem_toArray, List.getElem_cons_zero, List.getElem_cons_succ, List.setIfInBounds_toArray, List.set_cons_zero, List.set_cons_succ]
  refine' wpAnyH_take (i := 9) (v := _) rfl (by kernel_rfl) (by kernel_rfl) (by kernel_rfl) (fun _ _ _ h => h) (yieldsIf_load_mid (by kernel_rfl) _ _ rfl _ _ rfl _ _ (fun w hSw => hSw.1) Try.underlying29 rfl HSZ.out) (by assumption) ?_
  try simp only [Act.put, Array.getInternal_eq_getElem, List.getElem_toArray, List.getElem_cons_zero, List.getElem_cons_succ, List.setIfInBounds_toArray, List.set_cons_zero, List.set_cons_succ]
  refine wpAnyH_ready (rs := [10]) (by kernel_rfl) (by simp) ?_
  refine AllReadyH.cons rfl (fun K hK => ?_) AllReadyH.nil
  (rw [if_pos (by kernel_rfl)]; go_simp; go_at_call 11; refine (HAA.out _ K2.out).mono ?_; rintro e u3 ⟨rfl, k3⟩; have K3 := Lib.hid (Keeps.trans (S := fun _ => False) K2.out (k3 _)); clear k3)
  refine hK.out _ _ (HCL.out _ K3.out) (fun hHeld => ?_)
  clear hK K
  try simp only [Act.put, Array.getInternal_eq_getElem, List.getElem_toArray, List.getElem_cons_zero, List.getElem_cons_succ, List.setIfInBounds_toArray, List.set_cons_zero, List.set_cons_succ]
  refine wpAnyH_take (i := 11) (v := ?_) rfl (by kernel_rfl) (by kernel_rfl) (by kernel_rfl) (fun _ _ _ h => h) (Or.inl ⟨by kernel_rfl, ?_⟩) (by assumption) ?_
  rotate_left
  · (intro w hSw; (try dsimp only at hSw); go_simp) <;> (try (with_reducible rfl))
  try simp only [Act.put, Array.getInternal_eq_getElem, List.getElem_toArray, List.getElem_cons_zero, List.getElem_cons_succ, List.setIfInBounds_toArray, List.set_cons_zero, List.set_cons_succ]
  refine wpAnyH_take (i := 12) (v := ?_) rfl (by kernel_rfl) (by kernel_rfl) (by kernel_rfl) (fun _ _ _ h => h) (Or.inl ⟨by kernel_rfl, ?_⟩) (by assumption) ?_
  rotate_left
  · (intro w hSw; (try dsimp only at hSw); go_simp) <;> (try (with_reducible rfl))
  try simp only [Act.put, Array.getInternal_eq_getElem, List.getElem_toArray, List.getElem_cons_zero, List.getElem_cons_succ, List.setIfInBounds_toArray, List.set_cons_zero, List.set_cons_succ]
  refine' wpAnyH_take (i := 13) (v := _) rfl (by kernel_rfl) (by kernel_rfl) (by kernel_rfl) (fun _ _ _ h => h) (yieldsIf_load_mid (by kernel_rfl) _ _ rfl _ _ rfl _ _ (fun w hSw => hSw.1) Try.underlying29 rfl HSZ.out) (by assumption) ?_
  try simp only [Act.put, Array.getInternal_eq_getElem, List.getElem_toArray, List.getElem_cons_zero, List.getElem_cons_succ, List.setIfInBounds_toArray, List.set_cons_zero, List.set_cons_succ]
  refine' wpAnyH_take (i := 14) (v := _) rfl (by kernel_rfl) (by kernel_rfl) (by kernel_rfl) (fun _ _ _ h => h) (yieldsIf_load_mid (by kernel_rfl) _ _ rfl _ _ rfl _ _ (fun w hSw => hSw.2.2) Try.underlying29 rfl HSC.out) (by assumption) ?_
  try simp only [Act.put, Array.getInternal_eq_getElem, List.getElem_toArray, List.getElem_cons_zero, List.getElem_cons_succ, List.setIfInBounds_toArray, List.set_cons_zero, List.set_cons_succ]
  refine wpAnyH_ready (rs := [15]) (by kernel_rfl) (by simp) ?_
  refine AllReadyH.cons rfl (fun K hK => ?_) AllReadyH.nil
  (rw [if_pos (by kernel_rfl)]; go_simp; go_at_call 11; refine (HAC.out _ K3.out).mono ?_; rintro e u4 ⟨rfl, k4⟩; have K4 := Lib.hid (Keeps.trans (S := fun _ => False) K3.out (k4 _)); clear k4)
  refine hK.out _ _ (HCL.out _ K4.out) (fun hHeld => ?_)
  clear hK K
  try simp only [Act.put, Array.getInternal_eq_getElem, List.getElem_toArray, List.getElem_cons_zero, List.getElem_cons_succ, List.setIfInBounds_toArray, List.set_cons_zero, List.set_cons_succ]
  refine wpAnyH_take (i := 16) (v := ?_) rfl (by kernel_rfl) (by kernel_rfl) (by kernel_rfl) (fun _ _ _ h => h) (Or.inl ⟨by kernel_rfl, ?_⟩) (by assumption) ?_
  rotate_left
  · (intro w hSw; (try dsimp only at hSw); go_simp) <;> (try (with_reducible rfl))
  try simp only [Act.put, Array.getInternal_eq_getElem, List.getElem_toArray, List.getElem_cons_zero, List.getElem_cons_succ, List.setIfInBounds_toArray, List.set_cons_zero, List.set_cons_succ]
  refine wpAnyH_take (i := 17) (v := ?_) rfl (by kernel_rfl) (by kernel_rfl) (by kernel_rfl) (fun _ _ _ h => h) (Or.inl ⟨by kernel_rfl, ?_⟩) (by assumption) ?_
  rotate_left
  · (intro w hSw; (try dsimp only at hSw); go_simp) <;> (try (with_reducible rfl))
  try simp only [Act.put, Array.getInternal_eq_getElem, List.getElem_toArray, List.getElem_cons_zero, List.getElem_cons_succ, List.setIfInBounds_toArray, List.set_cons_zero, List.set_cons_succ]
  refine wpAnyH_take (i := 18) (v := ?_) rfl (by kernel_rfl) (by kernel_rfl) (by kernel_rfl) (fun _ _ _ h => h) (Or.inl ⟨by kernel_rfl, ?_⟩) (by assumption) ?_
  rotate_left
  · (intro w hSw; (try dsimp only at hSw); go_simp) <;> (try (with_reducible rfl))
  try simp only [Act.put, Array.getInternal_eq_getElem, List.getElem_toArray, List.getElem_cons_zero, List.getElem_cons_succ, List.setIfInBounds_toArray, List.set_cons_zero, List.set_cons_succ]
  refine' wpAnyH_take (i := 19) (v := _) rfl (by kernel_rfl) (by kernel_rfl) (by kernel_rfl) (fun _ _ _ h => h) (yieldsIf_load_mid (by kernel_rfl) _ _ rfl _ _ rfl _ _ (fun w hSw => hSw.2.2) Try.underlying29 rfl HSC.out) (by assumption) ?_
  try simp only [Act.put, Array.getInternal_eq_getElem, List.getElem_toArray, List.getElem_cons_zero, List.getElem_cons_succ, List.setIfInBounds_toArray, List.set_cons_zero, List.set_cons_succ]
  refine' wpAnyH_take (i := 20) (v := _) rfl (by kernel_rfl) (by kernel_rfl) (by kernel_rfl) (fun _ _ _ h => h) (yieldsIf_load_mid (by kernel_rfl) _ _ rfl _ _ rfl _ _ (fun w hSw => hSw.1) Try.underlying29 rfl HSZ.out) (by assumption) ?_
  try simp only [Act.put, Array.getInternal_eq_getElem, List.getElem_toArray, List.getElem_cons_zero, List.getElem_cons_succ, List.setIfInBounds_toArray, List.set_cons_zero, List.set_cons_succ]
  refine wpAnyH_ready (rs := [21]) (by kernel_rfl) (by simp) ?_
  refine AllReadyH.cons rfl (fun K hK => ?_) AllReadyH.nil
  (rw [if_pos (by kernel_rfl)]; go_simp; go_at_call 11; refine (HCC.out _ K4.out).mono ?_; rintro e u5 ⟨rfl, k5⟩; have K5 := Lib.hid (Keeps.trans (S := fun _ => False) K4.out (k5 _)); clear k5)
  refine hK.out _ _ (HCL.out _ K5.out) (fun hHeld => ?_)
  clear hK K
  try simp only [Act.put, Array.getInternal_eq_getElem, List.getElem_toArray, List.getElem_cons_zero, List.getElem_cons_succ, List.setIfInBounds_toArray, List.set_cons_zero, List.set_cons_succ]
  refine wpAnyH_take (i := 22) (v := ?_) rfl (by kernel_rfl) (by kernel_rfl) (by kernel_rfl) (fun _ _ _ h => h) (Or.inl ⟨by kernel_rfl, ?_⟩) (by assumption) ?_
  rotate_left
  · (intro w hSw; (try dsimp only at hSw); go_simp) <;> (try (with_reducible rfl))
  try simp only [Act.put, Array.getInternal_eq_getElem, List.getElem_toArray, List.getElem_cons_zero, List.getElem_cons_succ, List.setIfInBounds_toArray, List.set_cons_zero, List.set_cons_succ]
  refine wpAnyH_take (i := 23) (v := ?_) rfl (by kernel_rfl) (by kernel_rfl) (by kernel_rfl) (fun _ _ _ h => h) (Or.inl ⟨by kernel_rfl, ?_⟩) (by assumption) ?_
  rotate_left
  · (intro w hSw; (try dsimp only at hSw); go_simp) <;> (try (with_reducible rfl))
  try simp only [Act.put, Array.getInternal_eq_getElem, List.getElem_toArray, List.getElem_cons_zero, List.getElem_cons_succ, List.setIfInBounds_toArray, List.set_cons_zero, List.set_cons_succ]
  refine wpAnyH_take (i := 24) (v := ?_) rfl (by kernel_rfl) (by kernel_rfl) (by kernel_rfl) (fun _ _ _ h => h) (Or.inl ⟨by kernel_rfl, ?_⟩) (by assumption) ?_
  rotate_left
  · (intro w hSw; (try dsimp only at hSw); go_simp) <;> (try (with_reducible rfl))
  try simp only [Act.put, Array.getInternal_eq_getElem, List.getElem_toArray, List.getElem_cons_zero, List.getElem_cons_succ, List.setIfInBounds_toArray, List.set_cons_zero, List.set_cons_succ]
  refine wpAnyH_ready (rs := [25]) (by kernel_rfl) (by simp) ?_
  refine AllReadyH.cons rfl (fun K hK => ?_) AllReadyH.nil
  (rw [if_pos (by kernel_rfl)]; go_simp; go_at_call 13; refine (works_ _).mono ?_; rintro e u6 ⟨rfl, k6⟩; have K6 := Lib.hid (Keeps.trans (S := fun _ => False) K5.out (k6 _)); clear k6)
  refine hK.out _ _ (HCL.out _ K6.out) (fun hHeld => ?_)
  clear hK K
  try simp only [Act.put, Array.getInternal_eq_getElem, List.getElem_toArray, List.getElem_cons_zero, List.getElem_cons_succ, List.setIfInBounds_toArray, List.set_cons_zero, List.set_cons_succ]
  refine wpAnyH_take (i := 26) (v := ?_) rfl (by kernel_rfl) (by kernel_rfl) (by kernel_rfl) (fun _ _ _ h => h) (Or.inl ⟨by kernel_rfl, ?_⟩) (by assumption) ?_
  rotate_left
  · (intro w hSw; (try dsimp only at hSw); go_simp) <;> (try (with_reducible rfl))
  try simp only [Act.put, Array.getInternal_eq_getElem, List.getElem_toArray, List.getElem_cons_zero, List.getElem_cons_succ, List.setIfInBounds_toArray, List.set_cons_zero, List.set_cons_succ]
  refine wpAnyH_take (i := 27) (v := ?_) rfl (by kernel_rfl) (by kernel_rfl) (by kernel_rfl) (fun _ _ _ h => h) (Or.inl ⟨by kernel_rfl, ?_⟩) (by assumption) ?_
  rotate_left
  · (intro w hSw; (try dsimp only at hSw); go_simp) <;> (try (with_reducible rfl))
  try simp only [Act.put, Array.getInternal_eq_getElem, List.getElem_toArray, List.getElem_cons_zero, List.getElem_cons_succ, List.setIfInBounds_toArray, List.set_cons_zero, List.set_cons_succ]
  refine wpAnyH_done ?_ ?_ _
  · kernel_rfl
  go_wp2_with fail
  try rw [Exit.noGoto_ret]
  go_ret
  exact ⟨rfl, fun S => (KW6.out S).trans (K6.out.mono (fun _ _ z => z.elim))⟩
set_option maxRecDepth 100000 in
set_option maxHeartbeats 4000000 in
theorem psl_9 (a b : Hd) (ha : a.Wf) (hb : b.Wf) (A A2 : Option Addr) (n n2 c c2 : Nat) (hl : a.dat.length = n) (hl2 : b.dat.length = n2) (hn : n ≤ 140737488351232) (hr : Rd w w.heap.size A (by_ a.dat)) (hr2 : Rd w w.heap.size A2 (by_ b.dat)) (f : Int) (hf1 : -9223372036854775808 ≤ f) (hf2 : f ≤ 9223372036854775807) (hq : Int.tmod (Int.tmod f 11 + 11) 11 = 9) :
    Calls Try.prog 3 #[hvv a (.slice A n c), hvv b (.slice A2 n2 c2), .int .i64 f] w fun e w' => e = .returned (.bool true) ∧ ∀ S, Keeps S w w' := by
  obtain ⟨w1, hw1, k1, bA, bB, s1⟩ := box2 w (hcs a (.slice A n c)) (hcs b (.slice A2 n2 c2)) 29 29
  obtain ⟨wz, hwz, kz, bz, sz⟩ := box1 w1 zhd 29
  dsimp only [zhd] at hwz
  obtain ⟨t2, b2, k2⟩ := p_store bz (cs := hcs a (.slice A n c)) (by rw [hcs_len ha]; rfl)
  obtain ⟨w2, hw2⟩ : ∃ w2, w2 = wz.setCells w1.heap.size 0 (hcs a (.slice A n c)) := ⟨_, rfl⟩
  rw [← hw2] at b2 k2
  have k12 : ∀ S, Keeps S w1 w2 := keeps_own kz k2 (Nat.le_refl _)
  obtain ⟨w3, hw3, k3, b3, s3⟩ := box1 w2 [] 5
  have s2 : w1.heap.size + 1 ≤ w2.heap.size := by have := k2.size; omega
  have y3 : By w2 w3 (.slice (some ⟨w2.heap.size, 0, none⟩) 0 0) [] := By.of_blk b3 rfl (Nat.le_refl _) (by omega) k3
  have r3 := rd_old hr (((k1 (fun _ => False)).trans (k12 _)).trans (k3 _))
  obtain ⟨r, hrm⟩ : ∃ r, Int.tmod f 11 = r := ⟨_, rfl⟩
  have hrb := tmod11 f
  rw [hrm] at hrb hq
  have r1 := hrb.1
  have r2 := hrb.2
  have x42 : w3.cell? ⟨w.heap.size, 42, none⟩ = some (.slice A n c) := (HF.of_blk ha (Blk.keeps bA ((k12 (fun _ => False)).trans (k3 _)) (fun z => z))).dat
  have HWA := Lib.hid ha
  have HWB := Lib.hid hb
  have HY3 := Lib.hid y3
  have HR3 := Lib.hid r3
  have HLL := Lib.hid (And.intro hl hl2)
  have HRR := Lib.hid (And.intro hr hr2)
  have HN := Lib.hid hn
  have HKK := Lib.hid (And.intro k1 (And.intro k12 k3))
  have HBA := Lib.hid bA
  have HBB := Lib.hid bB
  have HB2 := Lib.hid b2
  have HT2 := Lib.hid t2
  have HS := Lib.hid (And.intro s1 s2)
  have HSZ : Hid ((Try.prog.info? 29).map (·.size) = some (hcs a (.slice A n c)).length) := Lib.hid (hd_sz ha _)
  have HSO := Lib.hid (all_oneCell_toArray (hcs_one (h := a) (v := .slice A n c) rfl))
  have HW1 := Lib.hid hw1
  have HWZ := Lib.hid hwz
  have HW2 := Lib.hid hw2
  replace hw3 : w3 = w2.alloc (.cells #[] 5) := hw3
  rw [hw3] at x42
  have HW3 := Lib.hid hw3
  unfold hvv
  clear hw1 k1 bA bB s1 hwz kz bz sz t2 b2 k2 hw2 k12 hw3 k3 b3 s3 s2 y3 r3 hrb ha hb hl hl2 hr hr2
  generalize hCA : hcs a (.slice A n c) = CA at *
  generalize hCB : hcs b (.slice A2 n2 c2) = CB at *
  have HCA := Lib.hid hCA
  have HCB := Lib.hid hCB
  clear hCA hCB
  go_enter Try.func3, Try.ntmps3
  go_wp2_with (first
    | ((with_reducible show wpList _ _ _ (⟨some 8, _, _, _, _, _⟩ :: _) _ _); (try rw [← HW1.out]); refine wpList_load_mid rfl 29 _ rfl w.heap.size 0 rfl CA _ (Blk.range HBA.out) Try.underlying29 rfl HSZ.out ?_)
    | ((with_reducible show wpList _ _ _ (⟨none, .store _ (.tmp 7) _, _, _, _, _⟩ :: _) _ _); (try rw [← HWZ.out]); refine' wpList_store_mid rfl 29 _ _ rfl w1.heap.size 0 (CA).toArray ?hx rfl ?ht HSZ.out HSO.out ?_; (case hx => rfl); (case ht => exact HT2.out); rw [← HW2.out])
    | ((with_reducible show wpList _ _ _ (⟨some 12, _, _, _, _, _⟩ :: _) _ _); (try rw [← HW3.out]); refine By.wpList_append rfl _ _ rfl HY3.out rfl A n c _ a.dat rfl HLL.out.1 HR3.out (by have := HN.out; simp; omega) ?_; intro v4 w4 y4 k4; clear k4; have ya := y4; obtain ⟨A4, c4, rfl, r4⟩ := ya.rd; rw [List.nil_append] at ya r4 ⊢; rw [HLL.out.1] at ya ⊢; have h1 := HWA.out.s; have h2 := HWA.out.d; have g4 := Blk.keeps HB2.out (ya.keep (fun _ => False)) (fun z => z); rw [← HCA.out] at g4; have c42 : w4.cell? ⟨w1.heap.size, 42, none⟩ = some _ := h_cell g4 h1 h2 8 _ rfl; have f42 : w4.frozen? ⟨w1.heap.size, 42, none⟩ = false := g4.frozen 42; have g5 := st_dat g4 h1 h2 (.slice A4 n c4) a.dat; have p5 := keeps_put (G := w1.heap.size) (Keeps.refl _ w4) 42 (.slice A4 n c4); obtain ⟨x, hx⟩ : ∃ x, x = (a.seq + 1) % 4294967296 := ⟨_, rfl⟩; have hxi : IntKind.u32.wrap ((a.seq : Int) + 1) = (x : Int) := (by rw [IntKind.wrap_u32]; omega); have hxi2 : ((a.seq : Int) + 1) % 4294967296 = (x : Int) := (by omega); have HX := Lib.hid hx; clear hx; have cx : (w4.setCell ⟨w1.heap.size, 42, none⟩ (.slice A4 n c4)).cell? ⟨w1.heap.size, 41, none⟩ = some _ := h_cell g5 h1 h2 7 _ rfl; have fx : (w4.setCell ⟨w1.heap.size, 42, none⟩ (.slice A4 n c4)).frozen? ⟨w1.heap.size, 41, none⟩ = false := g5.frozen 41; have g6 := st_seq g5 h1 h2 x; have p6 := keeps_put p5 41 (.int .u32 (x : Int))))
  --@E
  obtain ⟨w6, hw6⟩ : ∃ w6, w6 = (w4.setCell ⟨w1.heap.size, 42, none⟩ (.slice A4 n c4)).setCell ⟨w1.heap.size, 41, none⟩ (.int .u32 (x : Int)) := ⟨_, rfl⟩
  rw [← hw6]
  rw [← hw6] at g6 p6
  have gC : Blk w6 w1.heap.size 29 (hcs (⟨a.src, a.dst, a.pr, a.sp, a.dp, a.ttl, a.cls, a.id, a.fl, x, a.dat⟩ : Hd) (.slice A4 n c4)) := g6
  have hch : (⟨a.src, a.dst, a.pr, a.sp, a.dp, a.ttl, a.cls, a.id, a.fl, x, a.dat⟩ : Hd).Wf := ⟨HWA.out.s, HWA.out.d, HWA.out.p, HWA.out.sl, HWA.out.dl, HWA.out.t, HWA.out.c, HWA.out.i, HWA.out.f, (by have := HX.out; show x < _; omega), HWA.out.b⟩
  have hne : ¬ a = (⟨a.src, a.dst, a.pr, a.sp, a.dp, a.ttl, a.cls, a.id, a.fl, x, a.dat⟩ : Hd) := fun e => by have h3 : a.seq = x := congrArg Hd.seq e; have := HX.out; have := HWA.out.q; omega
  have hdl : (⟨a.src, a.dst, a.pr, a.sp, a.dp, a.ttl, a.cls, a.id, a.fl, x, a.dat⟩ : Hd).dat.length = n := HLL.out.1
  have s1 := HS.out.1
  have s2 := HS.out.2
  have k16 : ∀ S, Keeps S w1 w6 := keeps_own (fun S => (HKK.out.2.1 S).trans (ya.keep S)) p6 (Nat.le_refl _)
  have kw6 : ∀ S, Keeps S w w6 := fun S => (HKK.out.1 S).trans (k16 S)
  have gA := Blk.keeps HBA.out (k16 (fun _ => False)) (fun z => z)
  have gB := Blk.keeps HBB.out (k16 (fun _ => False)) (fun z => z)
  have rC : Rd w6 w6.heap.size A4 (by_ (⟨a.src, a.dst, a.pr, a.sp, a.dp, a.ttl, a.cls, a.id, a.fl, x, a.dat⟩ : Hd).dat) := (by obtain ⟨A9, c9, h9, r9⟩ := (past_ (By.base (w := w1) ya HKK.out.2.1) p6 (Nat.le_refl _) (ya.apart (by omega))).rd; injection h9 with e1 _ _; subst e1; exact r9)
  have KW6 := Lib.hid kw6
  have HCL : Hid (∀ wq, Keeps (fun _ => False) w6 wq → wq.rangeAt w.heap.size 0 CA ∧ wq.rangeAt (w.heap.size + 1) 0 CB ∧ wq.rangeAt w1.heap.size 0 (hcs (⟨a.src, a.dst, a.pr, a.sp, a.dp, a.ttl, a.cls, a.id, a.fl, x, a.dat⟩ : Hd) (.slice A4 n c4))) := Lib.hid (fun wq kq => ⟨Blk.range (Blk.keeps gA kq (fun z => z)), Blk.range (Blk.keeps gB kq (fun z => z)), Blk.range (Blk.keeps gC kq (fun z => z))⟩)
  have ra : ∀ u, Keeps (fun _ => False) w6 u → Rd u u.heap.size A (by_ a.dat) := fun u hu => (rd_old HRR.out.1 ((kw6 _).trans hu)).more ((kw6 (fun _ => False)).trans hu).size
  have rb : ∀ u, Keeps (fun _ => False) w6 u → Rd u u.heap.size A2 (by_ b.dat) := fun u hu => (rd_old HRR.out.2 ((kw6 _).trans hu)).more ((kw6 (fun _ => False)).trans hu).size
  have rc : ∀ u, Keeps (fun _ => False) w6 u → Rd u u.heap.size A4 (by_ (⟨a.src, a.dst, a.pr, a.sp, a.dp, a.ttl, a.cls, a.id, a.fl, x, a.dat⟩ : Hd).dat) := fun u hu => (rd_old rC hu).more hu.size
  have HAB : Hid (∀ u, Keeps (fun _ => False) w6 u → Calls Try.prog 11 #[.agg CA.toArray, .agg CB.toArray] u fun e w' => e = .returned (.bool (sameH a b)) ∧ ∀ S, Keeps S u w') := Lib.hid (fun u hu => by rw [← HCA.out, ← HCB.out]; exact psame2_ u a b HWA.out HWB.out A A2 n n2 c c2 HLL.out.1 HLL.out.2 (ra u hu) (rb u hu))
  have HRB : Hid (∀ u, Keeps (fun _ => False) w6 u → Calls Try.prog 12 #[.agg CA.toArray, .agg CB.toArray] u fun e w' => e = .returned (.bool (sameH a b)) ∧ ∀ S, Keeps S u w') := Lib.hid (fun u hu => by rw [← HCA.out, ← HCB.out]; exact rsame_ u a b HWA.out HWB.out A A2 n n2 c c2 HLL.out.1 HLL.out.2 (by have := HN.out; omega) (ra u hu) (rb u hu))
  have HAA : Hid (∀ u, Keeps (fun _ => False) w6 u → Calls Try.prog 11 #[.agg CA.toArray, .agg CA.toArray] u fun e w' => e = .returned (.bool true) ∧ ∀ S, Keeps S u w') := Lib.hid (fun u hu => by rw [← HCA.out]; have := psame2_ u a a HWA.out HWA.out A A n n c c HLL.out.1 HLL.out.1 (ra u hu) (ra u hu); rw [same_yes rfl] at this; exact this)
  have HAC : Hid (∀ u, Keeps (fun _ => False) w6 u → Calls Try.prog 11 #[.agg CA.toArray, .agg (hcs (⟨a.src, a.dst, a.pr, a.sp, a.dp, a.ttl, a.cls, a.id, a.fl, x, a.dat⟩ : Hd) (.slice A4 n c4)).toArray] u fun e w' => e = .returned (.bool false) ∧ ∀ S, Keeps S u w') := Lib.hid (fun u hu => by rw [← HCA.out]; have := psame2_ u a (⟨a.src, a.dst, a.pr, a.sp, a.dp, a.ttl, a.cls, a.id, a.fl, x, a.dat⟩ : Hd) HWA.out hch A A4 n n c c4 HLL.out.1 hdl (ra u hu) (rc u hu); rw [same_no hne] at this; exact this)
  have HCC : Hid (∀ u, Keeps (fun _ => False) w6 u → Calls Try.prog 11 #[.agg (hcs (⟨a.src, a.dst, a.pr, a.sp, a.dp, a.ttl, a.cls, a.id, a.fl, x, a.dat⟩ : Hd) (.slice A4 n c4)).toArray, .agg CA.toArray] u fun e w' => e = .returned (.bool false) ∧ ∀ S, Keeps S u w') := Lib.hid (fun u hu => by rw [← HCA.out]; have := psame2_ u (⟨a.src, a.dst, a.pr, a.sp, a.dp, a.ttl, a.cls, a.id, a.fl, x, a.dat⟩ : Hd) a hch HWA.out A4 A n n c4 c hdl HLL.out.1 (rc u hu) (ra u hu); rw [same_no (fun e => hne e.symm)] at this; exact this)
  have HSC : Hid ((Try.prog.info? 29).map (·.size) = some (hcs (⟨a.src, a.dst, a.pr, a.sp, a.dp, a.ttl, a.cls, a.id, a.fl, x, a.dat⟩ : Hd) (.slice A4 n c4)).length) := Lib.hid (hd_sz hch _)
  have HSB : Hid ((Try.prog.info? 29).map (·.size) = some CB.length) := Lib.hid (by rw [← HCB.out]; exact hd_sz HWB.out _)
  clear hw6 g6 p6 gC hch hne hdl s1 s2 k16 kw6 gA gB rC ra rb rc ya r4 h1 h2 g4 c42 f42 g5 p5 cx fx hxi hxi2
  generalize hcs (⟨a.src, a.dst, a.pr, a.sp, a.dp, a.ttl, a.cls, a.id, a.fl, x, a.dat⟩ : Hd) (.slice A4 n c4) = CC at *
  obtain ⟨z, hz⟩ : ∃ z, z = sameH a b := ⟨_, rfl⟩
  rw [← hz] at HAB HRB
  clear hz
  have hzz : (z == z) = true := beq_self_eq_true z
  go_wp2_with fail
  --@25
  refine wp_region_held_drew (S := fun w' => w'.rangeAt w.heap.size 0 CA ∧ w'.rangeAt (w.heap.size + 1) 0 CB ∧ w'.rangeAt w1.heap.size 0 CC) (by kernel_rfl) (HCL.out _ ((Keeps.refl _ w6).drew)) (fun hHeld => ?_)
  refine' wpAnyH_take (i := 0) (v := _) rfl (by kernel_rfl) (by kernel_rfl) (by kernel_rfl) (fun _ _ _ h => h) (yieldsIf_load_mid (by kernel_rfl) _ _ rfl _ _ rfl _ _ (fun w hSw => hSw.1) Try.underlying29 rfl HSZ.out) (by assumption) ?_
  try simp only [Act.put, Array.getInternal_eq_getElem, List.getElem_toArray, List.getElem_cons_zero, List.getElem_cons_succ, List.setIfInBounds_toArray, List.set_cons_zero, List.set_cons_succ]
  refine' wpAnyH_take (i := 1) (v := _) rfl (by kernel_rfl) (by kernel_rfl) (by kernel_rfl) (fun _ _ _ h => h) (yieldsIf_load_mid (by kernel_rfl) _ _ rfl _ _ rfl _ _ (fun w hSw => hSw.2.1) Try.underlying29 rfl HSB.out) (by assumption) ?_
  try simp only [Act.put, Array.getInternal_eq_getElem, List.getElem_toArray, List.getElem_cons_zero, List.getElem_cons_succ, List.setIfInBounds_toArray, List.set_cons_zero, List.set_cons_succ]
  refine' wpAnyH_take (i := 3) (v := _) rfl (by kernel_rfl) (by kernel_rfl) (by kernel_rfl) (fun _ _ _ h => h) (yieldsIf_load_mid (by kernel_rfl) _ _ rfl _ _ rfl _ _ (fun w hSw => hSw.1) Try.underlying29 rfl HSZ.out) (by assumption) ?_
  try simp only [Act.put, Array.getInternal_eq_getElem, List.getElem_toArray, List.getElem_cons_zero, List.getElem_cons_succ, List.setIfInBounds_toArray, List.set_cons_zero, List.set_cons_succ]
  refine' wpAnyH_take (i := 4) (v := _) rfl (by kernel_rfl) (by kernel_rfl) (by kernel_rfl) (fun _ _ _ h => h) (yieldsIf_load_mid (by kernel_rfl) _ _ rfl _ _ rfl _ _ (fun w hSw => hSw.2.1) Try.underlying29 rfl HSB.out) (by assumption) ?_
  try simp only [Act.put, Array.getInternal_eq_getElem, List.getElem_toArray, List.getElem_cons_zero, List.getElem_cons_succ, List.setIfInBounds_toArray, List.set_cons_zero, List.set_cons_succ]
  refine wpAnyH_ready (rs := [2]) (by kernel_rfl) (by simp) ?_
  refine AllReadyH.cons rfl (fun K hK => ?_) AllReadyH.nil
  (rw [if_pos (by kernel_rfl)]; go_simp; go_at_call 11; refine (HAB.out _ ((Keeps.refl _ w6).drew)).mono ?_; rintro e u1 ⟨rfl, k1⟩; have K1 := Lib.hid (Keeps.trans (S := fun _ => False) ((Keeps.refl _ w6).drew) (k1 _)); clear k1)
  refine hK.out _ _ (HCL.out _ K1.out) (fun hHeld => ?_)
  clear hK K
  try simp only [Act.put, Array.getInternal_eq_getElem, List.getElem_toArray, List.getElem_cons_zero, List.getElem_cons_succ, List.setIfInBounds_toArray, List.set_cons_zero, List.set_cons_succ]
  refine wpAnyH_ready (rs := [5]) (by kernel_rfl) (by simp) ?_
  refine AllReadyH.cons rfl (fun K hK => ?_) AllReadyH.nil
  (rw [if_pos (by kernel_rfl)]; go_simp; go_at_call 12; refine (HRB.out _ K1.out).mono ?_; rintro e u2 ⟨rfl, k2⟩; have K2 := Lib.hid (Keeps.trans (S := fun _ => False) K1.out (k2 _)); clear k2)
  refine hK.out _ _ (HCL.out _ K2.out) (fun hHeld => ?_)
  clear hK K
  try simp only [Act.put, Array.getInternal_eq_getElem, List.getElem_toArray, List.getElem_cons_zero, List.getElem_cons_succ, List.setIfInBounds_toArray, List.set_cons_zero, List.set_cons_succ]
  refine wpAnyH_take (i := 6) (v := ?_) rfl (by kernel_rfl) (by kernel_rfl) (by kernel_rfl) (fun _ _ _ h => h) (Or.inl ⟨by kernel_rfl, ?_⟩) (by assumption) ?_
  rotate_left
  · (intro w hSw; (try dsimp only at hSw); go_simp) <;> (try (with_reducible rfl))
  try simp only [Act.put, Array.getInternal_eq_getElem, List.getElem_toArray, List.getElem_cons_zero, List.getElem_cons_succ, List.setIfInBounds_toArray, List.set_cons_zero, List.set_cons_succ]
  refine wpAnyH_take (i := 7) (v := ?_) rfl (by kernel_rfl) (by kernel_rfl) (by kernel_rfl) (fun _ _ _ h => h) (Or.inl ⟨by kernel_rfl, ?_⟩) (by assumption) ?_
  rotate_left
  · (intro w hSw; (try dsimp only at hSw); go_simp) <;> (try (with_reducible rfl))
  try simp only [Act.put, Array.getInternal_eq_getElem, List.getElem_toArray, List.getElem_cons_zero, List.getElem_cons_succ, List.setIfInBounds_toArray, List.set_cons_zero, List.set_cons_succ]
  refine' wpAnyH_take (i := 8) (v := _) rfl (by kernel_rfl) (by kernel_rfl) (by kernel_rfl) (fun _ _ _ h => h) (yieldsIf_load_mid (by kernel_rfl) _ _ rfl _ _ rfl _ _ (fun w hSw => hSw.1) Try.underlying29 rfl HSZ.out) (by assumption) ?_
  try simp only [Act.put, Array.getInternal_eq_getElem, List.getElem_toArray, List.getElem_cons_zero, List.getElem_cons_succ, List.setIfInBounds_toArray, List.set_cons_zero, List.set_cons_succ]
  refine' wpAnyH_take (i := 9) (v := _) rfl (by kernel_rfl) (by kernel_rfl) (by kernel_rfl) (fun _ _ _ h => h) (yieldsIf_load_mid (by kernel_rfl) _ _ rfl _ _ rfl _ _ (fun w hSw => hSw.1) Try.underlying29 rfl HSZ.out) (by assumption) ?_
  try simp only [Act.put, Array.getInternal_eq_getElem, List.getElem_toArray, List.getElem_cons_zero, List.getElem_cons_succ, List.setIfInBounds_toArray, List.set_cons_zero, List.set_cons_succ]
  refine wpAnyH_ready (rs := [10]) (by kernel_rfl) (by simp) ?_
  refine AllReadyH.cons rfl (fun K hK => ?_) AllReadyH.nil
  (rw [if_pos (by kernel_rfl)]; go_simp; go_at_call 11; refine (HAA.out _ K2.out).mono ?_; rintro e u3 ⟨rfl, k3⟩; have K3 := Lib.hid (Keeps.trans (S := fun _ => False) K2.out (k3 _)); clear k3)
  refine hK.out _ _ (HCL.out _ K3.out) (fun hHeld => ?_)
  clear hK K
  try simp only [Act.put, Array.getInternal_eq_getElem, List.getElem_toArray, List.getElem_cons_zero, List.getElem_cons_succ, List.setIfInBounds_toArray, List.set_cons_zero, List.set_cons_succ]
  refine wpAnyH_take (i := 11) (v := ?_) rfl (by kernel_rfl) (by kernel_rfl) (by kernel_rfl) (fun _ _ _ h => h) (Or.inl ⟨by kernel_rfl, ?_⟩) (by assumption) ?_
  rotate_left
  · (intro w hSw; (try dsimp only at hSw); go_simp) <;> (try (with_reducible rfl))
  try simp only [Act.put, Array.getInternal_eq_getElem, List.getElem_toArray, List.getElem_cons_zero, List.getElem_cons_succ, List.setIfInBounds_toArray, List.set_cons_zero, List.set_cons_succ]
  refine wpAnyH_take (i := 12) (v := ?_) rfl (by kernel_rfl) (by kernel_rfl) (by kernel_rfl) (fun _ _ _ h => h) (Or.inl ⟨by kernel_rfl, ?_⟩) (by assumption) ?_
  rotate_left
  · (intro w hSw; (try dsimp only at hSw); go_simp) <;> (try (with_reducible rfl))
  try simp only [Act.put, Array.getInternal_eq_getElem, List.getElem_toArray, List.getElem_cons_zero, List.getElem_cons_succ, List.setIfInBounds_toArray, List.set_cons_zero, List.set_cons_succ]
  refine' wpAnyH_take (i := 13) (v := _) rfl (by kernel_rfl) (by kernel_rfl) (by kernel_rfl) (fun _ _ _ h => h) (yieldsIf_load_mid (by kernel_rfl) _ _ rfl _ _ rfl _ _ (fun w hSw => hSw.1) Try.underlying29 rfl HSZ.out) (by assumption) ?_
  try simp only [Act.put, Array.getInternal_eq_getElem, List.getElem_toArray, List.getElem_cons_zero, List.getElem_cons_succ, List.setIfInBounds_toArray, List.set_cons_zero, List.set_cons_succ]
  refine' wpAnyH_take (i := 14) (v := _) rfl (by kernel_rfl) (by kernel_rfl) (by kernel_rfl) (fun _ _ _ h => h) (yieldsIf_load_mid (by kernel_rfl) _ _ rfl _ _ rfl _ _ (fun w hSw => hSw.2.2) Try.underlying29 rfl HSC.out) (by assumption) ?_
  try simp only [Act.put, Array.getInternal_eq_getElem, List.getElem_toArray, List.getElem_cons_zero, List.getElem_cons_succ, List.setIfInBounds_toArray, List.set_cons_zero, List.set_cons_succ]
  refine wpAnyH_ready (rs := [15]) (by kernel_rfl) (by simp) ?_
  refine AllReadyH.cons rfl (fun K hK => ?_) AllReadyH.nil
  (rw [if_pos (by kernel_rfl)]; go_simp; go_at_call 11; refine (HAC.out _ K3.out).mono ?_; rintro e u4 ⟨rfl, k4⟩; have K4 := Lib.hid (Keeps.trans (S := fun _ => False) K3.out (k4 _)); clear k4)
  refine hK.out _ _ (HCL.out _ K4.out) (fun hHeld => ?_)
  clear hK K
  try simp only [Act.put, Array.getInternal_eq_getElem, List.getElem_toArray, List.getElem_cons_zero, List.getElem_cons_succ, List.setIfInBounds_toArray, List.set_cons_zero, List.set_cons_succ]
  refine wpAnyH_take (i := 16) (v := ?_) rfl (by kernel_rfl) (by kernel_rfl) (by kernel_rfl) (fun _ _ _ h => h) (Or.inl ⟨by kernel_rfl, ?_⟩) (by assumption) ?_
  rotate_left
  · (intro w hSw; (try dsimp only at hSw); go_simp) <;> (try (with_reducible rfl))
  try simp only [Act.put, Array.getInternal_eq_getElem, List.getElem_toArray, List.getElem_cons_zero, List.getElem_cons_succ, List.setIfInBounds_toArray, List.set_cons_zero, List.set_cons_succ]
  refine wpAnyH_take (i := 17) (v := ?_) rfl (by kernel_rfl) (by kernel_rfl) (by kernel_rfl) (fun _ _ _ h => h) (Or.inl ⟨by kernel_rfl, ?_⟩) (by assumption) ?_
  rotate_left
  · (intro w hSw; (try dsimp only at hSw); go_simp) <;> (try (with_reducible rfl))
  try simp only [Act.put, Array.getInternal_eq_getElem, List.getElem_toArray, List.getElem_cons_zero, List.getElem_cons_succ, List.setIfInBounds_toArray, List.set_cons_zero, List.set_cons_succ]
  refine wpAnyH_take (i := 18) (v := ?_) rfl (by kernel_rfl) (by kernel_rfl) (by kernel_rfl) (fun _ _ _ h => h) (Or.inl ⟨by kernel_rfl, ?_⟩) (by assumption) ?_
  rotate_left
  · (intro w hSw; (try dsimp only at hSw); go_simp) <;> (try (with_reducible rfl))
  try simp only [Act.put, Array.getInternal_eq_getElem, List.getElem_toArray, List.getElem_cons_zero, List.getElem_cons_succ, List.setIfInBounds_toArray, List.set_cons_zero, List.set_cons_succ]
  refine' wpAnyH_take (i := 19) (v := _) rfl (by kernel_rfl) (by kernel_rfl) (by kernel_rfl) (fun _ _ _ h => h) (yieldsIf_load_mid (by kernel_rfl) _ _ rfl _ _ rfl _ _ (fun w hSw => hSw.2.2) Try.underlying29 rfl HSC.out) (by assumption) ?_
  try simp only [Act.put, Array.getInternal_eq_getElem, List.getElem_toArray, List.getElem_cons_zero, List.getElem_cons_succ, List.setIfInBounds_toArray, List.set_cons_zero, List.set_cons_succ]
  refine' wpAnyH_take (i := 20) (v := _) rfl (by kernel_rfl) (by kernel_rfl) (by kernel_rfl) (fun _ _ _ h => h) (yieldsIf_load_mid (by kernel_rfl) _ _ rfl _ _ rfl _ _ (fun w hSw => hSw.1) Try.underlying29 rfl HSZ.out) (by assumption) ?_
  try simp only [Act.put, Array.getInternal_eq_getElem, List.getElem_toArray, List.getElem_cons_zero, List.getElem_cons_succ, List.setIfInBounds_toArray, List.set_cons_zero, List.set_cons_succ]
  refine wpAnyH_ready (rs := [21]) (by kernel_rfl) (by simp) ?_
  refine AllReadyH.cons rfl (fun K hK => ?_) AllReadyH.nil
  (rw [if_pos (by kernel_rfl)]; go_simp; go_at_call 11; refine (HCC.out _ K4.out).mono ?_; rintro e u5 ⟨rfl, k5⟩; have K5 := Lib.hid (Keeps.trans (S := fun _ => False) K4.out (k5 _)); clear k5)
  refine hK.out _ _ (HCL.out _ K5.out) (fun hHeld => ?_)
  clear hK K
  try simp only [Act.put, Array.getInternal_eq_getElem, List.getElem_toArray, List.getElem_cons_zero, List.getElem_cons_succ, List.setIfInBounds_toArray, List.set_cons_zero, List.set_cons_succ]
  refine wpAnyH_take (i := 22) (v := ?_) rfl (by kernel_rfl) (by kernel_rfl) (by kernel_rfl) (fun _ _ _ h => h) (Or.inl ⟨by kernel_rfl, ?_⟩) (by assumption) ?_
  rotate_left
  · (intro w hSw; (try dsimp only at hSw); go_simp) <;> (try (with_reducible rfl))
  try simp only [Act.put, Array.getInternal_eq_getElem, List.getElem_toArray, List.getElem_cons_zero, List.getElem_cons_succ, List.setIfInBounds_toArray, List.set_cons_zero, List.set_cons_succ]
  refine wpAnyH_take (i := 23) (v := ?_) rfl (by kernel_rfl) (by kernel_rfl) (by kernel_rfl) (fun _ _ _ h => h) (Or.inl ⟨by kernel_rfl, ?_⟩) (by assumption) ?_
  rotate_left
  · (intro w hSw; (try dsimp only at hSw); go_simp) <;> (try (with_reducible rfl))
  try simp only [Act.put, Array.getInternal_eq_getElem, List.getElem_toArray, List.getElem_cons_zero, List.getElem_cons_succ, List.setIfInBounds_toArray, List.set_cons_zero, List.set_cons_succ]
  refine wpAnyH_take (i := 24) (v := ?_) rfl (by kernel_rfl) (by kernel_rfl) (by kernel_rfl) (fun _ _ _ h => h) (Or.inl ⟨by kernel_rfl, ?_⟩) (by assumption) ?_
  rotate_left
  · (intro w hSw; (try dsimp only at hSw); go_simp) <;> (try (with_reducible rfl))
  try simp only [Act.put, Array.getInternal_eq_getElem, List.getElem_toArray, List.getElem_cons_zero, List.getElem_cons_succ, List.setIfInBounds_toArray, List.set_cons_zero, List.set_cons_succ]
  refine wpAnyH_ready (rs := [25]) (by kernel_rfl) (by simp) ?_
  refine AllReadyH.cons rfl (fun K hK => ?_) AllReadyH.nil
  (rw [if_pos (by kernel_rfl)]; go_simp; go_at_call 13; refine (works_ _).mono ?_; rintro e u6 ⟨rfl, k6⟩; have K6 := Lib.hid (Keeps.trans (S := fun _ => False) K5.out (k6 _)); clear k6)
  refine hK.out _ _ (HCL.out _ K6.out) (fun hHeld => ?_)
  clear hK K
  try simp only [Act.put, Array.getInternal_eq_getElem, List.getElem_toArray, List.getElem_cons_zero, List.getElem_cons_succ, List.setIfInBounds_toArray, List.set_cons_zero, List.set_cons_succ]
  refine wpAnyH_take (i := 26) (v := ?_) rfl (by kernel_rfl) (by kernel_rfl) (by kernel_rfl) (fun _ _ _ h => h) (Or.inl ⟨by kernel_rfl, ?_⟩) (by assumption) ?_
  rotate_left
  · (intro w hSw; (try dsimp only at hSw); go_simp) <;> (try (with_reducible rfl))
  try simp only [Act.put, Array.getInternal_eq_getElem, List.getElem_toArray, List.getElem_cons_zero, List.getElem_cons_succ, List.setIfInBounds_toArray, List.set_cons_zero, List.set_cons_succ]
  refine wpAnyH_take (i := 27) (v := ?_) rfl (by kernel_rfl) (by kernel_rfl) (by kernel_rfl) (fun _ _ _ h => h) (Or.inl ⟨by kernel_rfl, ?_⟩) (by assumption) ?_
  rotate_left
  · (intro w hSw; (try dsimp only at hSw); go_simp) <;> (try (with_reducible rfl))
  try simp only [Act.put, Array.getInternal_eq_getElem, List.getElem_toArray, List.getElem_cons_zero, List.getElem_cons_succ, List.setIfInBounds_toArray, List.set_cons_zero, List.set_cons_succ]
  refine wpAnyH_done ?_ ?_ _
  · kernel_rfl
  go_wp2_with fail
  try rw [Exit.noGoto_ret]
  go_ret
  exact ⟨rfl, fun S => (KW6.out S).trans (K6.out.mono (fun _ _ z => z.elim))⟩
set_option maxRecDepth 100000 in
set_option maxHeartbeats 4000000 in
theorem psl_10 (a b : Hd) (ha : a.Wf) (hb : b.Wf) (A A2 : Option Addr) (n n2 c c2 : Nat) (hl : a.dat.length = n) (hl2 : b.dat.length = n2) (hn : n ≤ 140737488351232) (hr : Rd w w.heap.size A (by_ a.dat)) (hr2 : Rd w w.heap.size A2 (by_ b.dat)) (f : Int) (hf1 : -9223372036854775808 ≤ f) (hf2 : f ≤ 9223372036854775807) (hq : Int.tmod (Int.tmod f 11 + 11) 11 = 10) :
    Calls Try.prog 3 #[hvv a (.slice A n c), hvv b (.slice A2 n2 c2), .int .i64 f] w fun e w' => e = .returned (.bool true) ∧ ∀ S, Keeps S w w' := by
  obtain ⟨w1, hw1, k1, bA, bB, s1⟩ := box2 w (hcs a (.slice A n c)) (hcs b (.slice A2 n2 c2)) 29 29
  obtain ⟨wz, hwz, kz, bz, sz⟩ := box1 w1 zhd 29
  dsimp only [zhd] at hwz
  obtain ⟨t2, b2, k2⟩ := p_store bz (cs := hcs a (.slice A n c)) (by rw [hcs_len ha]; rfl)
  obtain ⟨w2, hw2⟩ : ∃ w2, w2 = wz.setCells w1.heap.size 0 (hcs a (.slice A n c)) := ⟨_, rfl⟩
  rw [← hw2] at b2 k2
  have k12 : ∀ S, Keeps S w1 w2 := keeps_own kz k2 (Nat.le_refl _)
  obtain ⟨w3, hw3, k3, b3, s3⟩ := box1 w2 [] 5
  have s2 : w1.heap.size + 1 ≤ w2.heap.size := by have := k2.size; omega
  have y3 : By w2 w3 (.slice (some ⟨w2.heap.size, 0, none⟩) 0 0) [] := By.of_blk b3 rfl (Nat.le_refl _) (by omega) k3
  have r3 := rd_old hr (((k1 (fun _ => False)).trans (k12 _)).trans (k3 _))
  obtain ⟨r, hrm⟩ : ∃ r, Int.tmod f 11 = r := ⟨_, rfl⟩
  have hrb := tmod11 f
  rw [hrm] at hrb hq
  have r1 := hrb.1
  have r2 := hrb.2
  have x42 : w3.cell? ⟨w.heap.size, 42, none⟩ = some (.slice A n c) := (HF.of_blk ha (Blk.keeps bA ((k12 (fun _ => False)).trans (k3 _)) (fun z => z))).dat
  have HWA := Lib.hid ha
  have HWB := Lib.hid hb
  have HY3 := Lib.hid y3
  have HR3 := Lib.hid r3
  have HLL := Lib.hid (And.intro hl hl2)
  have HRR := Lib.hid (And.intro hr hr2)
  have HN := Lib.hid hn
  have HKK := Lib.hid (And.intro k1 (And.intro k12 k3))
  have HBA := Lib.hid bA
  have HBB := Lib.hid bB
  have HB2 := Lib.hid b2
  have HT2 := Lib.hid t2
  have HS := Lib.hid (And.intro s1 s2)
  have HSZ : Hid ((Try.prog.info? 29).map (·.size) = some (hcs a (.slice A n c)).length) := Lib.hid (hd_sz ha _)
  have HSO := Lib.hid (all_oneCell_toArray (hcs_one (h := a) (v := .slice A n c) rfl))
  have HW1 := Lib.hid hw1
  have HWZ := Lib.hid hwz
  have HW2 := Lib.hid hw2
  replace hw3 : w3 = w2.alloc (.cells #[] 5) := hw3
  rw [hw3] at x42
  have HW3 := Lib.hid hw3
  unfold hvv
  clear hw1 k1 bA bB s1 hwz kz bz sz t2 b2 k2 hw2 k12 hw3 k3 b3 s3 s2 y3 r3 hrb ha hb hl hl2 hr hr2
  generalize hCA : hcs a (.slice A n c) = CA at *
  generalize hCB : hcs b (.slice A2 n2 c2) = CB at *
  have HCA := Lib.hid hCA
  have HCB := Lib.hid hCB
  clear hCA hCB
  go_enter Try.func3, Try.ntmps3
  go_wp2_with (first
    | ((with_reducible show wpList _ _ _ (⟨some 8, _, _, _, _, _⟩ :: _) _ _); (try rw [← HW1.out]); refine wpList_load_mid rfl 29 _ rfl w.heap.size 0 rfl CA _ (Blk.range HBA.out) Try.underlying29 rfl HSZ.out ?_)
    | ((with_reducible show wpList _ _ _ (⟨none, .store _ (.tmp 7) _, _, _, _, _⟩ :: _) _ _); (try rw [← HWZ.out]); refine' wpList_store_mid rfl 29 _ _ rfl w1.heap.size 0 (CA).toArray ?hx rfl ?ht HSZ.out HSO.out ?_; (case hx => rfl); (case ht => exact HT2.out); rw [← HW2.out])
    | ((with_reducible show wpList _ _ _ (⟨some 12, _, _, _, _, _⟩ :: _) _ _); (try rw [← HW3.out]); refine By.wpList_append rfl _ _ rfl HY3.out rfl A n c _ a.dat rfl HLL.out.1 HR3.out (by have := HN.out; simp; omega) ?_; intro v4 w4 y4 k4; clear k4; have ya := y4; obtain ⟨A4, c4, rfl, r4⟩ := ya.rd; rw [List.nil_append] at ya r4 ⊢; rw [HLL.out.1] at ya ⊢; have h1 := HWA.out.s; have h2 := HWA.out.d; have g4 := Blk.keeps HB2.out (ya.keep (fun _ => False)) (fun z => z); rw [← HCA.out] at g4; have c42 : w4.cell? ⟨w1.heap.size, 42, none⟩ = some _ := h_cell g4 h1 h2 8 _ rfl; have f42 : w4.frozen? ⟨w1.heap.size, 42, none⟩ = false := g4.frozen 42; have g5 := st_dat g4 h1 h2 (.slice A4 n c4) a.dat; have p5 := keeps_put (G := w1.heap.size) (Keeps.refl _ w4) 42 (.slice A4 n c4); have c42b : (w4.setCell ⟨w1.heap.size, 42, none⟩ (.slice A4 n c4)).cell? ⟨w1.heap.size, 42, none⟩ = some (.slice A4 n c4) := h_cell g5 h1 h2 8 _ rfl; obtain ⟨w5, hw5⟩ : ∃ w5, w5 = w4.setCell ⟨w1.heap.size, 42, none⟩ (.slice A4 n c4) := ⟨_, rfl⟩; obtain ⟨w6, hw6, k6, b6, s6⟩ := box1 (w4.setCell ⟨w1.heap.size, 42, none⟩ (.slice A4 n c4)) (by_ [0]) 5; replace hw6 : w6 = (w4.setCell ⟨w1.heap.size, 42, none⟩ (.slice A4 n c4)).alloc (.cells #[.int .u8 0] 5) := hw6; have hsz : (w4.setCell ⟨w1.heap.size, 42, none⟩ (.slice A4 n c4)).heap.size = w4.heap.size := (by simp); rw [hsz] at b6; have yb := (past_ (By.base (w := w1) ya HKK.out.2.1) p5 (Nat.le_refl _) (ya.apart (by have := HS.out.2; omega))).alloc (.cells #[.int .u8 0] 5); rw [← hw6] at yb; have r6 := rd_of_blk b6; have g6 : Blk w6 w1.heap.size 29 (hcs {a with dat := a.dat} (.slice A4 n c4)) := Blk.keeps g5 (k6 (fun _ => False)) (fun z => z); have HYB := Lib.hid yb; have HR6 := Lib.hid r6; have HG6 := Lib.hid g6; have HNE := Lib.hid (ya.apart (X := w1.heap.size) (by have := HS.out.2; omega)); have HW6 := Lib.hid hw6; have HLT := Lib.hid (show w1.heap.size < w6.heap.size from g6.lt); clear hw5 hw6 yb b6 r6 g6 g5 p5 ya r4 g4 k6 s6 hsz)
    | ((with_reducible show wpList _ _ _ (⟨some 21, _, _, _, _, _⟩ :: _) _ _); (try rw [← HW6.out]); refine By.wpList_append2 rfl _ _ rfl HYB.out rfl (some ⟨w4.heap.size, 0, none⟩) 1 1 _ [0] rfl rfl HR6.out (by have := HN.out; have := HLL.out.1; omega) ?_; intro v7 w7 y7 k7 a7; obtain ⟨A5, c5, rfl, r7⟩ := y7.rd; obtain ⟨m5, hm5⟩ : ∃ m5, (a.dat ++ [0]).length = m5 := ⟨_, rfl⟩; rw [hm5] at y7 a7 ⊢; have HM5 := Lib.hid hm5; clear hm5; have g7 := Blk.keeps HG6.out k7 (fun e => HNE.out e); have c42c : w7.cell? ⟨w1.heap.size, 42, none⟩ = some _ := h_cell g7 h1 h2 8 _ rfl; have f42c : w7.frozen? ⟨w1.heap.size, 42, none⟩ = false := g7.frozen 42; have g6 := st_dat g7 h1 h2 (.slice A5 m5 c5) (a.dat ++ [0]); have p6 := keeps_put (G := w1.heap.size) (Keeps.refl _ w7) 42 (.slice A5 m5 c5); have HA7 : Hid (¬ (Value.slice A5 m5 c5).ownBlock = some w1.heap.size) := Lib.hid (fun e => (by rcases a7 with q | q; (· exact HNE.out (q.symm.trans e)); (· have h := q.symm.trans e; injection h with h; have := HLT.out; omega))); clear a7 k7))
  --@E
  obtain ⟨w6, hw6⟩ : ∃ w6, w6 = w7.setCell ⟨w1.heap.size, 42, none⟩ (.slice A5 m5 c5) := ⟨_, rfl⟩
  rw [← hw6]
  rw [← hw6] at g6 p6
  have gC : Blk w6 w1.heap.size 29 (hcs (⟨a.src, a.dst, a.pr, a.sp, a.dp, a.ttl, a.cls, a.id, a.fl, a.seq, a.dat ++ [0]⟩ : Hd) (.slice A5 m5 c5)) := g6
  have hch : (⟨a.src, a.dst, a.pr, a.sp, a.dp, a.ttl, a.cls, a.id, a.fl, a.seq, a.dat ++ [0]⟩ : Hd).Wf := ⟨HWA.out.s, HWA.out.d, HWA.out.p, HWA.out.sl, HWA.out.dl, HWA.out.t, HWA.out.c, HWA.out.i, HWA.out.f, HWA.out.q, fun x hx => (List.mem_append.1 hx).elim (HWA.out.b x) (fun h => by simp at h; omega)⟩
  have hne : ¬ a = (⟨a.src, a.dst, a.pr, a.sp, a.dp, a.ttl, a.cls, a.id, a.fl, a.seq, a.dat ++ [0]⟩ : Hd) := fun e => by have h := congrArg (fun h : Hd => h.dat.length) e; simp at h
  have hdl : (⟨a.src, a.dst, a.pr, a.sp, a.dp, a.ttl, a.cls, a.id, a.fl, a.seq, a.dat ++ [0]⟩ : Hd).dat.length = m5 := HM5.out
  have s1 := HS.out.1
  have s2 := HS.out.2
  have k16 : ∀ S, Keeps S w1 w6 := keeps_own y7.keep p6 (Nat.le_refl _)
  have kw6 : ∀ S, Keeps S w w6 := fun S => (HKK.out.1 S).trans (k16 S)
  have gA := Blk.keeps HBA.out (k16 (fun _ => False)) (fun z => z)
  have gB := Blk.keeps HBB.out (k16 (fun _ => False)) (fun z => z)
  have rC : Rd w6 w6.heap.size A5 (by_ (⟨a.src, a.dst, a.pr, a.sp, a.dp, a.ttl, a.cls, a.id, a.fl, a.seq, a.dat ++ [0]⟩ : Hd).dat) := (by obtain ⟨A9, c9, h9, r9⟩ := (past_ y7 p6 (Nat.le_refl _) HA7.out).rd; injection h9 with e1 _ _; subst e1; exact r9)
  have KW6 := Lib.hid kw6
  have HCL : Hid (∀ wq, Keeps (fun _ => False) w6 wq → wq.rangeAt w.heap.size 0 CA ∧ wq.rangeAt (w.heap.size + 1) 0 CB ∧ wq.rangeAt w1.heap.size 0 (hcs (⟨a.src, a.dst, a.pr, a.sp, a.dp, a.ttl, a.cls, a.id, a.fl, a.seq, a.dat ++ [0]⟩ : Hd) (.slice A5 m5 c5))) := Lib.hid (fun wq kq => ⟨Blk.range (Blk.keeps gA kq (fun z => z)), Blk.range (Blk.keeps gB kq (fun z => z)), Blk.range (Blk.keeps gC kq (fun z => z))⟩)
  have ra : ∀ u, Keeps (fun _ => False) w6 u → Rd u u.heap.size A (by_ a.dat) := fun u hu => (rd_old HRR.out.1 ((kw6 _).trans hu)).more ((kw6 (fun _ => False)).trans hu).size
  have rb : ∀ u, Keeps (fun _ => False) w6 u → Rd u u.heap.size A2 (by_ b.dat) := fun u hu => (rd_old HRR.out.2 ((kw6 _).trans hu)).more ((kw6 (fun _ => False)).trans hu).size
  have rc : ∀ u, Keeps (fun _ => False) w6 u → Rd u u.heap.size A5 (by_ (⟨a.src, a.dst, a.pr, a.sp, a.dp, a.ttl, a.cls, a.id, a.fl, a.seq, a.dat ++ [0]⟩ : Hd).dat) := fun u hu => (rd_old rC hu).more hu.size
  have HAB : Hid (∀ u, Keeps (fun _ => False) w6 u → Calls Try.prog 11 #[.agg CA.toArray, .agg CB.toArray] u fun e w' => e = .returned (.bool (sameH a b)) ∧ ∀ S, Keeps S u w') := Lib.hid (fun u hu => by rw [← HCA.out, ← HCB.out]; exact psame2_ u a b HWA.out HWB.out A A2 n n2 c c2 HLL.out.1 HLL.out.2 (ra u hu) (rb u hu))
  have HRB : Hid (∀ u, Keeps (fun _ => False) w6 u → Calls Try.prog 12 #[.agg CA.toArray, .agg CB.toArray] u fun e w' => e = .returned (.bool (sameH a b)) ∧ ∀ S, Keeps S u w') := Lib.hid (fun u hu => by rw [← HCA.out, ← HCB.out]; exact rsame_ u a b HWA.out HWB.out A A2 n n2 c c2 HLL.out.1 HLL.out.2 (by have := HN.out; omega) (ra u hu) (rb u hu))
  have HAA : Hid (∀ u, Keeps (fun _ => False) w6 u → Calls Try.prog 11 #[.agg CA.toArray, .agg CA.toArray] u fun e w' => e = .returned (.bool true) ∧ ∀ S, Keeps S u w') := Lib.hid (fun u hu => by rw [← HCA.out]; have := psame2_ u a a HWA.out HWA.out A A n n c c HLL.out.1 HLL.out.1 (ra u hu) (ra u hu); rw [same_yes rfl] at this; exact this)
  have HAC : Hid (∀ u, Keeps (fun _ => False) w6 u → Calls Try.prog 11 #[.agg CA.toArray, .agg (hcs (⟨a.src, a.dst, a.pr, a.sp, a.dp, a.ttl, a.cls, a.id, a.fl, a.seq, a.dat ++ [0]⟩ : Hd) (.slice A5 m5 c5)).toArray] u fun e w' => e = .returned (.bool false) ∧ ∀ S, Keeps S u w') := Lib.hid (fun u hu => by rw [← HCA.out]; have := psame2_ u a (⟨a.src, a.dst, a.pr, a.sp, a.dp, a.ttl, a.cls, a.id, a.fl, a.seq, a.dat ++ [0]⟩ : Hd) HWA.out hch A A5 n m5 c c5 HLL.out.1 hdl (ra u hu) (rc u hu); rw [same_no hne] at this; exact this)
  have HCC : Hid (∀ u, Keeps (fun _ => False) w6 u → Calls Try.prog 11 #[.agg (hcs (⟨a.src, a.dst, a.pr, a.sp, a.dp, a.ttl, a.cls, a.id, a.fl, a.seq, a.dat ++ [0]⟩ : Hd) (.slice A5 m5 c5)).toArray, .agg CA.toArray] u fun e w' => e = .returned (.bool false) ∧ ∀ S, Keeps S u w') := Lib.hid (fun u hu => by rw [← HCA.out]; have := psame2_ u (⟨a.src, a.dst, a.pr, a.sp, a.dp, a.ttl, a.cls, a.id, a.fl, a.seq, a.dat ++ [0]⟩ : Hd) a hch HWA.out A5 A m5 n c5 c hdl HLL.out.1 (rc u hu) (ra u hu); rw [same_no (fun e => hne e.symm)] at this; exact this)
  have HSC : Hid ((Try.prog.info? 29).map (·.size) = some (hcs (⟨a.src, a.dst, a.pr, a.sp, a.dp, a.ttl, a.cls, a.id, a.fl, a.seq, a.dat ++ [0]⟩ : Hd) (.slice A5 m5 c5)).length) := Lib.hid (hd_sz hch _)
  have HSB : Hid ((Try.prog.info? 29).map (·.size) = some CB.length) := Lib.hid (by rw [← HCB.out]; exact hd_sz HWB.out _)
  clear hw6 g6 p6 gC hch hne hdl s1 s2 k16 kw6 gA gB rC ra rb rc y7 r7 g7 h1 h2 c42 f42 c42b c42c f42c
  generalize hcs (⟨a.src, a.dst, a.pr, a.sp, a.dp, a.ttl, a.cls, a.id, a.fl, a.seq, a.dat ++ [0]⟩ : Hd) (.slice A5 m5 c5) = CC at *
  obtain ⟨z, hz⟩ : ∃ z, z = sameH a b := ⟨_, rfl⟩
  rw [← hz] at HAB HRB
  clear hz
  have hzz : (z == z) = true := beq_self_eq_true z
  go_wp2_with fail
  --@25
  refine wp_region_held_drew (S := fun w' => w'.rangeAt w.heap.size 0 CA ∧ w'.rangeAt (w.heap.size + 1) 0 CB ∧ w'.rangeAt w1.heap.size 0 CC) (by kernel_rfl) (HCL.out _ ((Keeps.refl _ w6).drew)) (fun hHeld => ?_)
  refine' wpAnyH_take (i := 0) (v := _) rfl (by kernel_rfl) (by kernel_rfl) (by kernel_rfl) (fun _ _ _ h => h) (yieldsIf_load_mid (by kernel_rfl) _ _ rfl _ _ rfl _ _ (fun w hSw => hSw.1) Try.underlying29 rfl HSZ.out) (by assumption) ?_
  try simp only [Act.put, Array.getInternal_eq_getElem, List.getElem_toArray, List.getElem_cons_zero, List.getElem_cons_succ, List.setIfInBounds_toArray, List.set_cons_zero, List.set_cons_succ]
  refine' wpAnyH_take (i := 1) (v := _) rfl (by kernel_rfl) (by kernel_rfl) (by kernel_rfl) (fun _ _ _ h => h) (yieldsIf_load_mid (by kernel_rfl) _ _ rfl _ _ rfl _ _ (fun w hSw => hSw.2.1) Try.underlying29 rfl HSB.out) (by assumption) ?_
  try simp only [Act.put, Array.getInternal_eq_getElem, List.getElem_toArray, List.getElem_cons_zero, List.getElem_cons_succ, List.setIfInBounds_toArray, List.set_cons_zero, List.set_cons_succ]
  refine' wpAnyH_take (i := 3) (v := _) rfl (by kernel_rfl) (by kernel_rfl) (by kernel_rfl) (fun _ _ _ h => h) (yieldsIf_load_mid (by kernel_rfl) _ _ rfl _ _ rfl _ _ (fun w hSw => hSw.1) Try.underlying29 rfl HSZ.out) (by assumption) ?_
  try simp only [Act.put, Array.getInternal_eq_getElem, List.getElem_toArray, List.getElem_cons_zero, List.getElem_cons_succ, List.setIfInBounds_toArray, List.set_cons_zero, List.set_cons_succ]
  refine' wpAnyH_take (i := 4) (v := _) rfl (by kernel_rfl) (by kernel_rfl) (by kernel_rfl) (fun _ _ _ h => h) (yieldsIf_load_mid (by kernel_rfl) _ _ rfl _ _ rfl _ _ (fun w hSw => hSw.2.1) Try.underlying29 rfl HSB.out) (by assumption) ?_
  try simp only [Act.put, Array.getInternal_eq_getElem, List.getElem_toArray, List.getElem_cons_zero, List.getElem_cons_succ, List.setIfInBounds_toArray, List.set_cons_zero, List.set_cons_succ]
  refine wpAnyH_ready (rs := [2]) (by kernel_rfl) (by simp) ?_
  refine AllReadyH.cons rfl (fun K hK => ?_) AllReadyH.nil
  (rw [if_pos (by kernel_rfl)]; go_simp; go_at_call 11; refine (HAB.out _ ((Keeps.refl _ w6).drew)).mono ?_; rintro e u1 ⟨rfl, k1⟩; have K1 := Lib.hid (Keeps.trans (S := fun _ => False) ((Keeps.refl _ w6).drew) (k1 _)); clear k1)
  refine hK.out _ _ (HCL.out _ K1.out) (fun hHeld => ?_)
  clear hK K
  try simp only [Act.put, Array.getInternal_eq_getElem, List.getElem_toArray, List.getElem_cons_zero, List.getElem_cons_succ, List.setIfInBounds_toArray, List.set_cons_zero, List.set_cons_succ]
  refine wpAnyH_ready (rs := [5]) (by kernel_rfl) (by simp) ?_
  refine AllReadyH.cons rfl (fun K hK => ?_) AllReadyH.nil
  (rw [if_pos (by kernel_rfl)]; go_simp; go_at_call 12; refine (HRB.out _ K1.out).mono ?_; rintro e u2 ⟨rfl, k2⟩; have K2 := Lib.hid (Keeps.trans (S := fun _ => False) K1.out (k2 _)); clear k2)
  refine hK.out _ _ (HCL.out _ K2.out) (fun hHeld => ?_)
  clear hK K
  try simp only [Act.put, Array.getInternal_eq_getElem, List.getElem_toArray, List.getElem_cons_zero, List.getElem_cons_succ, List.setIfInBounds_toArray, List.set_cons_zero, List.set_cons_succ]
  refine wpAnyH_take (i := 6) (v := ?_) rfl (by kernel_rfl) (by kernel_rfl) (by kernel_rfl) (fun _ _ _ h => h) (Or.inl ⟨by kernel_rfl, ?_⟩) (by assumption) ?_
  rotate_left
  · (intro w hSw; (try dsimp only at hSw); go_simp) <;> (try (with_reducible rfl))
  try simp only [Act.put, Array.getInternal_eq_getElem, List.getElem_toArray, List.getElem_cons_zero, List.getElem_cons_succ, List.setIfInBounds_toArray, List.set_cons_zero, List.set_cons_succ]
  refine wpAnyH_take (i := 7) (v := ?_) rfl (by kernel_rfl) (by kernel_rfl) (by kernel_rfl) (fun _ _ _ h => h) (Or.inl ⟨by kernel_rfl, ?_⟩) (by assumption) ?_
  rotate_left
  · (intro w hSw; (try dsimp only at hSw); go_simp) <;> (try (with_reducible rfl))
  try simp only [Act.put, Array.getInternal_eq_getElem, List.getElem_toArray, List.getElem_cons_zero, List.getElem_cons_succ, List.setIfInBounds_toArray, List.set_cons_zero, List.set_cons_succ]
  refine' wpAnyH_take (i := 8) (v := _) rfl (by kernel_rfl) (by kernel_rfl) (by kernel_rfl) (fun _ _ _ h => h) (yieldsIf_load_mid (by kernel_rfl) _ _ rfl _ _ rfl _ _ (fun w hSw => hSw.1) Try.underlying29 rfl HSZ.out) (by assumption) ?_
  try simp only [Act.put, Array.getInternal_eq_getElem, List.getElem_toArray, List.getElem_cons_zero, List.getElem_cons_succ, List.setIfInBounds_toArray, List.set_cons_zero, List.set_cons_succ]
  refine' wpAnyH_take (i := 9) (v := _) rfl (by kernel_rfl) (by kernel_rfl) (by kernel_rfl) (fun _ _ _ h => h) (yieldsIf_load_mid (by kernel_rfl) _ _ rfl _ _ rfl _ _ (fun w hSw => hSw.1) Try.underlying29 rfl HSZ.out) (by assumption) ?_
  try simp only [Act.put, Array.getInternal_eq_getElem, List.getElem_toArray, List.getElem_cons_zero, List.getElem_cons_succ, List.setIfInBounds_toArray, List.set_cons_zero, List.set_cons_succ]
  refine wpAnyH_ready (rs := [10]) (by kernel_rfl) (by simp) ?_
  refine AllReadyH.cons rfl (fun K hK => ?_) AllReadyH.nil
  (rw [if_pos (by kernel_rfl)]; go_simp; go_at_call 11; refine (HAA.out _ K2.out).mono ?_; rintro e u3 ⟨rfl, k3⟩; have K3 := Lib.hid (Keeps.trans (S := fun _ => False) K2.out (k3 _)); clear k3)
  refine hK.out _ _ (HCL.out _ K3.out) (fun hHeld => ?_)
  clear hK K
  try simp only [Act.put, Array.getInternal_eq_getElem, List.getElem_toArray, List.getElem_cons_zero, List.getElem_cons_succ, List.setIfInBounds_toArray, List.set_cons_zero, List.set_cons_succ]
  refine wpAnyH_take (i := 11) (v := ?_) rfl (by kernel_rfl) (by kernel_rfl) (by kernel_rfl) (fun _ _ _ h => h) (Or.inl ⟨by kernel_rfl, ?_⟩) (by assumption) ?_
  rotate_left
  · (intro w hSw; (try dsimp only at hSw); go_simp) <;> (try (with_reducible rfl))
  try simp only [Act.put, Array.getInternal_eq_getElem, List.getElem_toArray, List.getElem_cons_zero, List.getElem_cons_succ, List.setIfInBounds_toArray, List.set_cons_zero, List.set_cons_succ]
  refine wpAnyH_take (i := 12) (v := ?_) rfl (by kernel_rfl) (by kernel_rfl) (by kernel_rfl) (fun _ _ _ h => h) (Or.inl ⟨by kernel_rfl, ?_⟩) (by assumption) ?_
  rotate_left
  · (intro w hSw; (try dsimp only at hSw); go_simp) <;> (try (with_reducible rfl))
  try simp only [Act.put, Array.getInternal_eq_getElem, List.getElem_toArray, List.getElem_cons_zero, List.getElem_cons_succ, List.setIfInBounds_toArray, List.set_cons_zero, List.set_cons_succ]
  refine' wpAnyH_take (i := 13) (v := _) rfl (by kernel_rfl) (by kernel_rfl) (by kernel_rfl) (fun _ _ _ h => h) (yieldsIf_load_mid (by kernel_rfl) _ _ rfl _ _ rfl _ _ (fun w hSw => hSw.1) Try.underlying29 rfl HSZ.out) (by assumption) ?_
  try simp only [Act.put, Array.getInternal_eq_getElem, List.getElem_toArray, List.getElem_cons_zero, List.getElem_cons_succ, List.setIfInBounds_toArray, List.set_cons_zero, List.set_cons_succ]
  refine' wpAnyH_take (i := 14) (v := _) rfl (by kernel_rfl) (by kernel_rfl) (by kernel_rfl) (fun _ _ _ h => h) (yieldsIf_load_mid (by kernel_rfl) _ _ rfl _ _ rfl _ _ (fun w hSw => hSw.2.2) Try.underlying29 rfl HSC.out) (by assumption) ?_
  try simp only [Act.put, Array.getInternal_eq_getElem, List.getElem_toArray, List.getElem_cons_zero, List.getElem_cons_succ, List.setIfInBounds_toArray, List.set_cons_zero, List.set_cons_succ]
  refine wpAnyH_ready (rs := [15]) (by kernel_rfl) (by simp) ?_
  refine AllReadyH.cons rfl (fun K hK => ?_) AllReadyH.nil
  (rw [if_pos (by kernel_rfl)]; go_simp; go_at_call 11; refine (HAC.out _ K3.out).mono ?_; rintro e u4 ⟨rfl, k4⟩; have K4 := Lib.hid (Keeps.trans (S := fun _ => False) K3.out (k4 _)); clear k4)
  refine hK.out _ _ (HCL.out _ K4.out) (fun hHeld => ?_)
  clear hK K
  try simp only [Act.put, Array.getInternal_eq_getElem, List.getElem_toArray, List.getElem_cons_zero, List.getElem_cons_succ, List.setIfInBounds_toArray, List.set_cons_zero, List.set_cons_succ]
  refine wpAnyH_take (i := 16) (v := ?_) rfl (by kernel_rfl) (by kernel_rfl) (by kernel_rfl) (fun _ _ _ h => h) (Or.inl ⟨by kernel_rfl, ?_⟩) (by assumption) ?_
  rotate_left
  · (intro w hSw; (try dsimp only at hSw); go_simp) <;> (try (with_reducible rfl))
  try simp only [Act.put, Array.getInternal_eq_getElem, List.getElem_toArray, List.getElem_cons_zero, List.getElem_cons_succ, List.setIfInBounds_toArray, List.set_cons_zero, List.set_cons_succ]
  refine wpAnyH_take (i := 17) (v := ?_) rfl (by kernel_rfl) (by kernel_rfl) (by kernel_rfl) (fun _ _ _ h => h) (Or.inl ⟨by kernel_rfl, ?_⟩) (by assumption) ?_
  rotate_left
  · (intro w hSw; (try dsimp only at hSw); go_simp) <;> (try (with_reducible rfl))
  try simp only [Act.put, Array.getInternal_eq_getElem, List.getElem_toArray, List.getElem_cons_zero, List.getElem_cons_succ, List.setIfInBounds_toArray, List.set_cons_zero, List.set_cons_succ]
  refine wpAnyH_take (i := 18) (v := ?_) rfl (by kernel_rfl) (by kernel_rfl) (by kernel_rfl) (fun _ _ _ h => h) (Or.inl ⟨by kernel_rfl, ?_⟩) (by assumption) ?_
  rotate_left
  · (intro w hSw; (try dsimp only at hSw); go_simp) <;> (try (with_reducible rfl))
  try simp only [Act.put, Array.getInternal_eq_getElem, List.getElem_toArray, List.getElem_cons_zero, List.getElem_cons_succ, List.setIfInBounds_toArray, List.set_cons_zero, List.set_cons_succ]
  refine' wpAnyH_take (i := 19) (v := _) rfl (by kernel_rfl) (by kernel_rfl) (by kernel_rfl) (fun _ _ _ h => h) (yieldsIf_load_mid (by kernel_rfl) _ _ rfl _ _ rfl _ _ (fun w hSw => hSw.2.2) Try.underlying29 rfl HSC.out) (by assumption) ?_
  try simp only [Act.put, Array.getInternal_eq_getElem, List.getElem_toArray, List.getElem_cons_zero, List.getElem_cons_succ, List.setIfInBounds_toArray, List.set_cons_zero, List.set_cons_succ]
  refine' wpAnyH_take (i := 20) (v := _) rfl (by kernel_rfl) (by kernel_rfl) (by kernel_rfl) (fun _ _ _ h => h) (yieldsIf_load_mid (by kernel_rfl) _ _ rfl _ _ rfl _ _ (fun w hSw => hSw.1) Try.underlying29 rfl HSZ.out) (by assumption) ?_
  try simp only [Act.put, Array.getInternal_eq_getElem, List.getElem_toArray, List.getElem_cons_zero, List.getElem_cons_succ, List.setIfInBounds_toArray, List.set_cons_zero, List.set_cons_succ]
  refine wpAnyH_ready (rs := [21]) (by kernel_rfl) (by simp) ?_
  refine AllReadyH.cons rfl (fun K hK => ?_) AllReadyH.nil
  (rw [if_pos (by kernel_rfl)]; go_simp; go_at_call 11; refine (HCC.out _ K4.out).mono ?_; rintro e u5 ⟨rfl, k5⟩; have K5 := Lib.hid (Keeps.trans (S := fun _ => False) K4.out (k5 _)); clear k5)
  refine hK.out _ _ (HCL.out _ K5.out) (fun hHeld => ?_)
  clear hK K
  try simp only [Act.put, Array.getInternal_eq_getElem, List.getElem_toArray, List.getElem_cons_zero, List.getElem_cons_succ, List.setIfInBounds_toArray, List.set_cons_zero, List.set_cons_succ]
  refine wpAnyH_take (i := 22) (v := ?_) rfl (by kernel_rfl) (by kernel_rfl) (by kernel_rfl) (fun _ _ _ h => h) (Or.inl ⟨by kernel_rfl, ?_⟩) (by assumption) ?_
  rotate_left
  · (intro w hSw; (try dsimp only at hSw); go_simp) <;> (try (with_reducible rfl))
  try simp only [Act.put, Array.getInternal_eq_getElem, List.getElem_toArray, List.getElem_cons_zero, List.getElem_cons_succ, List.setIfInBounds_toArray, List.set_cons_zero, List.set_cons_succ]
  refine wpAnyH_take (i := 23) (v := ?_) rfl (by kernel_rfl) (by kernel_rfl) (by kernel_rfl) (fun _ _ _ h => h) (Or.inl ⟨by kernel_rfl, ?_⟩) (by assumption) ?_
  rotate_left
  · (intro w hSw; (try dsimp only at hSw); go_simp) <;> (try (with_reducible rfl))
  try simp only [Act.put, Array.getInternal_eq_getElem, List.getElem_toArray, List.getElem_cons_zero, List.getElem_cons_succ, List.setIfInBounds_toArray, List.set_cons_zero, List.set_cons_succ]
  refine wpAnyH_take (i := 24) (v := ?_) rfl (by kernel_rfl) (by kernel_rfl) (by kernel_rfl) (fun _ _ _ h => h) (Or.inl ⟨by kernel_rfl, ?_⟩) (by assumption) ?_
  rotate_left
  · (intro w hSw; (try dsimp only at hSw); go_simp) <;> (try (with_reducible rfl))
  try simp only [Act.put, Array.getInternal_eq_getElem, List.getElem_toArray, List.getElem_cons_zero, List.getElem_cons_succ, List.setIfInBounds_toArray, List.set_cons_zero, List.set_cons_succ]
  refine wpAnyH_ready (rs := [25]) (by kernel_rfl) (by simp) ?_
  refine AllReadyH.cons rfl (fun K hK => ?_) AllReadyH.nil
  (rw [if_pos (by kernel_rfl)]; go_simp; go_at_call 13; refine (works_ _).mono ?_; rintro e u6 ⟨rfl, k6⟩; have K6 := Lib.hid (Keeps.trans (S := fun _ => False) K5.out (k6 _)); clear k6)
  refine hK.out _ _ (HCL.out _ K6.out) (fun hHeld => ?_)
  clear hK K
  try simp only [Act.put, Array.getInternal_eq_getElem, List.getElem_toArray, List.getElem_cons_zero, List.getElem_cons_succ, List.setIfInBounds_toArray, List.set_cons_zero, List.set_cons_succ]
  refine wpAnyH_take (i := 26) (v := ?_) rfl (by kernel_rfl) (by kernel_rfl) (by kernel_rfl) (fun _ _ _ h => h) (Or.inl ⟨by kernel_rfl, ?_⟩) (by assumption) ?_
  rotate_left
  · (intro w hSw; (try dsimp only at hSw); go_simp) <;> (try (with_reducible rfl))
  try simp only [Act.put, Array.getInternal_eq_getElem, List.getElem_toArray, List.getElem_cons_zero, List.getElem_cons_succ, List.setIfInBounds_toArray, List.set_cons_zero, List.set_cons_succ]
  refine wpAnyH_take (i := 27) (v := ?_) rfl (by kernel_rfl) (by kernel_rfl) (by kernel_rfl) (fun _ _ _ h => h) (Or.inl ⟨by kernel_rfl, ?_⟩) (by assumption) ?_
  rotate_left
  · (intro w hSw; (try dsimp only at hSw); go_simp) <;> (try (with_reducible rfl))
  try simp only [Act.put, Array.getInternal_eq_getElem, List.getElem_toArray, List.getElem_cons_zero, List.getElem_cons_succ, List.setIfInBounds_toArray, List.set_cons_zero, List.set_cons_succ]
  refine wpAnyH_done ?_ ?_ _
  · kernel_rfl
  go_wp2_with fail
  try rw [Exit.noGoto_ret]
  go_ret
  exact ⟨rfl, fun S => (KW6.out S).trans (K6.out.mono (fun _ _ z => z.elim))⟩
theorem below_of {w w1 : World} (k : ∀ S, Keeps S w w1) : Below w.heap.size w w1 := ⟨(k (fun _ => False)).same.1, (k (fun _ => False)).same.2, (k (fun _ => False)).same.3, (k (fun _ => False)).size, fun b hb => (k (fun _ => False)).block b hb (fun z => z)⟩
theorem walk_packetSame (a : Hd) (ha : a.Wf) (A : Option Addr) (n c : Nat) (hl : a.dat.length = n) (hc : n ≤ c) (hz : c ≤ 140737488351232) (hr : Rd w w.heap.size A (by_ a.dat)) (b : Hd) (hb : b.Wf) (A2 : Option Addr) (n2 c2 : Nat) (hl2 : b.dat.length = n2) (hc2 : n2 ≤ c2) (hz2 : c2 ≤ 140737488351232) (hr2 : Rd w w.heap.size A2 (by_ b.dat)) (f : Int) (hf1 : -9223372036854775808 ≤ f) (hf2 : f ≤ 9223372036854775807) :
    Calls Try.prog 3 #[hvv a (.slice A n c), hvv b (.slice A2 n2 c2), .int .i64 f] w fun e w' => e = .returned (.bool true) ∧ Below w.heap.size w w' := by
  have hn : n ≤ 140737488351232 := by omega
  suffices h : Calls Try.prog 3 #[hvv a (.slice A n c), hvv b (.slice A2 n2 c2), .int .i64 f] w fun e w' => e = .returned (.bool true) ∧ ∀ S, Keeps S w w' from h.mono fun e w' ⟨h1, h2⟩ => ⟨h1, below_of h2⟩
  obtain ⟨r1, r2⟩ := tmod11 f
  obtain ⟨q, hq⟩ : ∃ q : Nat, Int.tmod (Int.tmod f 11 + 11) 11 = (q : Int) := ⟨(Int.tmod (Int.tmod f 11 + 11) 11).toNat, by rw [Int.tmod_eq_emod_of_nonneg (by omega)]; omega⟩
  have hq9 : q < 11 := by rw [Int.tmod_eq_emod_of_nonneg (by omega)] at hq; omega
  match q, hq9, hq with
  | 0, _, hq => exact psl_0 w a b ha hb A A2 n n2 c c2 hl hl2 hn hr hr2 f hf1 hf2 hq
  | 1, _, hq => exact psl_1 w a b ha hb A A2 n n2 c c2 hl hl2 hn hr hr2 f hf1 hf2 hq
  | 2, _, hq => exact psl_2 w a b ha hb A A2 n n2 c c2 hl hl2 hn hr hr2 f hf1 hf2 hq
  | 3, _, hq => exact psl_3 w a b ha hb A A2 n n2 c c2 hl hl2 hn hr hr2 f hf1 hf2 hq
  | 4, _, hq => exact psl_4 w a b ha hb A A2 n n2 c c2 hl hl2 hn hr hr2 f hf1 hf2 hq
  | 5, _, hq => exact psl_5 w a b ha hb A A2 n n2 c c2 hl hl2 hn hr hr2 f hf1 hf2 hq
  | 6, _, hq => exact psl_6 w a b ha hb A A2 n n2 c c2 hl hl2 hn hr hr2 f hf1 hf2 hq
  | 7, _, hq => exact psl_7 w a b ha hb A A2 n n2 c c2 hl hl2 hn hr hr2 f hf1 hf2 hq
  | 8, _, hq => exact psl_8 w a b ha hb A A2 n n2 c c2 hl hl2 hn hr hr2 f hf1 hf2 hq
  | 9, _, hq => exact psl_9 w a b ha hb A A2 n n2 c c2 hl hl2 hn hr hr2 f hf1 hf2 hq
  | 10, _, hq => exact psl_10 w a b ha hb A A2 n n2 c c2 hl hl2 hn hr hr2 f hf1 hf2 hq
  | q + 11, h, _ => omega
end
end Go.Proofs.Ytidengmcbppcoaa.pk
namespace Go.Proofs.Ytidengmcbppcoaa.packetSame
open Go.Proofs.Ytidengmcbppcoaa.pk Go.ChangeShapes Go.WideShapes Go.ChangeAt Go.RowKit Go.Proofs.Ytidengmcbppcoaa.oc
open Go.ChangeMaps (open_string shut_string)
set_option linter.unusedVariables false

theorem own : ownKnob Try.prog.godebug = none := by kernel_rfl
theorem laidOut : laidOutB Try.prog = true := by kernel_rfl

set_option maxRecDepth 100000 in
theorem lifted (os : Os) (started : os.Started) (H : Type) (enc : TypeId × Value → H) :
    ReturnsInHanded {} Try.checked os 3 .any (Rows.packetSameSpec.pre6 enc Try.prog Try.f3 Rows.packetSameRow.domain false) (Rows.packetSameSpec.post enc Try.prog Try.f3 false true false false) := by
  refine returnsInHanded_of_change_sized (C := Try.checked) own started (by kernel_rfl) Try.func3
    (ChangeSpec.witness6 (enc := enc) (C := Try.checked) false ⟨#[], #[.agg #[.bool false, .int .u8 0, .int .u8 0, .int .u8 0, .int .u8 0, .int .u8 0, .int .u8 0, .int .u8 0, .int .u8 0, .int .u8 0, .int .u8 0, .int .u8 0, .int .u8 0, .int .u8 0, .int .u8 0, .int .u8 0, .int .u8 0, .bool false, .int .u8 0, .int .u8 0, .int .u8 0, .int .u8 0, .int .u8 0, .int .u8 0, .int .u8 0, .int .u8 0, .int .u8 0, .int .u8 0, .int .u8 0, .int .u8 0, .int .u8 0, .int .u8 0, .int .u8 0, .int .u8 0, .int .u8 0, .int .u16 0, .int .u16 0, .int .u8 0, .int .u8 0, .int .u32 0, .int .u8 0, .int .u32 0, .slice none 0 0], .agg #[.bool false, .int .u8 0, .int .u8 0, .int .u8 0, .int .u8 0, .int .u8 0, .int .u8 0, .int .u8 0, .int .u8 0, .int .u8 0, .int .u8 0, .int .u8 0, .int .u8 0, .int .u8 0, .int .u8 0, .int .u8 0, .int .u8 0, .bool false, .int .u8 0, .int .u8 0, .int .u8 0, .int .u8 0, .int .u8 0, .int .u8 0, .int .u8 0, .int .u8 0, .int .u8 0, .int .u8 0, .int .u8 0, .int .u8 0, .int .u8 0, .int .u8 0, .int .u8 0, .int .u8 0, .int .u8 0, .int .u16 0, .int .u16 0, .int .u8 0, .int .u8 0, .int .u32 0, .int .u8 0, .int .u32 0, .slice none 0 0], .int .i64 0], []⟩ 8 (by kernel_rfl) (by kernel_rfl) (by kernel_rfl) (by kernel_rfl)) ?_
  intro W base args ds gs before hval0 hW hcnd hsz0 _
  have hval : ∀ (j : Nat) t v, Try.f3.params[j]? = some t → args[j]? = some v → Value.okWide Try.prog W .any base t v := hval0
  have hsz : (DataW.weightsEach Try.prog (Try.f3.params.toList ++ Rows.packetSameSpec.plain.varTypes Try.prog) (ds ++ gs)).all (· ≤ reachBytes) = true := hsz0
  have hW' := hW
  obtain ⟨p, q, hA0, hV, rfl, hfz, hnd⟩ := hW
  have hA : DataW.TrodAll enc Try.prog W 0 (fun _ => true) true Try.f3.params.toList args.toList ds p := hA0
  rw [Try.params3] at hA hval hsz
  obtain ⟨v0, vs0, d0, ds0, p0, q0, hargs, rfl, rfl, h0, r0⟩ := trodAll_cons hA
  obtain ⟨v1, vs1, d1, ds1, p1, q1, rfl, rfl, rfl, h1, r1⟩ := trodAll_cons r0
  obtain ⟨v2, vs2, d2, ds2, p2, q2, rfl, rfl, rfl, h2, r2⟩ := trodAll_cons r1
  obtain ⟨rfl, rfl, rfl⟩ := trodAll_nil r2
  obtain rfl : args = #[v0, v1, v2] := by cases args; simp_all
  obtain ⟨rfl, rfl⟩ := trodVars_none hV
  have k0 := h0
  have lt0 : ∀ x ∈ p0, x.block < W.heap.size := by obtain ⟨m, hm⟩ := k0; exact DataW.trod_lt m _ _ _ hm
  obtain ⟨x0, A0, n0, c0, w0, rfl, l0, m0, g0, z00⟩ := open_phd (hval 0 29 v0 rfl rfl) h0
  have z0 := z00 _ _ 0 hsz rfl rfl
  have y0 : n0 ≤ 140737488351232 := Nat.le_trans m0 z0
  have k1 := h1
  have lt1 : ∀ x ∈ p1, x.block < W.heap.size := by obtain ⟨m, hm⟩ := k1; exact DataW.trod_lt m _ _ _ hm
  obtain ⟨x1, A1, n1, c1, w1, rfl, l1, m1, g1, z01⟩ := open_phd (hval 1 29 v1 rfl rfl) h1
  have z1 := z01 _ _ 1 hsz rfl rfl
  have y1 : n1 ≤ 140737488351232 := Nat.le_trans m1 z1
  obtain ⟨a2, rfl, rfl, rfl, w2⟩ := open_int Try.underlying3 (hval 2 3 v2 rfl rfl) h2
  have b2 := wf_i64 a2 w2
  clear hA0 hval0
  refine (walk_packetSame W x0 w0 A0 n0 c0 l0 m0 z0 g0 x1 w1 A1 n1 c1 l1 m1 z1 g1 a2 b2.1 b2.2).mono fun e W' ⟨he, bel⟩ => ?_
  subst he
  exact ⟨_, rfl, _, _, _, [], _, [], hW', trodAll_mk1 (shut_bool Try.underlying4 _), (trodAll_cons_mk (Below.trod laidOut (by kernel_rfl) (of_decide_eq_true (by kernel_rfl)) k0 bel lt0) (trodAll_cons_mk (Below.trod laidOut (by kernel_rfl) (of_decide_eq_true (by kernel_rfl)) k1 bel lt1) (trodAll_cons_mk (shut_int Try.underlying3 w2) trodAll_mk0))), rfl, bel.frame _, fun h => by cases h⟩

theorem over : Rows.packetSameRow.holds Try.pinned (OpenSpec.ofChange Rows.packetSameSpec) :=
  OpenClaim.holds_of_wide 3 Try.f3 rfl rfl rfl rfl rfl rfl rfl ⟨rfl, rfl, rfl, rfl, rfl⟩ rfl rfl rfl rfl rfl (by kernel_rfl) Try.func3 (by kernel_rfl)
    (of_decide_eq_true (by kernel_rfl)) (by unfold Func.isWrapper; first | (rw [if_pos (by decide +kernel)]; kernel_rfl) | (rw [if_neg (by decide +kernel)]; exact ⟨rfl, rfl⟩))
    (fun os started H enc _ => lifted os started H enc)

theorem proved : Rows.PacketSameSaid := over
#print axioms proved
end Go.Proofs.Ytidengmcbppcoaa.packetSame
