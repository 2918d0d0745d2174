/-
  What stands while an operation is done. The five operations on words, walked one by one. An operation, whichever.
-/
import Derived.Test.YtgenblefbddilaaMzW
import Derived.Test.YtgenblefbddilaaMzOnA
import Derived.Deep.Cut
namespace Go.Proofs.Ytgenblefbddilaa.mz
open Go.RowKit Go.Proofs.Ytgenblefbddilaa.oc
structure OpSt (B g p R X : Nat) (F FW : Nat → Prop) (w0 : World) (k : Nat) (w : World) (t : Th) (ws : List (List Nat)) : Prop where
  ti : TInv w B g t F
  wi : WInv w B p ws FW
  keep : Keeps (fun b => F b ∨ FW b) w0 w
  rb : Blk w R 84 [.int .u8 0, .int .i64 0]
  xb : w.cell? ⟨X, 0, none⟩ = some (.int .i64 (k : Int))
  rf : ¬ F R ∧ ¬ FW R
  xf : ¬ F X ∧ ¬ FW X
  hd : ∀ b, F b → ¬ FW b
section
variable {B g p R X k : Nat} {F FW : Nat → Prop} {w0 w : World} {t : Th} {ws : List (List Nat)}
theorem OpSt.step {w' : World} {t' : Th} {ws' : List (List Nat)} {S : Nat → Prop} (h : OpSt B g p R X F FW w0 k w t ws) (kk : Keeps S w w') (hS : ∀ b, S b → F b ∨ FW b) (ti : TInv w' B g t' F) (wi : WInv w' B p ws' FW) : OpSt B g p R X F FW w0 k w' t' ws' :=
  ⟨ti, wi, h.keep.trans (kk.mono fun b _ hb => hS b hb), Blk.keeps h.rb kk (fun e => (hS _ e).elim h.rf.1 h.rf.2), cell_keeps kk h.xb (fun e => (hS _ e).elim h.xf.1 h.xf.2), h.rf, h.xf, h.hd⟩
theorem OpSt.drew (h : OpSt B g p R X F FW w0 k w t ws) : OpSt B g p R X F FW w0 k w.drew t ws :=
  h.step (S := fun _ => False) ((Keeps.refl _ w).drew) (fun _ z => z.elim) (h.ti.keeps ((Keeps.refl (fun _ => False) w).drew) (fun _ _ z => z) (fun _ _ z => z)) (h.wi.keeps ((Keeps.refl (fun _ => False) w).drew) (fun _ _ z => z))
theorem OpSt.put (h : OpSt B g p R X F FW w0 k w t ws) {a v : Nat} (ha : a < 24) (hv : v < 18446744073709551616) : OpSt B g p R X F FW w0 k (w.setCell ⟨g, 3 + a, none⟩ (.int .u64 (v : Int))) { t with rs := t.rs.set a v } ws := by
  have kg : Keeps (· = g) w (w.setCell ⟨g, 3 + a, none⟩ (.int .u64 (v : Int))) := (Keeps.refl (· = g) w).setCell (p := ⟨g, 3 + a, none⟩) (.inl rfl) _
  exact h.step kg (fun b e => by subst e; exact .inl h.ti.me) (h.ti.own kg (fun cv u hT => hT.put ha hv) rfl rfl ⟨by simp [h.ti.wf.rs], h.ti.wf.ans, h.ti.wf.calls, h.ti.wf.codes⟩) (h.wi.keeps kg (fun b hb e => by subst e; exact h.hd _ h.ti.me hb))
theorem OpSt.goto (h : OpSt B g p R X F FW w0 k w t ws) : OpSt B g p R X F FW w0 k (w.setCell ⟨g, 2, none⟩ (.int .i64 ((t.at_ : Int) + 1))) { t with at_ := t.at_ + 1 } ws := by
  have kg : Keeps (· = g) w (w.setCell ⟨g, 2, none⟩ (.int .i64 ((t.at_ : Int) + 1))) := (Keeps.refl (· = g) w).setCell (p := ⟨g, 2, none⟩) (.inl rfl) _
  exact h.step kg (fun b e => by subst e; exact .inl h.ti.me) (h.ti.own kg (fun cv u hT => hT.goto (t.at_ + 1)) rfl rfl ⟨h.ti.wf.rs, h.ti.wf.ans, h.ti.wf.calls, h.ti.wf.codes⟩) (h.wi.keeps kg (fun b hb e => by subst e; exact h.hd _ h.ti.me hb))
theorem OpSt.word (h : OpSt B g p R X F FW w0 k w t ws) {q j v : Nat} {ws' : List (List Nat)} (hq : FW q) (hw : WInv (w.setCell ⟨q, j, none⟩ (.int .u64 (v : Int))) B p ws' FW) : OpSt B g p R X F FW w0 k (w.setCell ⟨q, j, none⟩ (.int .u64 (v : Int))) t ws' := by
  have kq : Keeps (· = q) w (w.setCell ⟨q, j, none⟩ (.int .u64 (v : Int))) := (Keeps.refl (· = q) w).setCell (p := ⟨q, j, none⟩) (.inl rfl) _
  exact h.step kq (fun b e => by subst e; exact .inr hq) (h.ti.keeps kq (fun b hb e => by subst e; exact h.hd _ hb hq) (fun b hb e => by subst e; have := (h.wi.above _ hq).1; omega)) hw
end
/-- what an operation leaves -/
def OpPost (B g p : Nat) (F FW : Nat → Prop) (w : World) (t' : Th) (ws' : List (List Nat)) (k pl : Nat) (e : Ending) (w' : World) : Prop :=
  e = .returned (.agg #[.int .u8 (k : Int), .int .i64 (pl : Int)]) ∧ TInv w' B g t' (Grown w w' F) ∧ WInv w' B p ws' FW ∧ Keeps (fun b => F b ∨ FW b) w w'
theorem op_done {B g p R X k : Nat} {F FW : Nat → Prop} {w0 w8 w9 w10 : World} {t t' : Th} {ws : List (List Nat)} (h : OpSt B g p R X F FW w0 k w8 t ws) (hB : B ≤ w0.heap.size) (hT : TInv w9 B g t' (Grown w8 w9 F)) (hK : Keeps F w8 w9) (hF : ∀ b, F b → B ≤ b ∧ b < w0.heap.size) (hR : w0.heap.size ≤ R)
    (k10 : Keeps (· = R) w9 w10) : TInv w10 B g t' (Grown w0 w10 F) ∧ WInv w10 B p ws FW ∧ Keeps (fun b => F b ∨ FW b) w0 w10 := by
  have hs1 := h.keep.size
  have hs2 := hK.size
  have hs3 := k10.size
  have hRl := h.rb.lt
  refine ⟨?_, ?_, ?_⟩
  · have h1 := hT.keeps (S := fun b => b = R) k10 (fun b hb e => by
      subst e
      rcases hb with hb | hb
      · exact h.rf.1 hb
      · omega) (fun b hb e => by omega)
    refine h1.wider (fun b hb => ?_) (fun b hb => ?_)
    · rcases hb with hb | hb
      · exact .inl hb
      · exact .inr ⟨by omega, by omega⟩
    · rcases hb with hb | hb
      · exact ⟨(hF b hb).1, by have := (hF b hb).2; omega⟩
      · exact ⟨by omega, hb.2⟩
  · exact (h.wi.keeps hK (fun b hb z => h.hd b z hb)).keeps k10 (fun b hb e => by subst e; exact h.rf.2 hb)
  · refine ⟨by omega, fun b hb hs => ?_, (h.keep.same.trans hK.same).trans k10.same⟩
    rw [k10.block b (by omega) (by omega), hK.block b (by omega) (fun z => hs (.inl z)), h.keep.block b hb hs]
set_option maxHeartbeats 400000 in
theorem kind_is (k : Int) (w : World) (h : k = 1 ∨ k = 2 ∨ k = 3 ∨ k = 4 ∨ k = 5) : Calls Try.prog 50 #[.int .i64 k] w fun e w' => e = .returned (.int .u8 k) ∧ w = w' := by
  rcases h with rfl | rfl | rfl | rfl | rfl
  all_goals
    go_enter Try.func50, Try.ntmps50
    go_wp2
    go_ret
    exact ⟨rfl, rfl⟩
end Go.Proofs.Ytgenblefbddilaa.mz
namespace Go.Proofs.Ytgenblefbddilaa.mz
open Go.RowKit Go.Proofs.Ytgenblefbddilaa.oc
set_option maxRecDepth 100000 in
set_option maxHeartbeats 4000000 in
theorem op1 (n B g p : Nat) (w : World) (t t' : Th) (ws : List (List Nat)) (F FW : Nat → Prop) (h : TInv w B g t F) (hW : WInv w B p ws FW) (hd : ∀ b, F b → ¬ FW b) (hB : B ≤ w.heap.size) (hc : t.call < t.calls.length) (x : Ins) (hx : t.ins = x) (hop : x.op = 1) (hfit : x.fit = true)
    (hon : x.on < ws.length) (hpl : t.place < (ws.getD x.on []).length) (hl2 : (ws.getD x.on []).length < 1000000) (ho : Th.on n { t with at_ := t.at_ + 1, rs := t.rs.set x.a (wordAt ws x.on t.place) } = some t') :
    Calls Try.prog 37 #[.pointer (some ⟨g, 0, none⟩), .pointer (some ⟨p, 0, none⟩)] w (OpPost B g p F FW w t' (ws) 1 t.place) := by
  have fa := Ins.fit_a hfit
  have fb := Ins.fit_b hfit
  have fc := Ins.fit_c hfit
  have fd := Ins.fit_d hfit
  have hat := at_small h.wf (by rw [hx, hop]; decide)
  obtain ⟨w1, hw1, k1, b1⟩ := enter_blk w #[.int .u8 0, .int .i64 0] 84
  have t1 : TInv w1 B g t F := h.keeps (k1 (fun _ => False)) (fun _ _ z => z) (fun _ _ z => z)
  have HW1 := Lib.hid hw1
  have HT1 := Lib.hid t1
  have HT := Lib.hid h
  have HWI := Lib.hid hW
  have HK1 := Lib.hid k1
  have HB1 := Lib.hid b1
  have HX := Lib.hid hx
  have HC := Lib.hid hc
  have HO := Lib.hid ho
  have HD := Lib.hid hd
  have HOP := Lib.hid hop
  have HBB := Lib.hid hB
  clear hw1 t1 h hW k1 b1 hx hc ho hd hfit hop hB
  go_enter Try.func37, Try.ntmps37
  go_wp2_with fail
  rw [← HW1.out]
  refine (next_is B g _ _ _ HT1.out HC.out x HX.out).mono ?_
  rintro e w2 ⟨rfl, hk2⟩
  have HK2 := Lib.hid hk2
  clear hk2
  go_wp2
  rw [show ((x.op : Nat) : Int) = 1 from by rw [HOP.out]; rfl]
  obtain ⟨w3, hw3, k3, c3⟩ := enter_box w2 #[.int .i64 (1 : Int), .int .i64 (x.on : Int), .int .i64 (x.a : Int), .int .i64 (x.b : Int), .int .i64 (x.c : Int), .int .i64 (x.d : Int), .int .u64 (x.n : Int)] 114
  have hw3' := hw3
  rw [← hw3]
  have kall : ∀ S, Keeps S w w3 := fun S => ((HK1.out S).trans (HK2.out S)).trans (k3 S)
  have t3 : TInv w3 B g t F := HT.out.keeps (kall (fun _ => False)) (fun _ _ z => z) (fun _ _ z => z)
  have i3 : WInv w3 B p ws FW := HWI.out.keeps (kall (fun _ => False)) (fun _ _ z => z)
  have hR : w.heap.size < w2.heap.size := Nat.lt_of_lt_of_le HB1.out.lt (HK2.out (fun _ => False)).size
  have s3 : OpSt B g p w.heap.size w2.heap.size F FW w 1 w3 t ws :=
    ⟨t3, i3, kall _, Blk.keeps (Blk.keeps HB1.out (HK2.out (fun _ => False)) (fun z => z)) (k3 (fun _ => False)) (fun z => z), c3 0, ⟨fun z => by have := (HT.out.above _ z).2; omega, fun z => by have := (HWI.out.above _ z).2; omega⟩,
      ⟨fun z => by have := (HT.out.above _ z).2; omega, fun z => by have := (HWI.out.above _ z).2; omega⟩, HD.out⟩
  have HS := Lib.hid s3
  obtain ⟨wa, capw, q, capq, lv, bp, ca, cq, fq, hFq, hww⟩ := i3.word hon hpl
  obtain ⟨cv, v, tvs, a1, a2, a3⟩ := t3.at_
  have hs : ∀ y ∈ t.rs, y < 18446744073709551616 := a1.small
  have hwl : wordAt ws x.on t.place < 18446744073709551616 := word_lt i3.small x.on t.place
  have e0 : w3.cell? ⟨w2.heap.size, 0, none⟩ = some (.int .i64 1) := c3 0
  have e1 : w3.cell? ⟨w2.heap.size, 1, none⟩ = some (.int .i64 (x.on : Int)) := c3 1
  have e2 : w3.cell? ⟨w2.heap.size, 2, none⟩ = some (.int .i64 (x.a : Int)) := c3 2
  have e3 : w3.cell? ⟨w2.heap.size, 3, none⟩ = some (.int .i64 (x.b : Int)) := c3 3
  have e4 : w3.cell? ⟨w2.heap.size, 4, none⟩ = some (.int .i64 (x.c : Int)) := c3 4
  have e5 : w3.cell? ⟨w2.heap.size, 5, none⟩ = some (.int .i64 (x.d : Int)) := c3 5
  have e6 : w3.cell? ⟨w2.heap.size, 6, none⟩ = some (.int .u64 (x.n : Int)) := c3 6
  have hra : w3.cell? ⟨g, 3 + x.a, none⟩ = some (.int .u64 (reg t.rs x.a : Int)) := a1.reg fa
  have hrb : w3.cell? ⟨g, 3 + x.b, none⟩ = some (.int .u64 (reg t.rs x.b : Int)) := a1.reg fb
  have f3 := a1.frozen (3 + x.a)
  have q2 : w3.cell? ⟨g, 2, none⟩ = some (.int .i64 (t.at_ : Int)) := a1.at_
  have f2 := a1.frozen 2
  have p0 : w3.cell? ⟨p, 0, none⟩ = some (.slice (some ⟨wa, 0, none⟩) ws.length capw) := by rw [bp.cell]; rfl
  have hqg : q ≠ g := fun e => HD.out g t3.me (by rw [← e]; exact hFq)
  have hqX : q ≠ w2.heap.size := fun e => s3.xf.2 (by rw [← e]; exact hFq)
  have hgX : g ≠ w2.heap.size := fun e => s3.xf.1 (by rw [← e]; exact t3.me)
  have hgl : g < w3.heap.size := (t3.above g t3.me).2
  have hql : q < w3.heap.size := (i3.above q hFq).2
  have hsum : IntKind.u64.wrap ((reg t.rs x.b : Int) + (x.n : Int)) = ((t.place : Nat) : Int) := by unfold Th.place; rw [HX.out]; exact wrap_add _ _
  have hpl2 : (t.place : Int) < (((ws.getD x.on []).length : Nat) : Int) := by omega
  have hpl3 : (0 : Int) ≤ (t.place : Int) := by omega
  have hon2 : (x.on : Int) < ((ws.length : Nat) : Int) := by omega
  have HWW := Lib.hid hww
  have HHS := Lib.hid hs
  generalize hpv : t.place = pl at *
  generalize hlv : (ws.getD x.on []).length = ll at *
  generalize hwv : wordAt ws x.on pl = wd at *
  clear hw3 hw3' k3 c3 t3 i3 s3 hww a1 a2 a3 hs bp kall
  go_wp2_with fail
  go_region
  go_wp2_with fail
  go_region
  go_wp2_with fail
  go_region
  go_wp2_with fail
  have hs := HHS.out
  have S2 := HS.out.put fa hwl
  have S3 := S2.goto.drew.drew.drew
  have hB8 : B ≤ w.heap.size := HBB.out
  refine (on_all n B g _ _ _ t' F S3.ti (Nat.le_trans hB8 S3.keep.size) HO.out).mono ?_
  rintro e w9 hon9
  have HON := Lib.hid hon9
  have HS3 := Lib.hid S3
  have HF := Lib.hid HT.out.above
  have HPV := Lib.hid hpv
  have hR0 : w.heap.size ≤ w.heap.size := Nat.le_refl _
  have r9 := Blk.keeps S3.rb hon9.2.2 S3.rf.1
  have x9 : w9.cell? ⟨w2.heap.size, 0, none⟩ = some (.int .i64 1) := cell_keeps hon9.2.2 S3.xb S3.xf.1
  have r90 : w9.cell? ⟨w.heap.size, 0, none⟩ = some (.int .u8 0) := by rw [r9.cell]; rfl
  have r91 : w9.cell? ⟨w.heap.size, 1, none⟩ = some (.int .i64 0) := by rw [r9.cell]; rfl
  have g90 := r9.frozen 0
  have g91 := r9.frozen 1
  obtain ⟨rfl, _⟩ := hon9
  clear S2 S3 HO HT HWI HK1 HB1 HK2 HC HWW HHS hs e0 e1 e2 e3 e4 e5 e6 q2 f2 p0 ca cq fq f3 HS hsum hra hrb hpv hlv r9
  go_wp2_with fail
  refine (kind_is 1 _ (by omega)).mono ?_
  rintro e w10 ⟨rfl, rfl⟩
  go_wp2
  refine bodyPost_ret (v := .agg #[.int .u8 1, .int .i64 (pl : Int)]) (by simp [results, Try.results37, go_sem, r90, r91]) rfl ?_
  have k10 : Keeps (· = w.heap.size) w9 ((w9.setCell ⟨w.heap.size, 0, none⟩ (.int .u8 1)).setCell ⟨w.heap.size, 1, none⟩ (.int .i64 (pl : Int))) := ((Keeps.refl (· = w.heap.size) w9).setCell (p := ⟨w.heap.size, 0, none⟩) (.inl rfl) _).setCell (p := ⟨w.heap.size, 1, none⟩) (.inl rfl) _
  have hfin := op_done HS3.out HBB.out HON.out.2.1 HON.out.2.2 HF.out (Nat.le_refl _) k10
  exact ⟨rfl, hfin.1, hfin.2.1, hfin.2.2⟩
set_option maxRecDepth 100000 in
set_option maxHeartbeats 4000000 in
theorem op2 (n B g p : Nat) (w : World) (t t' : Th) (ws : List (List Nat)) (F FW : Nat → Prop) (h : TInv w B g t F) (hW : WInv w B p ws FW) (hd : ∀ b, F b → ¬ FW b) (hB : B ≤ w.heap.size) (hc : t.call < t.calls.length) (x : Ins) (hx : t.ins = x) (hop : x.op = 2) (hfit : x.fit = true)
    (hon : x.on < ws.length) (hpl : t.place < (ws.getD x.on []).length) (hl2 : (ws.getD x.on []).length < 1000000) (ho : Th.on n { t with at_ := t.at_ + 1, rs := t.rs } = some t') :
    Calls Try.prog 37 #[.pointer (some ⟨g, 0, none⟩), .pointer (some ⟨p, 0, none⟩)] w (OpPost B g p F FW w t' (setWord ws x.on t.place (reg t.rs x.a)) 2 t.place) := by
  have fa := Ins.fit_a hfit
  have fb := Ins.fit_b hfit
  have fc := Ins.fit_c hfit
  have fd := Ins.fit_d hfit
  have hat := at_small h.wf (by rw [hx, hop]; decide)
  obtain ⟨w1, hw1, k1, b1⟩ := enter_blk w #[.int .u8 0, .int .i64 0] 84
  have t1 : TInv w1 B g t F := h.keeps (k1 (fun _ => False)) (fun _ _ z => z) (fun _ _ z => z)
  have HW1 := Lib.hid hw1
  have HT1 := Lib.hid t1
  have HT := Lib.hid h
  have HWI := Lib.hid hW
  have HK1 := Lib.hid k1
  have HB1 := Lib.hid b1
  have HX := Lib.hid hx
  have HC := Lib.hid hc
  have HO := Lib.hid ho
  have HD := Lib.hid hd
  have HOP := Lib.hid hop
  have HBB := Lib.hid hB
  clear hw1 t1 h hW k1 b1 hx hc ho hd hfit hop hB
  go_enter Try.func37, Try.ntmps37
  go_wp2_with fail
  rw [← HW1.out]
  refine (next_is B g _ _ _ HT1.out HC.out x HX.out).mono ?_
  rintro e w2 ⟨rfl, hk2⟩
  have HK2 := Lib.hid hk2
  clear hk2
  go_wp2
  rw [show ((x.op : Nat) : Int) = 2 from by rw [HOP.out]; rfl]
  obtain ⟨w3, hw3, k3, c3⟩ := enter_box w2 #[.int .i64 (2 : Int), .int .i64 (x.on : Int), .int .i64 (x.a : Int), .int .i64 (x.b : Int), .int .i64 (x.c : Int), .int .i64 (x.d : Int), .int .u64 (x.n : Int)] 114
  have hw3' := hw3
  rw [← hw3]
  have kall : ∀ S, Keeps S w w3 := fun S => ((HK1.out S).trans (HK2.out S)).trans (k3 S)
  have t3 : TInv w3 B g t F := HT.out.keeps (kall (fun _ => False)) (fun _ _ z => z) (fun _ _ z => z)
  have i3 : WInv w3 B p ws FW := HWI.out.keeps (kall (fun _ => False)) (fun _ _ z => z)
  have hR : w.heap.size < w2.heap.size := Nat.lt_of_lt_of_le HB1.out.lt (HK2.out (fun _ => False)).size
  have s3 : OpSt B g p w.heap.size w2.heap.size F FW w 2 w3 t ws :=
    ⟨t3, i3, kall _, Blk.keeps (Blk.keeps HB1.out (HK2.out (fun _ => False)) (fun z => z)) (k3 (fun _ => False)) (fun z => z), c3 0, ⟨fun z => by have := (HT.out.above _ z).2; omega, fun z => by have := (HWI.out.above _ z).2; omega⟩,
      ⟨fun z => by have := (HT.out.above _ z).2; omega, fun z => by have := (HWI.out.above _ z).2; omega⟩, HD.out⟩
  have HS := Lib.hid s3
  obtain ⟨wa, capw, q, capq, lv, bp, ca, cq, fq, hFq, hww⟩ := i3.word hon hpl
  obtain ⟨cv, v, tvs, a1, a2, a3⟩ := t3.at_
  have hs : ∀ y ∈ t.rs, y < 18446744073709551616 := a1.small
  have hwl : wordAt ws x.on t.place < 18446744073709551616 := word_lt i3.small x.on t.place
  have e0 : w3.cell? ⟨w2.heap.size, 0, none⟩ = some (.int .i64 2) := c3 0
  have e1 : w3.cell? ⟨w2.heap.size, 1, none⟩ = some (.int .i64 (x.on : Int)) := c3 1
  have e2 : w3.cell? ⟨w2.heap.size, 2, none⟩ = some (.int .i64 (x.a : Int)) := c3 2
  have e3 : w3.cell? ⟨w2.heap.size, 3, none⟩ = some (.int .i64 (x.b : Int)) := c3 3
  have e4 : w3.cell? ⟨w2.heap.size, 4, none⟩ = some (.int .i64 (x.c : Int)) := c3 4
  have e5 : w3.cell? ⟨w2.heap.size, 5, none⟩ = some (.int .i64 (x.d : Int)) := c3 5
  have e6 : w3.cell? ⟨w2.heap.size, 6, none⟩ = some (.int .u64 (x.n : Int)) := c3 6
  have hra : w3.cell? ⟨g, 3 + x.a, none⟩ = some (.int .u64 (reg t.rs x.a : Int)) := a1.reg fa
  have hrb : w3.cell? ⟨g, 3 + x.b, none⟩ = some (.int .u64 (reg t.rs x.b : Int)) := a1.reg fb
  have f3 := a1.frozen (3 + x.a)
  have q2 : w3.cell? ⟨g, 2, none⟩ = some (.int .i64 (t.at_ : Int)) := a1.at_
  have f2 := a1.frozen 2
  have p0 : w3.cell? ⟨p, 0, none⟩ = some (.slice (some ⟨wa, 0, none⟩) ws.length capw) := by rw [bp.cell]; rfl
  have hqg : q ≠ g := fun e => HD.out g t3.me (by rw [← e]; exact hFq)
  have hqX : q ≠ w2.heap.size := fun e => s3.xf.2 (by rw [← e]; exact hFq)
  have hgX : g ≠ w2.heap.size := fun e => s3.xf.1 (by rw [← e]; exact t3.me)
  have hgl : g < w3.heap.size := (t3.above g t3.me).2
  have hql : q < w3.heap.size := (i3.above q hFq).2
  have hsum : IntKind.u64.wrap ((reg t.rs x.b : Int) + (x.n : Int)) = ((t.place : Nat) : Int) := by unfold Th.place; rw [HX.out]; exact wrap_add _ _
  have hpl2 : (t.place : Int) < (((ws.getD x.on []).length : Nat) : Int) := by omega
  have hpl3 : (0 : Int) ≤ (t.place : Int) := by omega
  have hon2 : (x.on : Int) < ((ws.length : Nat) : Int) := by omega
  have HWW := Lib.hid hww
  have HHS := Lib.hid hs
  generalize hpv : t.place = pl at *
  generalize hlv : (ws.getD x.on []).length = ll at *
  generalize hwv : wordAt ws x.on pl = wd at *
  clear hw3 hw3' k3 c3 t3 i3 s3 hww a1 a2 a3 hs bp kall
  go_wp2_with fail
  go_region
  go_wp2_with fail
  go_region
  go_wp2_with fail
  go_region
  go_wp2_with fail
  have hs := HHS.out
  have S2 := HS.out.word hFq (HWW.out _ (reg_lt hs x.a))
  have S3 := S2.goto.drew.drew.drew
  have hB8 : B ≤ w.heap.size := HBB.out
  refine (on_all n B g _ _ _ t' F S3.ti (Nat.le_trans hB8 S3.keep.size) HO.out).mono ?_
  rintro e w9 hon9
  have HON := Lib.hid hon9
  have HS3 := Lib.hid S3
  have HF := Lib.hid HT.out.above
  have HPV := Lib.hid hpv
  have hR0 : w.heap.size ≤ w.heap.size := Nat.le_refl _
  have r9 := Blk.keeps S3.rb hon9.2.2 S3.rf.1
  have x9 : w9.cell? ⟨w2.heap.size, 0, none⟩ = some (.int .i64 2) := cell_keeps hon9.2.2 S3.xb S3.xf.1
  have r90 : w9.cell? ⟨w.heap.size, 0, none⟩ = some (.int .u8 0) := by rw [r9.cell]; rfl
  have r91 : w9.cell? ⟨w.heap.size, 1, none⟩ = some (.int .i64 0) := by rw [r9.cell]; rfl
  have g90 := r9.frozen 0
  have g91 := r9.frozen 1
  obtain ⟨rfl, _⟩ := hon9
  clear S2 S3 HO HT HWI HK1 HB1 HK2 HC HWW HHS hs e0 e1 e2 e3 e4 e5 e6 q2 f2 p0 ca cq fq f3 HS hsum hra hrb hpv hlv r9
  go_wp2_with fail
  refine (kind_is 2 _ (by omega)).mono ?_
  rintro e w10 ⟨rfl, rfl⟩
  go_wp2
  refine bodyPost_ret (v := .agg #[.int .u8 2, .int .i64 (pl : Int)]) (by simp [results, Try.results37, go_sem, r90, r91]) rfl ?_
  have k10 : Keeps (· = w.heap.size) w9 ((w9.setCell ⟨w.heap.size, 0, none⟩ (.int .u8 2)).setCell ⟨w.heap.size, 1, none⟩ (.int .i64 (pl : Int))) := ((Keeps.refl (· = w.heap.size) w9).setCell (p := ⟨w.heap.size, 0, none⟩) (.inl rfl) _).setCell (p := ⟨w.heap.size, 1, none⟩) (.inl rfl) _
  have hfin := op_done HS3.out HBB.out HON.out.2.1 HON.out.2.2 HF.out (Nat.le_refl _) k10
  exact ⟨rfl, hfin.1, hfin.2.1, hfin.2.2⟩
set_option maxRecDepth 100000 in
set_option maxHeartbeats 4000000 in
theorem op3 (n B g p : Nat) (w : World) (t t' : Th) (ws : List (List Nat)) (F FW : Nat → Prop) (h : TInv w B g t F) (hW : WInv w B p ws FW) (hd : ∀ b, F b → ¬ FW b) (hB : B ≤ w.heap.size) (hc : t.call < t.calls.length) (x : Ins) (hx : t.ins = x) (hop : x.op = 3) (hfit : x.fit = true)
    (hon : x.on < ws.length) (hpl : t.place < (ws.getD x.on []).length) (hl2 : (ws.getD x.on []).length < 1000000) (ho : Th.on n { t with at_ := t.at_ + 1, rs := t.rs.set x.a ((wordAt ws x.on t.place + reg t.rs x.c) % W64) } = some t') :
    Calls Try.prog 37 #[.pointer (some ⟨g, 0, none⟩), .pointer (some ⟨p, 0, none⟩)] w (OpPost B g p F FW w t' (setWord ws x.on t.place ((wordAt ws x.on t.place + reg t.rs x.c) % W64)) 3 t.place) := by
  have fa := Ins.fit_a hfit
  have fb := Ins.fit_b hfit
  have fc := Ins.fit_c hfit
  have fd := Ins.fit_d hfit
  have hat := at_small h.wf (by rw [hx, hop]; decide)
  obtain ⟨w1, hw1, k1, b1⟩ := enter_blk w #[.int .u8 0, .int .i64 0] 84
  have t1 : TInv w1 B g t F := h.keeps (k1 (fun _ => False)) (fun _ _ z => z) (fun _ _ z => z)
  have HW1 := Lib.hid hw1
  have HT1 := Lib.hid t1
  have HT := Lib.hid h
  have HWI := Lib.hid hW
  have HK1 := Lib.hid k1
  have HB1 := Lib.hid b1
  have HX := Lib.hid hx
  have HC := Lib.hid hc
  have HO := Lib.hid ho
  have HD := Lib.hid hd
  have HOP := Lib.hid hop
  have HBB := Lib.hid hB
  clear hw1 t1 h hW k1 b1 hx hc ho hd hfit hop hB
  go_enter Try.func37, Try.ntmps37
  go_wp2_with fail
  rw [← HW1.out]
  refine (next_is B g _ _ _ HT1.out HC.out x HX.out).mono ?_
  rintro e w2 ⟨rfl, hk2⟩
  have HK2 := Lib.hid hk2
  clear hk2
  go_wp2
  rw [show ((x.op : Nat) : Int) = 3 from by rw [HOP.out]; rfl]
  obtain ⟨w3, hw3, k3, c3⟩ := enter_box w2 #[.int .i64 (3 : Int), .int .i64 (x.on : Int), .int .i64 (x.a : Int), .int .i64 (x.b : Int), .int .i64 (x.c : Int), .int .i64 (x.d : Int), .int .u64 (x.n : Int)] 114
  have hw3' := hw3
  rw [← hw3]
  have kall : ∀ S, Keeps S w w3 := fun S => ((HK1.out S).trans (HK2.out S)).trans (k3 S)
  have t3 : TInv w3 B g t F := HT.out.keeps (kall (fun _ => False)) (fun _ _ z => z) (fun _ _ z => z)
  have i3 : WInv w3 B p ws FW := HWI.out.keeps (kall (fun _ => False)) (fun _ _ z => z)
  have hR : w.heap.size < w2.heap.size := Nat.lt_of_lt_of_le HB1.out.lt (HK2.out (fun _ => False)).size
  have s3 : OpSt B g p w.heap.size w2.heap.size F FW w 3 w3 t ws :=
    ⟨t3, i3, kall _, Blk.keeps (Blk.keeps HB1.out (HK2.out (fun _ => False)) (fun z => z)) (k3 (fun _ => False)) (fun z => z), c3 0, ⟨fun z => by have := (HT.out.above _ z).2; omega, fun z => by have := (HWI.out.above _ z).2; omega⟩,
      ⟨fun z => by have := (HT.out.above _ z).2; omega, fun z => by have := (HWI.out.above _ z).2; omega⟩, HD.out⟩
  have HS := Lib.hid s3
  obtain ⟨wa, capw, q, capq, lv, bp, ca, cq, fq, hFq, hww⟩ := i3.word hon hpl
  obtain ⟨cv, v, tvs, a1, a2, a3⟩ := t3.at_
  have hs : ∀ y ∈ t.rs, y < 18446744073709551616 := a1.small
  have hwl : wordAt ws x.on t.place < 18446744073709551616 := word_lt i3.small x.on t.place
  have e0 : w3.cell? ⟨w2.heap.size, 0, none⟩ = some (.int .i64 3) := c3 0
  have e1 : w3.cell? ⟨w2.heap.size, 1, none⟩ = some (.int .i64 (x.on : Int)) := c3 1
  have e2 : w3.cell? ⟨w2.heap.size, 2, none⟩ = some (.int .i64 (x.a : Int)) := c3 2
  have e3 : w3.cell? ⟨w2.heap.size, 3, none⟩ = some (.int .i64 (x.b : Int)) := c3 3
  have e4 : w3.cell? ⟨w2.heap.size, 4, none⟩ = some (.int .i64 (x.c : Int)) := c3 4
  have e5 : w3.cell? ⟨w2.heap.size, 5, none⟩ = some (.int .i64 (x.d : Int)) := c3 5
  have e6 : w3.cell? ⟨w2.heap.size, 6, none⟩ = some (.int .u64 (x.n : Int)) := c3 6
  have hra : w3.cell? ⟨g, 3 + x.a, none⟩ = some (.int .u64 (reg t.rs x.a : Int)) := a1.reg fa
  have hrb : w3.cell? ⟨g, 3 + x.b, none⟩ = some (.int .u64 (reg t.rs x.b : Int)) := a1.reg fb
  have hrc : w3.cell? ⟨g, 3 + x.c, none⟩ = some (.int .u64 (reg t.rs x.c : Int)) := a1.reg fc
  have f3 := a1.frozen (3 + x.a)
  have q2 : w3.cell? ⟨g, 2, none⟩ = some (.int .i64 (t.at_ : Int)) := a1.at_
  have f2 := a1.frozen 2
  have p0 : w3.cell? ⟨p, 0, none⟩ = some (.slice (some ⟨wa, 0, none⟩) ws.length capw) := by rw [bp.cell]; rfl
  have hqg : q ≠ g := fun e => HD.out g t3.me (by rw [← e]; exact hFq)
  have hqX : q ≠ w2.heap.size := fun e => s3.xf.2 (by rw [← e]; exact hFq)
  have hgX : g ≠ w2.heap.size := fun e => s3.xf.1 (by rw [← e]; exact t3.me)
  have hgl : g < w3.heap.size := (t3.above g t3.me).2
  have hql : q < w3.heap.size := (i3.above q hFq).2
  have hsum : IntKind.u64.wrap ((reg t.rs x.b : Int) + (x.n : Int)) = ((t.place : Nat) : Int) := by unfold Th.place; rw [HX.out]; exact wrap_add _ _
  have hpl2 : (t.place : Int) < (((ws.getD x.on []).length : Nat) : Int) := by omega
  have hpl3 : (0 : Int) ≤ (t.place : Int) := by omega
  have hon2 : (x.on : Int) < ((ws.length : Nat) : Int) := by omega
  have HWW := Lib.hid hww
  have HHS := Lib.hid hs
  generalize hpv : t.place = pl at *
  generalize hlv : (ws.getD x.on []).length = ll at *
  generalize hwv : wordAt ws x.on pl = wd at *
  clear hw3 hw3' k3 c3 t3 i3 s3 hww a1 a2 a3 hs bp kall
  go_wp2_with fail
  go_region
  go_wp2_with fail
  go_region
  go_wp2_with fail
  go_region
  go_wp2_with fail
  go_region
  go_wp2_with fail
  have hs := HHS.out
  have S2 := (HS.out.word hFq (HWW.out _ (mod_lt64 (wd + reg t.rs x.c)))).put fa (mod_lt64 (wd + reg t.rs x.c))
  rw [wrap_add]
  have S3 := S2.goto.drew.drew.drew.drew
  have hB8 : B ≤ w.heap.size := HBB.out
  refine (on_all n B g _ _ _ t' F S3.ti (Nat.le_trans hB8 S3.keep.size) HO.out).mono ?_
  rintro e w9 hon9
  have HON := Lib.hid hon9
  have HS3 := Lib.hid S3
  have HF := Lib.hid HT.out.above
  have HPV := Lib.hid hpv
  have hR0 : w.heap.size ≤ w.heap.size := Nat.le_refl _
  have r9 := Blk.keeps S3.rb hon9.2.2 S3.rf.1
  have x9 : w9.cell? ⟨w2.heap.size, 0, none⟩ = some (.int .i64 3) := cell_keeps hon9.2.2 S3.xb S3.xf.1
  have r90 : w9.cell? ⟨w.heap.size, 0, none⟩ = some (.int .u8 0) := by rw [r9.cell]; rfl
  have r91 : w9.cell? ⟨w.heap.size, 1, none⟩ = some (.int .i64 0) := by rw [r9.cell]; rfl
  have g90 := r9.frozen 0
  have g91 := r9.frozen 1
  obtain ⟨rfl, _⟩ := hon9
  clear S2 S3 HO HT HWI HK1 HB1 HK2 HC HWW HHS hs e0 e1 e2 e3 e4 e5 e6 q2 f2 p0 ca cq fq f3 HS hsum hra hrb hrc hpv hlv r9
  go_wp2_with fail
  refine (kind_is 3 _ (by omega)).mono ?_
  rintro e w10 ⟨rfl, rfl⟩
  go_wp2
  refine bodyPost_ret (v := .agg #[.int .u8 3, .int .i64 (pl : Int)]) (by simp [results, Try.results37, go_sem, r90, r91]) rfl ?_
  have k10 : Keeps (· = w.heap.size) w9 ((w9.setCell ⟨w.heap.size, 0, none⟩ (.int .u8 3)).setCell ⟨w.heap.size, 1, none⟩ (.int .i64 (pl : Int))) := ((Keeps.refl (· = w.heap.size) w9).setCell (p := ⟨w.heap.size, 0, none⟩) (.inl rfl) _).setCell (p := ⟨w.heap.size, 1, none⟩) (.inl rfl) _
  have hfin := op_done HS3.out HBB.out HON.out.2.1 HON.out.2.2 HF.out (Nat.le_refl _) k10
  exact ⟨rfl, hfin.1, hfin.2.1, hfin.2.2⟩
set_option maxRecDepth 100000 in
set_option maxHeartbeats 4000000 in
theorem op4 (n B g p : Nat) (w : World) (t t' : Th) (ws : List (List Nat)) (F FW : Nat → Prop) (h : TInv w B g t F) (hW : WInv w B p ws FW) (hd : ∀ b, F b → ¬ FW b) (hB : B ≤ w.heap.size) (hc : t.call < t.calls.length) (x : Ins) (hx : t.ins = x) (hop : x.op = 4) (hfit : x.fit = true)
    (hon : x.on < ws.length) (hpl : t.place < (ws.getD x.on []).length) (hl2 : (ws.getD x.on []).length < 1000000) (ho : Th.on n { t with at_ := t.at_ + 1, rs := t.rs.set x.a (wordAt ws x.on t.place) } = some t') :
    Calls Try.prog 37 #[.pointer (some ⟨g, 0, none⟩), .pointer (some ⟨p, 0, none⟩)] w (OpPost B g p F FW w t' (setWord ws x.on t.place (reg t.rs x.c)) 4 t.place) := by
  have fa := Ins.fit_a hfit
  have fb := Ins.fit_b hfit
  have fc := Ins.fit_c hfit
  have fd := Ins.fit_d hfit
  have hat := at_small h.wf (by rw [hx, hop]; decide)
  obtain ⟨w1, hw1, k1, b1⟩ := enter_blk w #[.int .u8 0, .int .i64 0] 84
  have t1 : TInv w1 B g t F := h.keeps (k1 (fun _ => False)) (fun _ _ z => z) (fun _ _ z => z)
  have HW1 := Lib.hid hw1
  have HT1 := Lib.hid t1
  have HT := Lib.hid h
  have HWI := Lib.hid hW
  have HK1 := Lib.hid k1
  have HB1 := Lib.hid b1
  have HX := Lib.hid hx
  have HC := Lib.hid hc
  have HO := Lib.hid ho
  have HD := Lib.hid hd
  have HOP := Lib.hid hop
  have HBB := Lib.hid hB
  clear hw1 t1 h hW k1 b1 hx hc ho hd hfit hop hB
  go_enter Try.func37, Try.ntmps37
  go_wp2_with fail
  rw [← HW1.out]
  refine (next_is B g _ _ _ HT1.out HC.out x HX.out).mono ?_
  rintro e w2 ⟨rfl, hk2⟩
  have HK2 := Lib.hid hk2
  clear hk2
  go_wp2
  rw [show ((x.op : Nat) : Int) = 4 from by rw [HOP.out]; rfl]
  obtain ⟨w3, hw3, k3, c3⟩ := enter_box w2 #[.int .i64 (4 : Int), .int .i64 (x.on : Int), .int .i64 (x.a : Int), .int .i64 (x.b : Int), .int .i64 (x.c : Int), .int .i64 (x.d : Int), .int .u64 (x.n : Int)] 114
  have hw3' := hw3
  rw [← hw3]
  have kall : ∀ S, Keeps S w w3 := fun S => ((HK1.out S).trans (HK2.out S)).trans (k3 S)
  have t3 : TInv w3 B g t F := HT.out.keeps (kall (fun _ => False)) (fun _ _ z => z) (fun _ _ z => z)
  have i3 : WInv w3 B p ws FW := HWI.out.keeps (kall (fun _ => False)) (fun _ _ z => z)
  have hR : w.heap.size < w2.heap.size := Nat.lt_of_lt_of_le HB1.out.lt (HK2.out (fun _ => False)).size
  have s3 : OpSt B g p w.heap.size w2.heap.size F FW w 4 w3 t ws :=
    ⟨t3, i3, kall _, Blk.keeps (Blk.keeps HB1.out (HK2.out (fun _ => False)) (fun z => z)) (k3 (fun _ => False)) (fun z => z), c3 0, ⟨fun z => by have := (HT.out.above _ z).2; omega, fun z => by have := (HWI.out.above _ z).2; omega⟩,
      ⟨fun z => by have := (HT.out.above _ z).2; omega, fun z => by have := (HWI.out.above _ z).2; omega⟩, HD.out⟩
  have HS := Lib.hid s3
  obtain ⟨wa, capw, q, capq, lv, bp, ca, cq, fq, hFq, hww⟩ := i3.word hon hpl
  obtain ⟨cv, v, tvs, a1, a2, a3⟩ := t3.at_
  have hs : ∀ y ∈ t.rs, y < 18446744073709551616 := a1.small
  have hwl : wordAt ws x.on t.place < 18446744073709551616 := word_lt i3.small x.on t.place
  have e0 : w3.cell? ⟨w2.heap.size, 0, none⟩ = some (.int .i64 4) := c3 0
  have e1 : w3.cell? ⟨w2.heap.size, 1, none⟩ = some (.int .i64 (x.on : Int)) := c3 1
  have e2 : w3.cell? ⟨w2.heap.size, 2, none⟩ = some (.int .i64 (x.a : Int)) := c3 2
  have e3 : w3.cell? ⟨w2.heap.size, 3, none⟩ = some (.int .i64 (x.b : Int)) := c3 3
  have e4 : w3.cell? ⟨w2.heap.size, 4, none⟩ = some (.int .i64 (x.c : Int)) := c3 4
  have e5 : w3.cell? ⟨w2.heap.size, 5, none⟩ = some (.int .i64 (x.d : Int)) := c3 5
  have e6 : w3.cell? ⟨w2.heap.size, 6, none⟩ = some (.int .u64 (x.n : Int)) := c3 6
  have hra : w3.cell? ⟨g, 3 + x.a, none⟩ = some (.int .u64 (reg t.rs x.a : Int)) := a1.reg fa
  have hrb : w3.cell? ⟨g, 3 + x.b, none⟩ = some (.int .u64 (reg t.rs x.b : Int)) := a1.reg fb
  have hrc : w3.cell? ⟨g, 3 + x.c, none⟩ = some (.int .u64 (reg t.rs x.c : Int)) := a1.reg fc
  have f3 := a1.frozen (3 + x.a)
  have q2 : w3.cell? ⟨g, 2, none⟩ = some (.int .i64 (t.at_ : Int)) := a1.at_
  have f2 := a1.frozen 2
  have p0 : w3.cell? ⟨p, 0, none⟩ = some (.slice (some ⟨wa, 0, none⟩) ws.length capw) := by rw [bp.cell]; rfl
  have hqg : q ≠ g := fun e => HD.out g t3.me (by rw [← e]; exact hFq)
  have hqX : q ≠ w2.heap.size := fun e => s3.xf.2 (by rw [← e]; exact hFq)
  have hgX : g ≠ w2.heap.size := fun e => s3.xf.1 (by rw [← e]; exact t3.me)
  have hgl : g < w3.heap.size := (t3.above g t3.me).2
  have hql : q < w3.heap.size := (i3.above q hFq).2
  have hsum : IntKind.u64.wrap ((reg t.rs x.b : Int) + (x.n : Int)) = ((t.place : Nat) : Int) := by unfold Th.place; rw [HX.out]; exact wrap_add _ _
  have hpl2 : (t.place : Int) < (((ws.getD x.on []).length : Nat) : Int) := by omega
  have hpl3 : (0 : Int) ≤ (t.place : Int) := by omega
  have hon2 : (x.on : Int) < ((ws.length : Nat) : Int) := by omega
  have HWW := Lib.hid hww
  have HHS := Lib.hid hs
  generalize hpv : t.place = pl at *
  generalize hlv : (ws.getD x.on []).length = ll at *
  generalize hwv : wordAt ws x.on pl = wd at *
  clear hw3 hw3' k3 c3 t3 i3 s3 hww a1 a2 a3 hs bp kall
  go_wp2_with fail
  go_region
  go_wp2_with fail
  go_region
  go_wp2_with fail
  go_region
  go_wp2_with fail
  go_region
  go_wp2_with fail
  have hs := HHS.out
  have S2 := (HS.out.word hFq (HWW.out _ (reg_lt hs x.c))).put fa hwl
  have S3 := S2.goto.drew.drew.drew.drew
  have hB8 : B ≤ w.heap.size := HBB.out
  refine (on_all n B g _ _ _ t' F S3.ti (Nat.le_trans hB8 S3.keep.size) HO.out).mono ?_
  rintro e w9 hon9
  have HON := Lib.hid hon9
  have HS3 := Lib.hid S3
  have HF := Lib.hid HT.out.above
  have HPV := Lib.hid hpv
  have hR0 : w.heap.size ≤ w.heap.size := Nat.le_refl _
  have r9 := Blk.keeps S3.rb hon9.2.2 S3.rf.1
  have x9 : w9.cell? ⟨w2.heap.size, 0, none⟩ = some (.int .i64 4) := cell_keeps hon9.2.2 S3.xb S3.xf.1
  have r90 : w9.cell? ⟨w.heap.size, 0, none⟩ = some (.int .u8 0) := by rw [r9.cell]; rfl
  have r91 : w9.cell? ⟨w.heap.size, 1, none⟩ = some (.int .i64 0) := by rw [r9.cell]; rfl
  have g90 := r9.frozen 0
  have g91 := r9.frozen 1
  obtain ⟨rfl, _⟩ := hon9
  clear S2 S3 HO HT HWI HK1 HB1 HK2 HC HWW HHS hs e0 e1 e2 e3 e4 e5 e6 q2 f2 p0 ca cq fq f3 HS hsum hra hrb hrc hpv hlv r9
  go_wp2_with fail
  refine (kind_is 4 _ (by omega)).mono ?_
  rintro e w10 ⟨rfl, rfl⟩
  go_wp2
  refine bodyPost_ret (v := .agg #[.int .u8 4, .int .i64 (pl : Int)]) (by simp [results, Try.results37, go_sem, r90, r91]) rfl ?_
  have k10 : Keeps (· = w.heap.size) w9 ((w9.setCell ⟨w.heap.size, 0, none⟩ (.int .u8 4)).setCell ⟨w.heap.size, 1, none⟩ (.int .i64 (pl : Int))) := ((Keeps.refl (· = w.heap.size) w9).setCell (p := ⟨w.heap.size, 0, none⟩) (.inl rfl) _).setCell (p := ⟨w.heap.size, 1, none⟩) (.inl rfl) _
  have hfin := op_done HS3.out HBB.out HON.out.2.1 HON.out.2.2 HF.out (Nat.le_refl _) k10
  exact ⟨rfl, hfin.1, hfin.2.1, hfin.2.2⟩
set_option maxRecDepth 100000 in
set_option maxHeartbeats 4000000 in
theorem op5y (n B g p : Nat) (w : World) (t t' : Th) (ws : List (List Nat)) (F FW : Nat → Prop) (h : TInv w B g t F) (hW : WInv w B p ws FW) (hd : ∀ b, F b → ¬ FW b) (hB : B ≤ w.heap.size) (hc : t.call < t.calls.length) (x : Ins) (hx : t.ins = x) (hop : x.op = 5) (hfit : x.fit = true)
    (hon : x.on < ws.length) (hpl : t.place < (ws.getD x.on []).length) (hl2 : (ws.getD x.on []).length < 1000000) (hcas : wordAt ws x.on t.place = reg t.rs x.c) (ho : Th.on n { t with at_ := t.at_ + 1, rs := t.rs.set x.a 1 } = some t') :
    Calls Try.prog 37 #[.pointer (some ⟨g, 0, none⟩), .pointer (some ⟨p, 0, none⟩)] w (OpPost B g p F FW w t' (setWord ws x.on t.place (reg t.rs x.d)) 5 t.place) := by
  have fa := Ins.fit_a hfit
  have fb := Ins.fit_b hfit
  have fc := Ins.fit_c hfit
  have fd := Ins.fit_d hfit
  have hat := at_small h.wf (by rw [hx, hop]; decide)
  obtain ⟨w1, hw1, k1, b1⟩ := enter_blk w #[.int .u8 0, .int .i64 0] 84
  have t1 : TInv w1 B g t F := h.keeps (k1 (fun _ => False)) (fun _ _ z => z) (fun _ _ z => z)
  have HW1 := Lib.hid hw1
  have HT1 := Lib.hid t1
  have HT := Lib.hid h
  have HWI := Lib.hid hW
  have HK1 := Lib.hid k1
  have HB1 := Lib.hid b1
  have HX := Lib.hid hx
  have HC := Lib.hid hc
  have HO := Lib.hid ho
  have HD := Lib.hid hd
  have HOP := Lib.hid hop
  have HBB := Lib.hid hB
  clear hw1 t1 h hW k1 b1 hx hc ho hd hfit hop hB
  have HCAS := Lib.hid hcas
  clear hcas
  go_enter Try.func37, Try.ntmps37
  go_wp2_with fail
  rw [← HW1.out]
  refine (next_is B g _ _ _ HT1.out HC.out x HX.out).mono ?_
  rintro e w2 ⟨rfl, hk2⟩
  have HK2 := Lib.hid hk2
  clear hk2
  go_wp2
  rw [show ((x.op : Nat) : Int) = 5 from by rw [HOP.out]; rfl]
  obtain ⟨w3, hw3, k3, c3⟩ := enter_box w2 #[.int .i64 (5 : Int), .int .i64 (x.on : Int), .int .i64 (x.a : Int), .int .i64 (x.b : Int), .int .i64 (x.c : Int), .int .i64 (x.d : Int), .int .u64 (x.n : Int)] 114
  have hw3' := hw3
  rw [← hw3]
  have kall : ∀ S, Keeps S w w3 := fun S => ((HK1.out S).trans (HK2.out S)).trans (k3 S)
  have t3 : TInv w3 B g t F := HT.out.keeps (kall (fun _ => False)) (fun _ _ z => z) (fun _ _ z => z)
  have i3 : WInv w3 B p ws FW := HWI.out.keeps (kall (fun _ => False)) (fun _ _ z => z)
  have hR : w.heap.size < w2.heap.size := Nat.lt_of_lt_of_le HB1.out.lt (HK2.out (fun _ => False)).size
  have s3 : OpSt B g p w.heap.size w2.heap.size F FW w 5 w3 t ws :=
    ⟨t3, i3, kall _, Blk.keeps (Blk.keeps HB1.out (HK2.out (fun _ => False)) (fun z => z)) (k3 (fun _ => False)) (fun z => z), c3 0, ⟨fun z => by have := (HT.out.above _ z).2; omega, fun z => by have := (HWI.out.above _ z).2; omega⟩,
      ⟨fun z => by have := (HT.out.above _ z).2; omega, fun z => by have := (HWI.out.above _ z).2; omega⟩, HD.out⟩
  have HS := Lib.hid s3
  obtain ⟨wa, capw, q, capq, lv, bp, ca, cq, fq, hFq, hww⟩ := i3.word hon hpl
  obtain ⟨cv, v, tvs, a1, a2, a3⟩ := t3.at_
  have hs : ∀ y ∈ t.rs, y < 18446744073709551616 := a1.small
  have hwl : wordAt ws x.on t.place < 18446744073709551616 := word_lt i3.small x.on t.place
  have e0 : w3.cell? ⟨w2.heap.size, 0, none⟩ = some (.int .i64 5) := c3 0
  have e1 : w3.cell? ⟨w2.heap.size, 1, none⟩ = some (.int .i64 (x.on : Int)) := c3 1
  have e2 : w3.cell? ⟨w2.heap.size, 2, none⟩ = some (.int .i64 (x.a : Int)) := c3 2
  have e3 : w3.cell? ⟨w2.heap.size, 3, none⟩ = some (.int .i64 (x.b : Int)) := c3 3
  have e4 : w3.cell? ⟨w2.heap.size, 4, none⟩ = some (.int .i64 (x.c : Int)) := c3 4
  have e5 : w3.cell? ⟨w2.heap.size, 5, none⟩ = some (.int .i64 (x.d : Int)) := c3 5
  have e6 : w3.cell? ⟨w2.heap.size, 6, none⟩ = some (.int .u64 (x.n : Int)) := c3 6
  have hra : w3.cell? ⟨g, 3 + x.a, none⟩ = some (.int .u64 (reg t.rs x.a : Int)) := a1.reg fa
  have hrb : w3.cell? ⟨g, 3 + x.b, none⟩ = some (.int .u64 (reg t.rs x.b : Int)) := a1.reg fb
  have hrc : w3.cell? ⟨g, 3 + x.c, none⟩ = some (.int .u64 (reg t.rs x.c : Int)) := a1.reg fc
  have hrd : w3.cell? ⟨g, 3 + x.d, none⟩ = some (.int .u64 (reg t.rs x.d : Int)) := a1.reg fd
  have f3 := a1.frozen (3 + x.a)
  have q2 : w3.cell? ⟨g, 2, none⟩ = some (.int .i64 (t.at_ : Int)) := a1.at_
  have f2 := a1.frozen 2
  have p0 : w3.cell? ⟨p, 0, none⟩ = some (.slice (some ⟨wa, 0, none⟩) ws.length capw) := by rw [bp.cell]; rfl
  have hqg : q ≠ g := fun e => HD.out g t3.me (by rw [← e]; exact hFq)
  have hqX : q ≠ w2.heap.size := fun e => s3.xf.2 (by rw [← e]; exact hFq)
  have hgX : g ≠ w2.heap.size := fun e => s3.xf.1 (by rw [← e]; exact t3.me)
  have hgl : g < w3.heap.size := (t3.above g t3.me).2
  have hql : q < w3.heap.size := (i3.above q hFq).2
  have hsum : IntKind.u64.wrap ((reg t.rs x.b : Int) + (x.n : Int)) = ((t.place : Nat) : Int) := by unfold Th.place; rw [HX.out]; exact wrap_add _ _
  have hpl2 : (t.place : Int) < (((ws.getD x.on []).length : Nat) : Int) := by omega
  have hpl3 : (0 : Int) ≤ (t.place : Int) := by omega
  have hon2 : (x.on : Int) < ((ws.length : Nat) : Int) := by omega
  have HWW := Lib.hid hww
  have HHS := Lib.hid hs
  have hcb : (((wordAt ws x.on t.place : Nat) : Int) == ((reg t.rs x.c : Nat) : Int)) = true := by rw [HCAS.out]; exact beq_self_eq_true _
  generalize hpv : t.place = pl at *
  generalize hlv : (ws.getD x.on []).length = ll at *
  generalize hwv : wordAt ws x.on pl = wd at *
  clear hw3 hw3' k3 c3 t3 i3 s3 hww a1 a2 a3 hs bp kall
  go_wp2_with fail
  go_region
  go_wp2_with fail
  go_region
  go_wp2_with fail
  go_region
  go_wp2_with fail
  go_region
  go_wp2_with fail
  go_region
  go_wp2_with fail
  have hs := HHS.out
  have S2 := (HS.out.word hFq (HWW.out _ (reg_lt hs x.d))).put (v := 1) fa (by omega)
  have S3 := S2.goto.drew.drew.drew.drew.drew
  have hB8 : B ≤ w.heap.size := HBB.out
  refine (on_all n B g _ _ _ t' F S3.ti (Nat.le_trans hB8 S3.keep.size) HO.out).mono ?_
  rintro e w9 hon9
  have HON := Lib.hid hon9
  have HS3 := Lib.hid S3
  have HF := Lib.hid HT.out.above
  have HPV := Lib.hid hpv
  have hR0 : w.heap.size ≤ w.heap.size := Nat.le_refl _
  have r9 := Blk.keeps S3.rb hon9.2.2 S3.rf.1
  have x9 : w9.cell? ⟨w2.heap.size, 0, none⟩ = some (.int .i64 5) := cell_keeps hon9.2.2 S3.xb S3.xf.1
  have r90 : w9.cell? ⟨w.heap.size, 0, none⟩ = some (.int .u8 0) := by rw [r9.cell]; rfl
  have r91 : w9.cell? ⟨w.heap.size, 1, none⟩ = some (.int .i64 0) := by rw [r9.cell]; rfl
  have g90 := r9.frozen 0
  have g91 := r9.frozen 1
  obtain ⟨rfl, _⟩ := hon9
  clear S2 S3 HO HT HWI HK1 HB1 HK2 HC HWW HHS hs e0 e1 e2 e3 e4 e5 e6 q2 f2 p0 ca cq fq f3 HS hsum hra hrb hrc hrd hpv hlv r9
  go_wp2_with fail
  refine (kind_is 5 _ (by omega)).mono ?_
  rintro e w10 ⟨rfl, rfl⟩
  go_wp2
  refine bodyPost_ret (v := .agg #[.int .u8 5, .int .i64 (pl : Int)]) (by simp [results, Try.results37, go_sem, r90, r91]) rfl ?_
  have k10 : Keeps (· = w.heap.size) w9 ((w9.setCell ⟨w.heap.size, 0, none⟩ (.int .u8 5)).setCell ⟨w.heap.size, 1, none⟩ (.int .i64 (pl : Int))) := ((Keeps.refl (· = w.heap.size) w9).setCell (p := ⟨w.heap.size, 0, none⟩) (.inl rfl) _).setCell (p := ⟨w.heap.size, 1, none⟩) (.inl rfl) _
  have hfin := op_done HS3.out HBB.out HON.out.2.1 HON.out.2.2 HF.out (Nat.le_refl _) k10
  exact ⟨rfl, hfin.1, hfin.2.1, hfin.2.2⟩
set_option maxRecDepth 100000 in
set_option maxHeartbeats 4000000 in
theorem op5n (n B g p : Nat) (w : World) (t t' : Th) (ws : List (List Nat)) (F FW : Nat → Prop) (h : TInv w B g t F) (hW : WInv w B p ws FW) (hd : ∀ b, F b → ¬ FW b) (hB : B ≤ w.heap.size) (hc : t.call < t.calls.length) (x : Ins) (hx : t.ins = x) (hop : x.op = 5) (hfit : x.fit = true)
    (hon : x.on < ws.length) (hpl : t.place < (ws.getD x.on []).length) (hl2 : (ws.getD x.on []).length < 1000000) (hcas : ¬ wordAt ws x.on t.place = reg t.rs x.c) (ho : Th.on n { t with at_ := t.at_ + 1, rs := t.rs.set x.a 0 } = some t') :
    Calls Try.prog 37 #[.pointer (some ⟨g, 0, none⟩), .pointer (some ⟨p, 0, none⟩)] w (OpPost B g p F FW w t' (ws) 5 t.place) := by
  have fa := Ins.fit_a hfit
  have fb := Ins.fit_b hfit
  have fc := Ins.fit_c hfit
  have fd := Ins.fit_d hfit
  have hat := at_small h.wf (by rw [hx, hop]; decide)
  obtain ⟨w1, hw1, k1, b1⟩ := enter_blk w #[.int .u8 0, .int .i64 0] 84
  have t1 : TInv w1 B g t F := h.keeps (k1 (fun _ => False)) (fun _ _ z => z) (fun _ _ z => z)
  have HW1 := Lib.hid hw1
  have HT1 := Lib.hid t1
  have HT := Lib.hid h
  have HWI := Lib.hid hW
  have HK1 := Lib.hid k1
  have HB1 := Lib.hid b1
  have HX := Lib.hid hx
  have HC := Lib.hid hc
  have HO := Lib.hid ho
  have HD := Lib.hid hd
  have HOP := Lib.hid hop
  have HBB := Lib.hid hB
  clear hw1 t1 h hW k1 b1 hx hc ho hd hfit hop hB
  have HCAS := Lib.hid hcas
  clear hcas
  go_enter Try.func37, Try.ntmps37
  go_wp2_with fail
  rw [← HW1.out]
  refine (next_is B g _ _ _ HT1.out HC.out x HX.out).mono ?_
  rintro e w2 ⟨rfl, hk2⟩
  have HK2 := Lib.hid hk2
  clear hk2
  go_wp2
  rw [show ((x.op : Nat) : Int) = 5 from by rw [HOP.out]; rfl]
  obtain ⟨w3, hw3, k3, c3⟩ := enter_box w2 #[.int .i64 (5 : Int), .int .i64 (x.on : Int), .int .i64 (x.a : Int), .int .i64 (x.b : Int), .int .i64 (x.c : Int), .int .i64 (x.d : Int), .int .u64 (x.n : Int)] 114
  have hw3' := hw3
  rw [← hw3]
  have kall : ∀ S, Keeps S w w3 := fun S => ((HK1.out S).trans (HK2.out S)).trans (k3 S)
  have t3 : TInv w3 B g t F := HT.out.keeps (kall (fun _ => False)) (fun _ _ z => z) (fun _ _ z => z)
  have i3 : WInv w3 B p ws FW := HWI.out.keeps (kall (fun _ => False)) (fun _ _ z => z)
  have hR : w.heap.size < w2.heap.size := Nat.lt_of_lt_of_le HB1.out.lt (HK2.out (fun _ => False)).size
  have s3 : OpSt B g p w.heap.size w2.heap.size F FW w 5 w3 t ws :=
    ⟨t3, i3, kall _, Blk.keeps (Blk.keeps HB1.out (HK2.out (fun _ => False)) (fun z => z)) (k3 (fun _ => False)) (fun z => z), c3 0, ⟨fun z => by have := (HT.out.above _ z).2; omega, fun z => by have := (HWI.out.above _ z).2; omega⟩,
      ⟨fun z => by have := (HT.out.above _ z).2; omega, fun z => by have := (HWI.out.above _ z).2; omega⟩, HD.out⟩
  have HS := Lib.hid s3
  obtain ⟨wa, capw, q, capq, lv, bp, ca, cq, fq, hFq, hww⟩ := i3.word hon hpl
  obtain ⟨cv, v, tvs, a1, a2, a3⟩ := t3.at_
  have hs : ∀ y ∈ t.rs, y < 18446744073709551616 := a1.small
  have hwl : wordAt ws x.on t.place < 18446744073709551616 := word_lt i3.small x.on t.place
  have e0 : w3.cell? ⟨w2.heap.size, 0, none⟩ = some (.int .i64 5) := c3 0
  have e1 : w3.cell? ⟨w2.heap.size, 1, none⟩ = some (.int .i64 (x.on : Int)) := c3 1
  have e2 : w3.cell? ⟨w2.heap.size, 2, none⟩ = some (.int .i64 (x.a : Int)) := c3 2
  have e3 : w3.cell? ⟨w2.heap.size, 3, none⟩ = some (.int .i64 (x.b : Int)) := c3 3
  have e4 : w3.cell? ⟨w2.heap.size, 4, none⟩ = some (.int .i64 (x.c : Int)) := c3 4
  have e5 : w3.cell? ⟨w2.heap.size, 5, none⟩ = some (.int .i64 (x.d : Int)) := c3 5
  have e6 : w3.cell? ⟨w2.heap.size, 6, none⟩ = some (.int .u64 (x.n : Int)) := c3 6
  have hra : w3.cell? ⟨g, 3 + x.a, none⟩ = some (.int .u64 (reg t.rs x.a : Int)) := a1.reg fa
  have hrb : w3.cell? ⟨g, 3 + x.b, none⟩ = some (.int .u64 (reg t.rs x.b : Int)) := a1.reg fb
  have hrc : w3.cell? ⟨g, 3 + x.c, none⟩ = some (.int .u64 (reg t.rs x.c : Int)) := a1.reg fc
  have f3 := a1.frozen (3 + x.a)
  have q2 : w3.cell? ⟨g, 2, none⟩ = some (.int .i64 (t.at_ : Int)) := a1.at_
  have f2 := a1.frozen 2
  have p0 : w3.cell? ⟨p, 0, none⟩ = some (.slice (some ⟨wa, 0, none⟩) ws.length capw) := by rw [bp.cell]; rfl
  have hqg : q ≠ g := fun e => HD.out g t3.me (by rw [← e]; exact hFq)
  have hqX : q ≠ w2.heap.size := fun e => s3.xf.2 (by rw [← e]; exact hFq)
  have hgX : g ≠ w2.heap.size := fun e => s3.xf.1 (by rw [← e]; exact t3.me)
  have hgl : g < w3.heap.size := (t3.above g t3.me).2
  have hql : q < w3.heap.size := (i3.above q hFq).2
  have hsum : IntKind.u64.wrap ((reg t.rs x.b : Int) + (x.n : Int)) = ((t.place : Nat) : Int) := by unfold Th.place; rw [HX.out]; exact wrap_add _ _
  have hpl2 : (t.place : Int) < (((ws.getD x.on []).length : Nat) : Int) := by omega
  have hpl3 : (0 : Int) ≤ (t.place : Int) := by omega
  have hon2 : (x.on : Int) < ((ws.length : Nat) : Int) := by omega
  have HWW := Lib.hid hww
  have HHS := Lib.hid hs
  have hcb : (((wordAt ws x.on t.place : Nat) : Int) == ((reg t.rs x.c : Nat) : Int)) = false := by simpa using (fun e => HCAS.out (Int.ofNat.inj e))
  generalize hpv : t.place = pl at *
  generalize hlv : (ws.getD x.on []).length = ll at *
  generalize hwv : wordAt ws x.on pl = wd at *
  clear hw3 hw3' k3 c3 t3 i3 s3 hww a1 a2 a3 hs bp kall
  go_wp2_with fail
  go_region
  go_wp2_with fail
  go_region
  go_wp2_with fail
  go_region
  go_wp2_with fail
  go_region
  go_wp2_with fail
  have hs := HHS.out
  have S2 := HS.out.put (v := 0) fa (by omega)
  have S3 := S2.goto.drew.drew.drew.drew
  have hB8 : B ≤ w.heap.size := HBB.out
  refine (on_all n B g _ _ _ t' F S3.ti (Nat.le_trans hB8 S3.keep.size) HO.out).mono ?_
  rintro e w9 hon9
  have HON := Lib.hid hon9
  have HS3 := Lib.hid S3
  have HF := Lib.hid HT.out.above
  have HPV := Lib.hid hpv
  have hR0 : w.heap.size ≤ w.heap.size := Nat.le_refl _
  have r9 := Blk.keeps S3.rb hon9.2.2 S3.rf.1
  have x9 : w9.cell? ⟨w2.heap.size, 0, none⟩ = some (.int .i64 5) := cell_keeps hon9.2.2 S3.xb S3.xf.1
  have r90 : w9.cell? ⟨w.heap.size, 0, none⟩ = some (.int .u8 0) := by rw [r9.cell]; rfl
  have r91 : w9.cell? ⟨w.heap.size, 1, none⟩ = some (.int .i64 0) := by rw [r9.cell]; rfl
  have g90 := r9.frozen 0
  have g91 := r9.frozen 1
  obtain ⟨rfl, _⟩ := hon9
  clear S2 S3 HO HT HWI HK1 HB1 HK2 HC HWW HHS hs e0 e1 e2 e3 e4 e5 e6 q2 f2 p0 ca cq fq f3 HS hsum hra hrb hrc hpv hlv r9
  go_wp2_with fail
  refine (kind_is 5 _ (by omega)).mono ?_
  rintro e w10 ⟨rfl, rfl⟩
  go_wp2
  refine bodyPost_ret (v := .agg #[.int .u8 5, .int .i64 (pl : Int)]) (by simp [results, Try.results37, go_sem, r90, r91]) rfl ?_
  have k10 : Keeps (· = w.heap.size) w9 ((w9.setCell ⟨w.heap.size, 0, none⟩ (.int .u8 5)).setCell ⟨w.heap.size, 1, none⟩ (.int .i64 (pl : Int))) := ((Keeps.refl (· = w.heap.size) w9).setCell (p := ⟨w.heap.size, 0, none⟩) (.inl rfl) _).setCell (p := ⟨w.heap.size, 1, none⟩) (.inl rfl) _
  have hfin := op_done HS3.out HBB.out HON.out.2.1 HON.out.2.2 HF.out (Nat.le_refl _) k10
  exact ⟨rfl, hfin.1, hfin.2.1, hfin.2.2⟩
end Go.Proofs.Ytgenblefbddilaa.mz
namespace Go.Proofs.Ytgenblefbddilaa.mz
open Go.RowKit Go.Proofs.Ytgenblefbddilaa.oc
theorem op_all (n B g p : Nat) (w : World) (t t' : Th) (ws ws' : List (List Nat)) (k pl : Nat) (F FW : Nat → Prop) (h : TInv w B g t F) (hW : WInv w B p ws FW) (hd : ∀ b, F b → ¬ FW b) (hB : B ≤ w.heap.size) (hc : t.call < t.calls.length) (ho : t.op n ws = some (t', ws', (k, pl))) :
    Calls Try.prog 37 #[.pointer (some ⟨g, 0, none⟩), .pointer (some ⟨p, 0, none⟩)] w (OpPost B g p F FW w t' ws' k pl) := by
  unfold Th.op at ho
  cases hdo : t.does ws with
  | none => rw [hdo] at ho; cases ho
  | some r =>
    obtain ⟨t1, ws1⟩ := r
    rw [hdo] at ho
    simp only at ho
    cases hon : t1.on n with
    | none => rw [hon] at ho; cases ho
    | some t2 =>
      rw [hon] at ho
      simp only [Option.some.injEq, Prod.mk.injEq] at ho
      obtain ⟨rfl, rfl, e3, rfl⟩ := ho
      unfold Th.does at hdo
      simp only at hdo
      split at hdo
      case isFalse => cases hdo
      rename_i hcond
      simp only [Bool.and_eq_true, decide_eq_true_eq] at hcond
      obtain ⟨⟨⟨hfit, h1⟩, h2⟩, h3⟩ := hcond
      split at hdo
      · rename_i hop
        obtain ⟨rfl, rfl⟩ := (by simpa using hdo : _ ∧ _)
        rw [hop] at e3; subst e3
        exact op1 n B g p w t t2 ws F FW h hW hd hB hc t.ins rfl hop hfit h1 h2 h3 hon
      · rename_i hop
        obtain ⟨rfl, rfl⟩ := (by simpa using hdo : _ ∧ _)
        rw [hop] at e3; subst e3
        exact op2 n B g p w t t2 ws F FW h hW hd hB hc t.ins rfl hop hfit h1 h2 h3 hon
      · rename_i hop
        obtain ⟨rfl, rfl⟩ := (by simpa using hdo : _ ∧ _)
        rw [hop] at e3; subst e3
        exact op3 n B g p w t t2 ws F FW h hW hd hB hc t.ins rfl hop hfit h1 h2 h3 hon
      · rename_i hop
        obtain ⟨rfl, rfl⟩ := (by simpa using hdo : _ ∧ _)
        rw [hop] at e3; subst e3
        exact op4 n B g p w t t2 ws F FW h hW hd hB hc t.ins rfl hop hfit h1 h2 h3 hon
      · rename_i hop
        rw [hop] at e3; subst e3
        split at hdo
        · rename_i hcas
          obtain ⟨rfl, rfl⟩ := (by simpa using hdo : _ ∧ _)
          exact op5y n B g p w t t2 ws F FW h hW hd hB hc t.ins rfl hop hfit h1 h2 h3 hcas hon
        · rename_i hcas
          obtain ⟨rfl, rfl⟩ := (by simpa using hdo : _ ∧ _)
          exact op5n n B g p w t t2 ws F FW h hW hd hB hc t.ins rfl hop hfit h1 h2 h3 hcas hon
      · cases hdo
end Go.Proofs.Ytgenblefbddilaa.mz
