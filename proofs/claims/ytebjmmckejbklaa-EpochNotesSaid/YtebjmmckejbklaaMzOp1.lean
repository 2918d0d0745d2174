/-
  What stands while an operation is done.
-/
import Derived.Test.YtebjmmckejbklaaMzW
import Derived.Test.YtebjmmckejbklaaMzOn
namespace Go.Proofs.Ytebjmmckejbklaa.mz
open Go.RowKit Go.Proofs.Ytebjmmckejbklaa.oc
structure OpSt (B g p R X : Nat) (F FW : Nat → Prop) (w0 : World) (k : Nat) (w : World) (t : Th) (ws : List (List Nat)) : Prop where
  ti : TInv w B g t F
  wi : WInv w B p ws FW
  keep : Keeps (fun b => F b ∨ FW b) w0 w
  rb : Blk w R 87 [.int .u8 0, .int .i64 0]
  xb : w.cell? ⟨X, 0, none⟩ = some (.int .i64 (k : Int))
  rf : ¬ F R ∧ ¬ FW R
  xf : ¬ F X ∧ ¬ FW X
  hd : ∀ b, F b → ¬ FW b
section
variable {B g p R X k : Nat} {F FW : Nat → Prop} {w0 w : World} {t : Th} {ws : List (List Nat)}
theorem OpSt.step {w' : World} {t' : Th} {ws' : List (List Nat)} {S : Nat → Prop} (h : OpSt B g p R X F FW w0 k w t ws) (kk : Keeps S w w') (hS : ∀ b, S b → F b ∨ FW b) (ti : TInv w' B g t' F) (wi : WInv w' B p ws' FW) : OpSt B g p R X F FW w0 k w' t' ws' :=
  ⟨ti, wi, h.keep.trans (kk.mono fun b _ hb => hS b hb), Blk.keeps h.rb kk (fun e => (hS _ e).elim h.rf.1 h.rf.2), cell_keeps kk h.xb (fun e => (hS _ e).elim h.xf.1 h.xf.2), h.rf, h.xf, h.hd⟩
theorem OpSt.drew (h : OpSt B g p R X F FW w0 k w t ws) : OpSt B g p R X F FW w0 k w.drew t ws :=
  h.step (S := fun _ => False) ((Keeps.refl _ w).drew) (fun _ z => z.elim) (h.ti.keeps ((Keeps.refl (fun _ => False) w).drew) (fun _ _ z => z) (fun _ _ z => z)) (h.wi.keeps ((Keeps.refl (fun _ => False) w).drew) (fun _ _ z => z))
theorem OpSt.put (h : OpSt B g p R X F FW w0 k w t ws) {a v : Nat} (ha : a < 24) (hv : v < 18446744073709551616) : OpSt B g p R X F FW w0 k (w.setCell ⟨g, 3 + a, none⟩ (.int .u64 (v : Int))) { t with rs := t.rs.set a v } ws := by
  have kg : Keeps (· = g) w (w.setCell ⟨g, 3 + a, none⟩ (.int .u64 (v : Int))) := (Keeps.refl (· = g) w).setCell (p := ⟨g, 3 + a, none⟩) (.inl rfl) _
  exact h.step kg (fun b e => by subst e; exact .inl h.ti.me) (h.ti.own kg (fun cv u hT => hT.put ha hv) rfl rfl ⟨by simp [h.ti.wf.rs], h.ti.wf.ans, h.ti.wf.calls, h.ti.wf.codes⟩) (h.wi.keeps kg (fun b hb e => by subst e; exact h.hd _ h.ti.me hb))
theorem OpSt.goto (h : OpSt B g p R X F FW w0 k w t ws) : OpSt B g p R X F FW w0 k (w.setCell ⟨g, 2, none⟩ (.int .i64 ((t.at_ : Int) + 1))) { t with at_ := t.at_ + 1 } ws := by
  have kg : Keeps (· = g) w (w.setCell ⟨g, 2, none⟩ (.int .i64 ((t.at_ : Int) + 1))) := (Keeps.refl (· = g) w).setCell (p := ⟨g, 2, none⟩) (.inl rfl) _
  exact h.step kg (fun b e => by subst e; exact .inl h.ti.me) (h.ti.own kg (fun cv u hT => hT.goto (t.at_ + 1)) rfl rfl ⟨h.ti.wf.rs, h.ti.wf.ans, h.ti.wf.calls, h.ti.wf.codes⟩) (h.wi.keeps kg (fun b hb e => by subst e; exact h.hd _ h.ti.me hb))
theorem OpSt.word (h : OpSt B g p R X F FW w0 k w t ws) {q j v : Nat} {ws' : List (List Nat)} (hq : FW q) (hw : WInv (w.setCell ⟨q, j, none⟩ (.int .u64 (v : Int))) B p ws' FW) : OpSt B g p R X F FW w0 k (w.setCell ⟨q, j, none⟩ (.int .u64 (v : Int))) t ws' := by
  have kq : Keeps (· = q) w (w.setCell ⟨q, j, none⟩ (.int .u64 (v : Int))) := (Keeps.refl (· = q) w).setCell (p := ⟨q, j, none⟩) (.inl rfl) _
  exact h.step kq (fun b e => by subst e; exact .inr hq) (h.ti.keeps kq (fun b hb e => by subst e; exact h.hd _ hb hq) (fun b hb e => by subst e; have := (h.wi.above _ hq).1; omega)) hw
end
/-- what an operation leaves -/
def OpPost (B g p : Nat) (F FW : Nat → Prop) (w : World) (t' : Th) (ws' : List (List Nat)) (k pl : Nat) (e : Ending) (w' : World) : Prop :=
  e = .returned (.agg #[.int .u8 (k : Int), .int .i64 (pl : Int)]) ∧ TInv w' B g t' (Grown w w' F) ∧ WInv w' B p ws' FW ∧ Keeps (fun b => F b ∨ FW b) w w'
theorem op_done {B g p R X k : Nat} {F FW : Nat → Prop} {w0 w8 w9 w10 : World} {t t' : Th} {ws : List (List Nat)} (h : OpSt B g p R X F FW w0 k w8 t ws) (hB : B ≤ w0.heap.size) (hT : TInv w9 B g t' (Grown w8 w9 F)) (hK : Keeps F w8 w9) (hF : ∀ b, F b → B ≤ b ∧ b < w0.heap.size) (hR : w0.heap.size ≤ R)
    (k10 : Keeps (· = R) w9 w10) : TInv w10 B g t' (Grown w0 w10 F) ∧ WInv w10 B p ws FW ∧ Keeps (fun b => F b ∨ FW b) w0 w10 := by
  have hs1 := h.keep.size
  have hs2 := hK.size
  have hs3 := k10.size
  have hRl := h.rb.lt
  refine ⟨?_, ?_, ?_⟩
  · have h1 := hT.keeps (S := fun b => b = R) k10 (fun b hb e => by
      subst e
      rcases hb with hb | hb
      · exact h.rf.1 hb
      · omega) (fun b hb e => by omega)
    refine h1.wider (fun b hb => ?_) (fun b hb => ?_)
    · rcases hb with hb | hb
      · exact .inl hb
      · exact .inr ⟨by omega, by omega⟩
    · rcases hb with hb | hb
      · exact ⟨(hF b hb).1, by have := (hF b hb).2; omega⟩
      · exact ⟨by omega, hb.2⟩
  · exact (h.wi.keeps hK (fun b hb z => h.hd b z hb)).keeps k10 (fun b hb e => by subst e; exact h.rf.2 hb)
  · refine ⟨by omega, fun b hb hs => ?_, (h.keep.same.trans hK.same).trans k10.same⟩
    rw [k10.block b (by omega) (by omega), hK.block b (by omega) (fun z => hs (.inl z)), h.keep.block b hb hs]
set_option maxHeartbeats 400000 in
theorem kind_is (k : Int) (w : World) (h : k = 1 ∨ k = 2 ∨ k = 3 ∨ k = 4 ∨ k = 5) : Calls Try.prog 54 #[.int .i64 k] w fun e w' => e = .returned (.int .u8 k) ∧ w = w' := by
  rcases h with rfl | rfl | rfl | rfl | rfl
  all_goals
    go_enter Try.func54, Try.ntmps54
    go_wp2
    go_ret
    exact ⟨rfl, rfl⟩
end Go.Proofs.Ytebjmmckejbklaa.mz
