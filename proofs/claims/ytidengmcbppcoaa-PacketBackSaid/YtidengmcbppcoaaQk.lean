/-
  Regions that draw their order, whose calls make memory of their own: one walk in the order of the text.
-/
import Derived.Test.YtidengmcbppcoaaWh
import Derived.Deep.QuietTactic
import Derived.BigQuiet
set_option linter.unusedVariables false
set_option linter.unusedSimpArgs false
namespace Go.Proofs.Ytidengmcbppcoaa.qk
open Go.RowKit Go.Proofs.Ytidengmcbppcoaa.oc Go.Proofs.Ytidengmcbppcoaa.mz
/-- all that was is as it was -/
def Old (w w' : World) : Prop := Keeps (fun _ => False) w w'
theorem Old.refl (w : World) : Old w w := Keeps.refl _ w
theorem Old.trans {a b c : World} (h : Old a b) (k : Old b c) : Old a c := Keeps.trans h k
theorem Old.all {a b : World} (h : Old a b) : ∀ S, Keeps S a b := fun S => Keeps.mono h (fun _ _ z => z.elim)
theorem Old.of {a b : World} (h : ∀ S, Keeps S a b) : Old a b := h _
theorem Old.drew {a b : World} (h : Old a b) : Old a b.drew := Keeps.drew h
theorem Old.blk {w w' : World} {g : Nat} {t : TypeId} {cs : List Value} (h : Old w w') (b : Blk w g t cs) : Blk w' g t cs := Blk.keeps b h (fun z => z)
/-- the walk in the order of the text, shut (an open one is reckoned out wherever a word is fitted to it) -/
@[irreducible] def WQ (P : Program) (ops : Array Oper) (C : World → Prop) (Q : Act → Prop) (l : List Oper) (a : Act) : Prop := wpQuiet P ops C Q l a
section
variable {P : Program} {ops : Array Oper} {C : World → Prop} {Q : Act → Prop} {rest : List Oper} {o : Oper} {a : Act}
theorem q_nil (h : Q a) : WQ P ops C Q [] a := by unfold WQ; exact h
theorem q_skip (hw : Region.wanted o (yielded ops a.tmps) = false) (h : WQ P ops C Q rest (a.put o.dst undef)) : WQ P ops C Q (o :: rest) a := by
  unfold WQ at h ⊢
  unfold wpQuiet
  rw [if_neg (by rw [hw]; simp)]
  exact h
theorem q_any (hw : Region.wanted o (yielded ops a.tmps) = true) (v : Value) (hr : ∀ w, C w → (execOp a.eval o).run P w = .ok (.value v) w) (h : WQ P ops C Q rest (a.put o.dst v)) : WQ P ops C Q (o :: rest) a := by
  unfold WQ at h ⊢
  unfold wpQuiet
  rw [if_pos hw]
  refine ⟨v, fun w hC => ?_, h⟩
  unfold Oper.quietAt
  rw [hr w hC]
  exact ⟨rfl, rfl⟩
theorem q_call {f : FuncId} {args : Array Value} {v : Value} (hw : Region.wanted o (yielded ops a.tmps) = true) (hc : ∀ w, C w → Calls P f args w fun e w' => e = .returned v ∧ C w') (hr : ∀ w, (execOp a.eval o).run P w = .ok (.enter f args) w)
    (h : WQ P ops C Q rest (a.put o.dst v)) : WQ P ops C Q (o :: rest) a := by
  unfold WQ at h ⊢
  unfold wpQuiet
  rw [if_pos hw]
  refine ⟨v, fun w hC => ?_, h⟩
  unfold Oper.quietAt
  rw [hr w]
  exact ⟨rfl, hc w hC⟩
theorem q_load (hw : Region.wanted o (yielded ops a.tmps) = true) (ty : TypeId) (x : Operand) (ho : o.op = .load ty x)
    (b off : Nat) (hx : a.eval x = .pointer (some ⟨b, off, none⟩)) (cs : List Value) (d : TypeDesc) (hc : ∀ w, C w → w.rangeAt b off cs)
    (hu : P.underlying ty = some d) (hd : d.isRow = true) (hi : (P.info? ty).map (·.size) = some cs.length)
    (h : WQ P ops C Q rest (a.put o.dst (.agg cs.toArray))) : WQ P ops C Q (o :: rest) a := by
  unfold WQ at h ⊢
  exact wh.quiet_load hw ty x ho b off hx cs d hc hu hd hi h
theorem q_region {id : Nat} {Q : Exit → Act → World → Prop} {a : Act} {w w0 : World} {l : List Oper} (hm : P.follows .mixedOrders = true) (hB : Region.lexB .any l.toArray = true) (hC : Old w0 w)
    (h : WQ P l.toArray (Old w0) (fun a' => ∀ w', Old w0 w' → Q .normal a' w') l a) : (Code.region id l.toArray true).wp P Q a w := by
  unfold WQ at h
  exact wp_region_quiet (C := Old w0) hm hB (Old.drew hC) (by simpa using h)
/-- the same of a region that goes in the order of the text; it may stop ahead of what writes -/
@[irreducible] def WX (P : Program) (ops : Array Oper) (C : World → Prop) (Q : Exit → Act → World → Prop) (l : List Oper) (a : Act) : Prop := ∀ w, C w → wpList P ops Q l a w
section
variable {Q : Exit → Act → World → Prop}
theorem x_nil (h : ∀ w, C w → Q .normal a w) : WX P ops C Q [] a := by unfold WX; exact h
theorem x_stop {l : List Oper} (h : ∀ w, C w → wpList P ops Q l a w) : WX P ops C Q l a := by unfold WX; exact h
theorem x_skip (hw : Region.wanted o (yielded ops a.tmps) = false) (h : WX P ops C Q rest (a.put o.dst undef)) : WX P ops C Q (o :: rest) a := by
  unfold WX at h ⊢
  intro w hC
  unfold wpList
  rw [if_neg (by rw [hw]; simp)]
  exact h w hC
theorem x_any (hw : Region.wanted o (yielded ops a.tmps) = true) (v : Value) (hr : ∀ w, C w → (execOp a.eval o).run P w = .ok (.value v) w) (h : WX P ops C Q rest (a.put o.dst v)) : WX P ops C Q (o :: rest) a := by
  unfold WX at h ⊢
  intro w hC
  unfold wpList
  rw [if_pos hw]
  left
  have hq : o.quiet P a C (fun a' => a' = a.put o.dst v) := ⟨v, fun w hC => by unfold Oper.quietAt; rw [hr w hC]; exact ⟨rfl, rfl⟩, rfl⟩
  exact Oper.wp_of_quiet hC (fun a' w' hC' e => by rw [e]; exact h w' hC') hq
theorem x_call {f : FuncId} {args : Array Value} {v : Value} (hw : Region.wanted o (yielded ops a.tmps) = true) (hc : ∀ w, C w → Calls P f args w fun e w' => e = .returned v ∧ C w') (hr : ∀ w, (execOp a.eval o).run P w = .ok (.enter f args) w)
    (h : WX P ops C Q rest (a.put o.dst v)) : WX P ops C Q (o :: rest) a := by
  unfold WX at h ⊢
  intro w hC
  unfold wpList
  rw [if_pos hw]
  left
  have hq : o.quiet P a C (fun a' => a' = a.put o.dst v) := ⟨v, fun w hC => by unfold Oper.quietAt; rw [hr w]; exact ⟨rfl, hc w hC⟩, rfl⟩
  exact Oper.wp_of_quiet hC (fun a' w' hC' e => by rw [e]; exact h w' hC') hq
theorem x_load (hw : Region.wanted o (yielded ops a.tmps) = true) (ty : TypeId) (x : Operand) (ho : o.op = .load ty x)
    (b off : Nat) (hx : a.eval x = .pointer (some ⟨b, off, none⟩)) (cs : List Value) (d : TypeDesc) (hc : ∀ w, C w → w.rangeAt b off cs)
    (hu : P.underlying ty = some d) (hd : d.isRow = true) (hi : (P.info? ty).map (·.size) = some cs.length)
    (h : WX P ops C Q rest (a.put o.dst (.agg cs.toArray))) : WX P ops C Q (o :: rest) a := by
  unfold WX at h ⊢
  intro w hC
  unfold wpList
  rw [if_pos hw]
  left
  exact wp_load_mid ty x ho b off hx cs d (hc w hC) hu hd hi (h w hC)
theorem x_list {l : List Oper} {w w0 : World} (hC : Old w0 w) (h : WX P ops (Old w0) Q l a) : wpList P ops Q l a w := by
  unfold WX at h
  exact h w hC
theorem x_region {id : Nat} {a : Act} {w w0 : World} {l : List Oper} (hC : Old w0 w) (h : WX P l.toArray (Old w0) Q l a) : (Code.region id l.toArray false).wp P Q a w := by
  unfold WX at h
  exact wp_region_lit (h w hC)
end
theorem old_call {f : FuncId} {args : Array Value} {v : Value} {w0 w : World} (hC : Old w0 w) (h : Calls P f args w fun e w' => e = .returned v ∧ ∀ S, Keeps S w w') : Calls P f args w fun e w' => e = .returned v ∧ Old w0 w' :=
  h.mono fun _ _ ⟨he, k⟩ => ⟨he, hC.trans (k _)⟩
theorem old_call_d {f : FuncId} {args : Array Value} {v : Value} {w0 w : World} (hC : Old w0 w) (h : Calls P f args w fun e w' => e = .returned v ∧ ∃ d, w' = w.drewN d) : Calls P f args w fun e w' => e = .returned v ∧ Old w0 w' :=
  h.mono fun _ _ ⟨he, d, k⟩ => ⟨he, hC.trans (by rw [k]; exact Keeps.of_drew w d)⟩
theorem old_call_s {f : FuncId} {args : Array Value} {v : Value} {w0 w : World} (hC : Old w0 w) (h : Calls P f args w fun e w' => e = .returned v ∧ w = w') : Calls P f args w fun e w' => e = .returned v ∧ Old w0 w' :=
  h.mono fun _ _ ⟨he, k⟩ => ⟨he, by rw [← k]; exact hC⟩
end
end Go.Proofs.Ytidengmcbppcoaa.qk
