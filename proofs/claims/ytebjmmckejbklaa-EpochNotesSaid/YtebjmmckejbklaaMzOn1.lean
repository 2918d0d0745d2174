/-
  What 'on' calls, told of threads; what its own steps make of a thread.
-/
import Derived.Test.YtebjmmckejbklaaMzT
import Derived.Test.YtebjmmckejbklaaMzNext
import Derived.Test.YtebjmmckejbklaaMzOwnAll
import Derived.Deep.MidRow
namespace Go.Proofs.Ytebjmmckejbklaa.mz
open Go.RowKit Go.Proofs.Ytebjmmckejbklaa.oc
theorem next_all (B g : Nat) (w : World) (t : Th) (F : Nat → Prop) (h : TInv w B g t F) (hc : t.call < t.calls.length) :
    Calls Try.prog 51 #[.pointer (some ⟨g, 0, none⟩)] w fun e w' => e = .returned t.ins.val ∧ ∀ S, Keeps S w w' := by
  obtain ⟨cv, v, tvs, h1, h2, h3⟩ := h.at_
  have hi : t.calls[t.call]? = some (t.calls[t.call]) := List.getElem?_eq_getElem hc
  rcases Nat.lt_or_ge t.at_ (t.calls[t.call]).1.length with hlt | hge
  · have hx : t.ins = (t.calls[t.call]).1[t.at_] := by unfold Th.ins; rw [hi]; simp [List.getD_eq_getElem?_getD, List.getElem?_eq_getElem hlt]
    rw [hx]
    exact next_in g B w _ h1 t.calls h2 _ hi _ (List.getElem?_eq_getElem hlt)
  · have hx : t.ins = Ins.fin := by unfold Th.ins; rw [hi]; simp [List.getD_eq_getElem?_getD, List.getElem?_eq_none hge]
    rw [hx]
    exact next_out g B w _ h1 t.calls h2 _ hi hge
theorem next_is (B g : Nat) (w : World) (t : Th) (F : Nat → Prop) (h : TInv w B g t F) (hc : t.call < t.calls.length) (x : Ins) (hx : t.ins = x) :
    Calls Try.prog 51 #[.pointer (some ⟨g, 0, none⟩)] w fun e w' => e = .returned (.agg #[.int .i64 (x.op : Int), .int .i64 (x.on : Int), .int .i64 (x.a : Int), .int .i64 (x.b : Int), .int .i64 (x.c : Int), .int .i64 (x.d : Int), .int .u64 (x.n : Int)]) ∧ ∀ S, Keeps S w w' := by
  subst hx
  exact next_all B g w t F h hc
set_option maxHeartbeats 400000 in
theorem told_yes (k : Nat) (w : World) (h1 : 1 ≤ k) (h2 : k ≤ 5) : Calls Try.prog 52 #[.int .i64 k] w fun e w' => e = .returned (.bool true) ∧ w = w' := by
  have a1 : (1 : Int) ≤ (k : Int) := by omega
  have a2 : (k : Int) ≤ 5 := by omega
  go_enter Try.func52, Try.ntmps52
  go_wp2
  go_ret
  exact ⟨rfl, rfl⟩
set_option maxHeartbeats 400000 in
theorem told_no (k : Nat) (w : World) (h1 : ¬ (1 ≤ k ∧ k ≤ 5)) : Calls Try.prog 52 #[.int .i64 k] w fun e w' => e = .returned (.bool false) ∧ w = w' := by
  rcases Nat.lt_or_ge k 1 with h | h
  · have a1 : ¬ (1 : Int) ≤ (k : Int) := by omega
    go_enter Try.func52, Try.ntmps52
    go_wp2
    go_ret
    exact ⟨rfl, rfl⟩
  · have a1 : (1 : Int) ≤ (k : Int) := by omega
    have a2 : ¬ (k : Int) ≤ 5 := by omega
    go_enter Try.func52, Try.ntmps52
    go_wp2
    go_ret
    exact ⟨rfl, rfl⟩
theorem Blk.setCells {g : Nat} {ty : TypeId} : ∀ (vs : List Value) (o : Nat) (w : World) (a b c : List Value), Blk w g ty (a ++ b ++ c) → a.length = o → b.length = vs.length → Blk (w.setCells g o vs) g ty (a ++ vs ++ c)
  | [], o, w, a, b, c, h, _, hb => by
    obtain rfl : b = [] := List.eq_nil_of_length_eq_zero (by simpa using hb)
    exact h
  | v :: vs, o, w, a, b, c, h, ha, hb => by
    obtain ⟨x, b', rfl⟩ : ∃ x b', b = x :: b' := by cases b with | nil => simp at hb | cons x b' => exact ⟨x, b', rfl⟩
    have h1 : Blk (w.setCell ⟨g, o, none⟩ v) g ty ((a ++ [v]) ++ b' ++ c) := by
      have := Blk.put h o v
      subst ha
      simpa [List.append_assoc] using this
    have := Blk.setCells vs (o + 1) _ (a ++ [v]) b' c h1 (by simp [ha]) (by simpa using hb)
    simpa [World.setCells, List.append_assoc] using this
theorem setCells_keeps (g : Nat) : ∀ (vs : List Value) (o : Nat) (w : World), Keeps (· = g) w (w.setCells g o vs)
  | [], _, w => Keeps.refl _ w
  | v :: vs, o, w => ((Keeps.refl (· = g) w).setCell (p := ⟨g, o, none⟩) (.inl rfl) v).trans (setCells_keeps g vs (o + 1) _)
/-- a thread whose registers are set to nought -/
theorem Thr.zero {w : World} {g : Nat} {s : Ts} (h : Thr w g s) : Thr (w.setCells g 3 (List.replicate 24 (.int .u64 0))) g { s with rs := List.replicate 24 0 } := by
  refine ⟨?_, by simp, fun x hx => by rw [List.mem_replicate] at hx; omega⟩
  have := Blk.setCells (List.replicate 24 (.int .u64 0)) 3 w [s.calls, .int .i64 (s.call : Int), .int .i64 (s.at_ : Int)] (u64s s.rs) [s.ans, .bool s.over] (by simpa [Ts.cells, List.append_assoc] using h.blk) rfl (by simp [u64s, h.len])
  simpa [Ts.cells, u64s, List.append_assoc] using this
theorem Thr.there {w : World} {g : Nat} {s : Ts} (h : Thr w g s) : w.there g 3 24 := fun j hj => ⟨by rw [h.reg hj]; rfl, h.frozen _⟩
theorem Thr.setCall {w : World} {g : Nat} {s : Ts} (h : Thr w g s) (n : Nat) : Thr (w.setCell ⟨g, 1, none⟩ (.int .i64 (n : Int))) g { s with call := n } := by
  refine ⟨?_, h.len, h.small⟩
  have := h.blk.put 1 (.int .i64 (n : Int))
  simpa [Ts.cells, List.set] using this
theorem Thr.setAns {w : World} {g : Nat} {s : Ts} (h : Thr w g s) (v : Value) : Thr (w.setCell ⟨g, 27, none⟩ v) g { s with ans := v } := by
  refine ⟨?_, h.len, h.small⟩
  have := h.blk.put 27 v
  rw [Ts.cells] at this
  rw [List.set_append_right _ _ (by simp), List.set_append_right _ _ (by simp [u64s, h.len])] at this
  simpa [Ts.cells, u64s, h.len] using this
theorem Thr.setOver {w : World} {g : Nat} {s : Ts} (h : Thr w g s) (b : Bool) : Thr (w.setCell ⟨g, 28, none⟩ (.bool b)) g { s with over := b } := by
  refine ⟨?_, h.len, h.small⟩
  have := h.blk.put 28 (.bool b)
  rw [Ts.cells] at this
  rw [List.set_append_right _ _ (by simp), List.set_append_right _ _ (by simp [u64s, h.len])] at this
  simpa [Ts.cells, u64s, h.len] using this
end Go.Proofs.Ytebjmmckejbklaa.mz
