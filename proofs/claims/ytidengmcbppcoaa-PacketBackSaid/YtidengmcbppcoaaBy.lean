/-
  A row of bytes that is put together by appends (for every layer).
-/
import Derived.Test.YtidengmcbppcoaaMzRow
import Derived.Test.YtidengmcbppcoaaMzK2
import Derived.Test.YtidengmcbppcoaaOcB
import Derived.OwnWalk
set_option linter.unusedVariables false
namespace Go.Proofs.Ytidengmcbppcoaa.bys
open Go.RowKit Go.Proofs.Ytidengmcbppcoaa.oc Go.Proofs.Ytidengmcbppcoaa.mz
theorem byte_info : (Try.prog.info? 5).map (fun i => (i.zero, i.size, i.bytes)) = some (some (.int .u8 0), 1, 1) := by kernel_rfl
/-- bytes that are being put together since w -/
structure By (w wi : World) (v : Value) (l : List Nat) : Prop where
  own : wi.ownsRow w.heap.size 5 1 v l.length (by_ l)
  keep : ∀ S, Keeps S w wi
section
variable {w wi wj : World} {v : Value} {l : List Nat}
theorem By.nil_ (k : ∀ S, Keeps S w wi) : By w wi (.slice none 0 0) [] := ⟨World.ownsRow_nil wi _ _ _, k⟩
theorem By.grown (h : By w wi v l) (k : ∀ S, Keeps S wi wj) : By w wj v l := ⟨owns_keeps h.own (k (fun _ => False)) (fun _ _ z => z), fun S => (h.keep S).trans (k S)⟩
theorem By.alloc (h : By w wi v l) (o : Obj) : By w (wi.alloc o) v l := h.grown (fun S => (Keeps.refl S wi).alloc o)
theorem By.base {w1 : World} (h : By w1 wi v l) (k : ∀ S, Keeps S w w1) : By w wi v l := by
  refine ⟨⟨h.own.1, ?_⟩, fun S => (k S).trans (h.keep S)⟩
  rcases h.own.2 with q | ⟨g, cap, cur, e, hb, rest⟩
  · exact .inl q
  · exact .inr ⟨g, cap, cur, e, Nat.le_trans (k (fun _ => False)).size hb, rest⟩
/-- a block of its own, full -/
theorem By.of_blk {g : Nat} {n : Nat} (hb : Blk wi g 5 (by_ l)) (hn : l.length = n) (hg : w.heap.size ≤ g) (hl : n ≤ 140737488355328) (k : ∀ S, Keeps S w wi) : By w wi (.slice (some ⟨g, 0, none⟩) n n) l := by
  subst hn
  refine ⟨⟨by rw [by_length]; omega, .inr ⟨g, l.length, (by_ l).toArray, rfl, hg, hb, Nat.le_refl _, by unfold maxLen; omega, by rw [List.size_toArray, by_length]; omega, ?_⟩⟩, k⟩
  rw [Nat.mul_one, List.take_of_length_le (by rw [by_length]; omega)]
theorem By.apart (h : By w wi v l) {X : Nat} (hX : X < w.heap.size) : ¬ v.ownBlock = some X := fun e => by have := (h.own.lt X e).1; omega
theorem By.form (h : By w wi v l) (hl : 0 < l.length) : ∃ g c, v = .slice (some ⟨g, 0, none⟩) l.length c ∧ w.heap.size ≤ g ∧ g < wi.heap.size := h.own.form hl
theorem By.rd (h : By w wi v l) : ∃ A c, v = .slice A l.length c ∧ Rd wi wi.heap.size A (by_ l) := by
  rcases h.own.2 with ⟨rfl, h0⟩ | ⟨g, cap, cur, rfl, _⟩
  · obtain rfl : l = [] := List.eq_nil_of_length_eq_zero h0
    exact ⟨none, 0, rfl, Rd.nil_⟩
  · exact ⟨_, cap, rfl, Rd.own h.own⟩
theorem By.cell {g n c : Nat} (h : By w wi (.slice (some ⟨g, 0, none⟩) n c) l) {i x : Nat} (hx : l[i]? = some x) : wi.cell? ⟨g, i, none⟩ = some (.int .u8 (x : Int)) := by
  have := h.own.cells (g := g) rfl i _ (by_at hx)
  rwa [Addr.add_lit, Nat.zero_add] at this
theorem By.frozen {g n c : Nat} (h : By w wi (.slice (some ⟨g, 0, none⟩) n c) l) (i : Nat) : wi.frozen? ⟨g, i, none⟩ = false := by
  rcases h.own.2 with ⟨e, _⟩ | ⟨g', cap, cur, e, _, hg, _⟩
  · cases e
  · injection e with e
    injection e with e
    injection e with e _ _
    subst e
    simp [World.frozen?, hg]
theorem by_set (l : List Nat) (i x : Nat) : by_ (l.set i x) = (by_ l).set i (.int .u8 (x : Int)) := by simp [by_, List.map_set]
/-- a byte of it is written -/
theorem By.set {g n c : Nat} (h : By w wi (.slice (some ⟨g, 0, none⟩) n c) l) {i : Nat} (hi : i < l.length) (x : Nat) : By w (wi.setCell ⟨g, i, none⟩ (.int .u8 (x : Int))) (.slice (some ⟨g, 0, none⟩) n c) (l.set i x) := by
  have hlt := h.own.lt g rfl
  refine ⟨⟨by rw [by_length, List.length_set]; omega, ?_⟩, fun S => (h.keep S).setCell (p := ⟨g, i, none⟩) (.inr hlt.1) _⟩
  rcases h.own.2 with ⟨e, _⟩ | ⟨g', cap, cur, e, hb, hg, h1, h2, h3, h4⟩
  · cases e
  · have e2 := e
    injection e with e
    injection e with e
    injection e with e _ _
    subst e
    have hB : Blk wi g 5 cur.toList := by unfold Blk; simpa using hg
    have hP := hB.put i (.int .u8 (x : Int))
    refine .inr ⟨g, cap, (cur.toList.set i (.int .u8 (x : Int))).toArray, by rw [e2, List.length_set], hb, hP, by rw [List.length_set]; exact h1, h2, by simp [h3], ?_⟩
    rw [by_set, ← h4, List.length_set]
    simp only [List.take_set]
/-- an append of bytes that some slice shows -/
theorem By.wpList_append {ops : Array Oper} {rest : List Oper} {o : Oper} {a : Act} {Q : Exit → Act → World → Prop} (hgd : o.guard = none) (s x : Operand)
    (ho : o.op = .call { callee := .builtin .append, args := #[s, x], argTypes := #[27, 27] }) (h : By w wi v l) (hs : a.eval s = v)
    (A : Option Addr) (m c B : Nat) (news : List Nat) (hx : a.eval x = .slice A m c) (hm : news.length = m) (hb : Rd wi B A (by_ news)) (hl : l.length + m ≤ 140737488355327)
    (hk : ∀ v' w', By w w' v' (l ++ news) → Keeps (fun b => v.ownBlock = some b) wi w' → wpList Try.prog ops Q rest (a.put o.dst v') w') : wpList Try.prog ops Q (o :: rest) a wi := by
  obtain ⟨i0, hi0, hz0, hz1, hz2⟩ := info_parts byte_info
  refine wpList_app hgd s x 27 ho w.heap.size 5 i0 _ 1 Try.underlying27 hi0 hz0 hz1 hz2 rfl v l.length (by_ l) hs h.own B A m c (by_ news) hx hb (by rw [by_length]; exact hm) (by_one news) (by omega) (by omega) (h.keep (fun _ => False)).size ?_
  intro v' w' hown hg hat
  have hlt : ∀ b, v.ownBlock = some b → w.heap.size ≤ b := fun b hb => (h.own.lt b hb).1
  have kk : Keeps (fun b => v.ownBlock = some b) wi w' := Keeps.of_grown hg
  refine hk v' w' ⟨?_, fun S => ?_⟩ kk
  · rw [List.length_append, hm, by_append]; exact hown
  · have k1 := h.keep S
    exact ⟨Nat.le_trans k1.size kk.size, fun b hb hs => by rw [kk.block b (Nat.lt_of_lt_of_le hb k1.size) (fun e => by have := hlt _ e; omega), k1.block b hb hs], k1.same.trans kk.same⟩
/-- the same; where the row lies -/
theorem By.wpList_append2 {ops : Array Oper} {rest : List Oper} {o : Oper} {a : Act} {Q : Exit → Act → World → Prop} (hgd : o.guard = none) (s x : Operand)
    (ho : o.op = .call { callee := .builtin .append, args := #[s, x], argTypes := #[27, 27] }) (h : By w wi v l) (hs : a.eval s = v)
    (A : Option Addr) (m c B : Nat) (news : List Nat) (hx : a.eval x = .slice A m c) (hm : news.length = m) (hb : Rd wi B A (by_ news)) (hl : l.length + m ≤ 140737488355327)
    (hk : ∀ v' w', By w w' v' (l ++ news) → Keeps (fun b => v.ownBlock = some b) wi w' → (v'.ownBlock = v.ownBlock ∨ v'.ownBlock = some wi.heap.size) → wpList Try.prog ops Q rest (a.put o.dst v') w') : wpList Try.prog ops Q (o :: rest) a wi := by
  obtain ⟨i0, hi0, hz0, hz1, hz2⟩ := info_parts byte_info
  refine wpList_app hgd s x 27 ho w.heap.size 5 i0 _ 1 Try.underlying27 hi0 hz0 hz1 hz2 rfl v l.length (by_ l) hs h.own B A m c (by_ news) hx hb (by rw [by_length]; exact hm) (by_one news) (by omega) (by omega) (h.keep (fun _ => False)).size ?_
  intro v' w' hown hg hat
  have hlt : ∀ b, v.ownBlock = some b → w.heap.size ≤ b := fun b hb => (h.own.lt b hb).1
  have kk : Keeps (fun b => v.ownBlock = some b) wi w' := Keeps.of_grown hg
  refine hk v' w' ⟨?_, fun S => ?_⟩ kk hat
  · rw [List.length_append, hm, by_append]; exact hown
  · have k1 := h.keep S
    exact ⟨Nat.le_trans k1.size kk.size, fun b hb hs => by rw [kk.block b (Nat.lt_of_lt_of_le hb k1.size) (fun e => by have := hlt _ e; omega), k1.block b hb hs], k1.same.trans kk.same⟩
end
end Go.Proofs.Ytidengmcbppcoaa.bys
