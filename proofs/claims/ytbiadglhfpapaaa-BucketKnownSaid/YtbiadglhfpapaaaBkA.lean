/-
  Asks that are put together by appends; patchbaylaw12's right, tokens, same.
-/
import Derived.Test.YtbiadglhfpapaaaBkM
set_option linter.unusedVariables false
namespace Go.Proofs.Ytbiadglhfpapaaa.bk
open Go.RowKit Go.Proofs.Ytbiadglhfpapaaa.oc Go.Proofs.Ytbiadglhfpapaaa.mz
theorem pair_info : (Try.prog.info? 50).map (fun i => (i.zero, i.size, i.bytes)) = some (some (.agg #[.int .u64 0, .int .u64 0]), 2, 16) := by kernel_rfl
theorem askc_app (l r : List (Nat × Nat)) : askc (l ++ r) = askc l ++ askc r := by
  induction l with
  | nil => rfl
  | cons x t ih => simp [askc, ih]
theorem askc_len (l : List (Nat × Nat)) : (askc l).length = l.length * 2 := by
  induction l with
  | nil => rfl
  | cons x t ih => simp [askc, ih]; omega
theorem askc_one (l : List (Nat × Nat)) : ∀ u ∈ askc l, u.oneCell' = true := by
  induction l with
  | nil => intro u hu; simp [askc] at hu
  | cons x t ih =>
    intro u hu
    simp only [askc, List.mem_cons] at hu
    rcases hu with rfl | rfl | hu
    · rfl
    · rfl
    · exact ih u hu
/-- a list of asks that is being put together by appends since w -/
structure Am (w wi : World) (v : Value) (l : List (Nat × Nat)) : Prop where
  own : wi.ownsRow w.heap.size 50 2 v l.length (askc l)
  keep : ∀ S, Keeps S w wi
theorem Am.nil_ {w wi : World} (k : ∀ S, Keeps S w wi) : Am w wi (.slice none 0 0) [] := ⟨World.ownsRow_nil wi _ _ _, k⟩
theorem Am.grown {w wi wj : World} {v : Value} {l : List (Nat × Nat)} (h : Am w wi v l) (k : ∀ S, Keeps S wi wj) : Am w wj v l := ⟨owns_keeps h.own (k (fun _ => False)) (fun _ _ z => z), fun S => (h.keep S).trans (k S)⟩
theorem Am.alloc {w wi : World} {v : Value} {l : List (Nat × Nat)} (h : Am w wi v l) (o : Obj) : Am w (wi.alloc o) v l := h.grown (fun S => (Keeps.refl S wi).alloc o)
theorem Am.apart {w wi : World} {v : Value} {l : List (Nat × Nat)} (h : Am w wi v l) {X : Nat} (hX : X < w.heap.size) : ¬ v.ownBlock = some X := fun e => by have := (h.own.lt X e).1; omega
theorem Am.asks {w wi : World} {v : Value} {l : List (Nat × Nat)} (h : Am w wi v l) (hs : ∀ p ∈ l, p.1 < 18446744073709551616 ∧ p.2 < 18446744073709551616) : ∃ A c, v = .slice A l.length c ∧ Asks wi wi.heap.size A l := by
  obtain ⟨A, c, e, hr⟩ := rd_of_row h.own
  exact ⟨A, c, e, hr, hs⟩
theorem Am.wpList_append {w wi : World} {v : Value} {l : List (Nat × Nat)} {ops : Array Oper} {rest : List Oper} {o : Oper} {a : Act} {Q : Exit → Act → World → Prop} (hgd : o.guard = none) (s x : Operand)
    (ho : o.op = .call { callee := .builtin .append, args := #[s, x], argTypes := #[36, 36] }) (h : Am w wi v l) (hs : a.eval s = v)
    (g m c : Nat) (news : List (Nat × Nat)) (hx : a.eval x = .slice (some ⟨g, 0, none⟩) m c) (hm : news.length = m) (hb : Blk wi g 50 (askc news)) (hl : l.length + m ≤ 1000000000000)
    (hk : ∀ v' w', Am w w' v' (l ++ news) → Keeps (fun b => v.ownBlock = some b) wi w' → wpList Try.prog ops Q rest (a.put o.dst v') w') : wpList Try.prog ops Q (o :: rest) a wi := by
  obtain ⟨i0, hi0, hz0, hz1, hz2⟩ := info_parts pair_info
  refine wpList_apps hgd s x 36 ho w.heap.size 50 i0 _ 2 16 Try.underlying36 hi0 hz0 hz1 hz2 rfl (by decide) v l.length (askc l) hs h.own ⟨g, 0, none⟩ m c (askc news) hx (by rw [askc_len, hm]) (fun j u hu => by rw [Addr.add_lit, hb.cell, Nat.zero_add]; exact hu) (askc_one _) (by unfold maxLen; omega) (by omega) (h.keep (fun _ => False)).size ?_
  intro v' w' hown hg hat
  have hlt : ∀ b, v.ownBlock = some b → w.heap.size ≤ b := fun b hb => (h.own.lt b hb).1
  have kk : Keeps (fun b => v.ownBlock = some b) wi w' := Keeps.of_grown hg
  refine hk v' w' ⟨?_, fun S => ?_⟩ kk
  · rw [List.length_append, hm, askc_app]; exact hown
  · have k1 := h.keep S
    exact ⟨Nat.le_trans k1.size kk.size, fun b hb hs => by rw [kk.block b (Nat.lt_of_lt_of_le hb k1.size) (fun e => by have := hlt _ e; omega), k1.block b hb hs], k1.same.trans kk.same⟩
end Go.Proofs.Ytbiadglhfpapaaa.bk
