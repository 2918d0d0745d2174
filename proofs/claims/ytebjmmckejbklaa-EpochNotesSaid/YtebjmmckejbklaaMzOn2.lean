/-
  What on's own steps make of a thread: what holds behind them.
-/
import Derived.Test.YtebjmmckejbklaaMzOn1
import Derived.Test.YtebjmmckejbklaaMzApp
namespace Go.Proofs.Ytebjmmckejbklaa.mz
open Go.RowKit Go.Proofs.Ytebjmmckejbklaa.oc
theorem step_to {w0 wr w' : World} {B g : Nat} {t : Th} {F : Nat → Prop} (hT : TInv w' B g t (Grown wr w' (Grown w0 wr F))) (k1 : Keeps F w0 wr) (k2 : Keeps (Grown w0 wr F) wr w') (hB : B ≤ w0.heap.size) (hF : ∀ b, F b → B ≤ b ∧ b < w0.heap.size) :
    TInv w' B g t (Grown w0 w' F) ∧ Keeps F w0 w' := by
  have hs1 := k1.size
  have hs2 := k2.size
  refine ⟨hT.wider (fun b hb => ?_) (fun b hb => ?_), ⟨by omega, fun b hb hs => ?_, k1.same.trans k2.same⟩⟩
  · rcases hb with (hb | hb) | hb
    · exact .inl hb
    · exact .inr ⟨hb.1, by omega⟩
    · exact .inr ⟨by omega, hb.2⟩
  · rcases hb with hb | hb
    · exact ⟨(hF b hb).1, by have := (hF b hb).2; omega⟩
    · exact ⟨by omega, hb.2⟩
  · rw [k2.block b (by omega) (fun z => by rcases z with z | z; exact hs z; omega), k1.block b hb hs]
theorem tinv_on {w0 w4 w6 : World} {B g : Nat} {t : Th} {F : Nat → Prop} (hT : TInv w4 B g t (Grown w0 w4 F)) (k : ∀ S, Keeps S w4 w6) (k0 : Keeps F w0 w4) (hB : B ≤ w0.heap.size) (hF : ∀ b, F b → B ≤ b ∧ b < w0.heap.size) :
    TInv w6 B g t (Grown w0 w6 F) ∧ Keeps F w0 w6 := by
  have h1 := hT.keeps (k (fun _ => False)) (fun _ _ z => z) (fun _ _ z => z)
  exact step_to (h1.grown (w := w4) (Nat.le_trans hB k0.size)) k0 (k _) hB hF
theorem Wf.begun {t : Th} (h : t.Wf) : t.begun.Wf := by
  unfold Th.begun
  split
  · rename_i e
    exact ⟨h.rs, by right; simp [e], h.calls, h.codes⟩
  · exact h
theorem begun_len {t : Th} (h : t.Wf) : t.begun.ans.length = t.call + 1 := by
  unfold Th.begun
  split
  · rename_i e; simp [e]
  · rename_i e
    rcases h.ans with k | k
    · exact absurd k e
    · exact k
theorem begun_len2 {t : Th} (h : t.Wf) : t.begun.ans.length = t.begun.call + 1 := by
  rw [begun_len h]; unfold Th.begun; split <;> rfl
theorem begun_call (t : Th) : t.begun.call = t.call ∧ t.begun.calls = t.calls ∧ t.begun.at_ = t.at_ ∧ t.begun.rs = t.rs ∧ t.begun.over = t.over := by
  unfold Th.begun
  split <;> exact ⟨rfl, rfl, rfl, rfl, rfl⟩
theorem over_done {w w' : World} {B g : Nat} {t : Th} {F : Nat → Prop} (h : TInv w B g t F) (hB : B ≤ w.heap.size) (k0 : Keeps (· = g) w w') (hh : ∀ s, Thr w g s → Thr w' g { s with over := true }) :
    TInv w' B g { t with over := true } (Grown w w' F) ∧ Keeps F w w' := by
  obtain ⟨cv, v, tvs, h1, h2, h3⟩ := h.at_
  exact (own_done (t' := { t with over := true }) h hB h2 h3 rfl (hh _ h1) k0 rfl rfl ⟨h.wf.rs, h.wf.ans, h.wf.calls, h.wf.codes⟩).2
theorem Ans.snoc {w w4 : World} {B g : Nat} {F : Nat → Prop} {v v' : Value} {zs : List (Bool × List Nat)} {tvs : List Value} (h : Ans w B g F v zs tvs) (k : Keeps (fun b => b = g ∨ v.ownBlock = some b) w w4)
    (hrow : w4.ownsRow B 91 2 v' (zs.length + 1) (flat zs tvs ++ [.bool false, .slice none 0 0])) (hat : v'.ownBlock = v.ownBlock ∨ ∃ j, v'.ownBlock = some j ∧ w.heap.size ≤ j) (hF : ∀ b, F b → b < w.heap.size) (hg : g < w.heap.size) :
    Ans w4 B g (Grown w w4 F) v' (zs ++ [(false, [])]) (tvs ++ [.slice none 0 0]) := by
  have hnew : ∀ (i : Nat) (tv : Value), (tvs ++ [Value.slice none 0 0])[i]? = some tv → ∀ k, tv.ownBlock = some k → tvs[i]? = some tv := fun i tv hi k hk => by
    rcases Nat.lt_or_ge i tvs.length with hl | hl
    · rwa [List.getElem?_append_left hl] at hi
    · rw [List.getElem?_append_right hl] at hi
      rcases Nat.eq_zero_or_pos (i - tvs.length) with e | e
      · rw [e] at hi; simp at hi; subst hi; cases hk
      · rw [List.getElem?_eq_none (by simp; omega)] at hi; cases hi
  refine ⟨?_, by simp [h.len], ?_, ?_, ?_, ?_, ?_⟩
  · rw [flat_snoc _ _ _ _ h.len, List.length_append]
    exact hrow
  · intro i tv a hi ha
    rcases Nat.lt_or_ge i tvs.length with hl | hl
    · rw [List.getElem?_append_left hl] at hi
      rw [List.getElem?_append_left (by rw [← h.len]; exact hl)] at ha
      refine owns_keeps (h.own i tv a hi ha) k fun b hb => ?_
      rintro (rfl | z)
      · exact (h.feet i tv _ hi hb).2 rfl
      · exact h.off i tv b hi hb z
    · rw [List.getElem?_append_right hl] at hi
      rw [List.getElem?_append_right (by rw [← h.len]; exact hl), ← h.len] at ha
      rcases Nat.eq_zero_or_pos (i - tvs.length) with e | e
      · rw [e] at hi ha; simp at hi ha; subst hi; subst ha
        exact World.ownsRow_nil _ _ _ _
      · rw [List.getElem?_eq_none (by simp; omega)] at hi; cases hi
  · intro i j q u u' hij hu hu' hq hq'
    exact h.apart i j q u u' hij (hnew i u hu q hq) (hnew j u' hu' q hq') hq hq'
  · intro i tv q hi hq e
    have hi' := hnew i tv hi q hq
    rcases hat with z | ⟨j, z, hj⟩
    · rw [z] at e; exact h.off i tv q hi' hq e
    · rw [z] at e; injection e with e; have := hF q (h.feet i tv q hi' hq).1; omega
  · intro b hb
    rcases hat with z | ⟨j, z, hj⟩
    · rw [z] at hb; exact ⟨.inl (h.foot b hb).1, (h.foot b hb).2⟩
    · have := (hrow.lt b hb).2
      rw [z] at hb; injection hb with hb
      exact ⟨.inr ⟨by omega, by omega⟩, by omega⟩
  · intro i tv b hi hb
    have hi' := hnew i tv hi b hb
    exact ⟨.inl (h.feet i tv b hi' hb).1, (h.feet i tv b hi' hb).2⟩
theorem begun_done {w wA w3 : World} {B g : Nat} {t : Th} {F : Nat → Prop} {cv v v' : Value} {tvs : List Value} (h : TInv w B g t F) (hB : B ≤ w.heap.size) (h1 : Thr w g ⟨cv, t.call, t.at_, t.rs, v, t.over⟩) (h2 : IsCalls w B cv t.calls) (h3 : Ans w B g F v t.ans tvs) (hlen : t.ans.length = t.call)
    (k0 : ∀ S, Keeps S w wA) (hown : w3.ownsRow B 91 2 v' (t.ans.length + 1) (flat t.ans tvs ++ [.bool false, .slice none 0 0])) (hg : wA.grownBy w3 v.ownBlock) (hat : v'.ownBlock = v.ownBlock ∨ v'.ownBlock = some wA.heap.size) :
    TInv (w3.setCell ⟨g, 27, none⟩ v') B g t.begun (Grown w (w3.setCell ⟨g, 27, none⟩ v') F) ∧ Keeps F w (w3.setCell ⟨g, 27, none⟩ v') := by
  have hv'g : v'.ownBlock ≠ some g := fun e => by
    rcases hat with z | z
    · rw [z] at e; exact (h3.foot _ e).2 rfl
    · rw [z] at e; injection e with e; have := (h.above g h.me).2; have := (k0 (fun _ => False)).size; omega
  have kA : Keeps (fun b => v.ownBlock = some b) w w3 := (k0 _).trans ⟨hg.size, fun b hb hs => hg.block b hb (fun e => hs e.symm), ⟨hg.os, hg.tape, hg.output⟩⟩
  have k4 : Keeps (fun b => b = g ∨ v.ownBlock = some b) w (w3.setCell ⟨g, 27, none⟩ v') := (kA.mono fun b _ hb => .inr hb).setCell (p := ⟨g, 27, none⟩) (.inl (.inl rfl)) _
  have hT3 : Thr w3 g _ := h1.keeps kA (fun e => (h3.foot _ e).2 rfl)
  have hrow := hown.kept (grown_set w3 ⟨g, 27, none⟩ v') (.inr hv'g)
  have hans := h3.snoc k4 hrow (by
    rcases hat with z | z
    · exact .inl z
    · exact .inr ⟨_, z, (k0 (fun _ => False)).size⟩) (fun b hb => (h.above b hb).2) (h.above g h.me).2
  have kF : Keeps F w (w3.setCell ⟨g, 27, none⟩ v') := k4.mono fun b _ hb => by
    rcases hb with rfl | hb
    · exact h.me
    · exact (h3.foot b hb).1
  have hbg : t.begun = { t with ans := t.ans ++ [(false, [])] } := by unfold Th.begun; rw [if_pos hlen]
  rw [hbg]
  refine ⟨⟨⟨cv, v', _, hT3.setAns v', h2.keeps kF (fun b hb e => by have := (h.above b e).1; omega), hans⟩, ⟨h.wf.rs, by right; simp [hlen], h.wf.calls, h.wf.codes⟩, .inl h.me, fun b hb => ?_⟩, kF⟩
  rcases hb with hb | hb
  · exact ⟨(h.above b hb).1, Nat.lt_of_lt_of_le (h.above b hb).2 kF.size⟩
  · exact ⟨Nat.le_trans hB hb.1, hb.2⟩
theorem pair_one : ∀ u ∈ [Value.bool false, Value.slice none 0 0], u.oneCell' = true := by
  intro u hu
  simp only [List.mem_cons, List.mem_nil_iff, or_false] at hu
  rcases hu with rfl | rfl <;> rfl
theorem new_pair (w : World) (x y : Value) (ty : TypeId) : ∀ j u, [x, y][j]? = some u → (w.alloc (.cells #[x, y] ty)).drew.drew.cell? ((⟨w.heap.size, 0, none⟩ : Addr).add j) = some u := fun j u h => by
  rw [Addr.add_lit, Nat.zero_add]
  exact ((Blk.new w ty #[x, y]).cell j).trans h
theorem begun_same {w : World} {B g : Nat} {t : Th} {F : Nat → Prop} (h : TInv w B g t F) (hlen : ¬ t.ans.length = t.call) : TInv w B g t.begun F := by
  have hbg : t.begun = t := by unfold Th.begun; rw [if_neg hlen]
  rw [hbg]; exact h
theorem finish_done {w w' : World} {B g A cap : Nat} {t : Th} {F : Nat → Prop} {cv : Value} {tvs : List Value} (h : TInv w B g t F) (hB : B ≤ w.heap.size) (h1 : Thr w g ⟨cv, t.call, t.at_, t.rs, .slice (some ⟨A, 0, none⟩) t.ans.length cap, t.over⟩) (h2 : IsCalls w B cv t.calls)
    (h3 : Ans w B g F (.slice (some ⟨A, 0, none⟩) t.ans.length cap) t.ans tvs) (hlen : t.ans.length = t.call + 1)
    (hw : w' = ((((w.setCell ⟨A, t.call * 2, none⟩ (.bool true)).setCell ⟨g, 1, none⟩ (.int .i64 ((t.call : Int) + 1))).setCell ⟨g, 2, none⟩ (.int .i64 0)).drew.setCells g 3 (List.replicate 24 (.int .u64 0)))) :
    TInv w' B g t.finish (Grown w w' F) ∧ Keeps F w w' := by
  obtain ⟨A', cap', cs, e, hA1, hA2, hA3, hA4, hA5, hA6⟩ := h3.blk (by omega)
  injection e with e1 e2 e3
  injection e1 with e1
  injection e1 with e1
  subst e1; subst e3
  have hAg := (h3.foot A rfl).2
  have hFA := (h3.foot A rfl).1
  obtain ⟨a0, ha⟩ : ∃ a, t.ans[t.call]? = some a := ⟨_, List.getElem?_eq_getElem (by omega)⟩
  have htold : t.told = a0.2 := by unfold Th.told; rw [List.getD_eq_getElem?_getD, ha]; rfl
  have k1 : Keeps (· = A) w (w.setCell ⟨A, t.call * 2, none⟩ (.bool true)) := (Keeps.refl (· = A) w).setCell (p := ⟨A, t.call * 2, none⟩) (.inl rfl) _
  have hT1 := h1.keeps k1 (fun e => hAg e.symm)
  have hT2 := (hT1.setCall (t.call + 1)).goto 0
  have hT3 := hT2.drew.zero
  have b1 := hA2.put (t.call * 2) (.bool true)
  have k2 : Keeps (· = g) (w.setCell ⟨A, t.call * 2, none⟩ (.bool true)) w' := by
    rw [hw]
    exact (((Keeps.refl (· = g) _).setCell (p := ⟨g, 1, none⟩) (.inl rfl) _).setCell (p := ⟨g, 2, none⟩) (.inl rfl) _).drew.trans (setCells_keeps g _ 3 _)
  have kF : Keeps F w w' := (k1.mono fun b _ e => by subst e; exact hFA).trans (k2.mono fun b _ e => by subst e; exact h.me)
  have bw := Blk.keeps b1 k2 hAg
  have hfin : t.finish = { t with ans := t.ans.set t.call (true, a0.2), call := t.call + 1, at_ := 0, rs := List.replicate 24 0 } := by unfold Th.finish; rw [htold]
  have hans : Ans w' B g F (.slice (some ⟨A, 0, none⟩) t.ans.length cap) (t.ans.set t.call (true, a0.2)) tvs := by
    refine ⟨⟨by rw [flat_length _ _ (by simp [h3.len])], .inr ⟨A, cap, (cs.set (t.call * 2) (.bool true)).toArray, by simp, hA1, bw, by simpa using hA3, hA4, by simpa using hA5, ?_⟩⟩, by simp [h3.len], ?_, h3.apart, h3.off, h3.foot, h3.feet⟩
    · rw [flat_set_done _ _ _ _ _ ha h3.len, ← hA6, List.take_set]
      simp
    · intro i tv a hi hia
      have hx : ∃ b, t.ans[i]? = some (b, a.2) := by
        rw [List.getElem?_set] at hia
        by_cases e : t.call = i
        · subst e
          rw [if_pos rfl, if_pos (by omega)] at hia
          cases hia
          exact ⟨a0.1, ha⟩
        · rw [if_neg e] at hia
          exact ⟨a.1, hia⟩
      obtain ⟨b, hb⟩ := hx
      have hne : ∀ q, tv.ownBlock = some q → q ≠ A := fun q hq e => h3.off i tv q hi hq (by rw [e]; rfl)
      exact owns_keeps (owns_keeps (h3.own i tv (b, a.2) hi hb) k1 hne) k2 (fun q hq => (h3.feet i tv q hi hq).2)
  rw [hfin]
  refine ⟨TInv.grown ⟨⟨cv, _, tvs, ?_, h2.keeps kF (fun b hb e => by have := (h.above b e).1; omega), hans⟩, ⟨by simp, by left; simp [hlen], h.wf.calls, h.wf.codes⟩, h.me, fun b hb => ⟨(h.above b hb).1, Nat.lt_of_lt_of_le (h.above b hb).2 kF.size⟩⟩ hB, kF⟩
  rw [hw]
  exact hT3
end Go.Proofs.Ytebjmmckejbklaa.mz
