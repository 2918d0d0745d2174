/-
  What 'on' calls, told of threads; what its own steps make of a thread. What on's own steps make of a thread: what holds behind them. on: the thread goes on up to its next operation, or to its end.
-/
import Derived.Test.YtgenblefbddilaaMzT
import Derived.Test.YtgenblefbddilaaMzNext
import Derived.Test.YtgenblefbddilaaMzOwnA
import Derived.Deep.MidRow
import Derived.Test.YtgenblefbddilaaMzApp
import Derived.Deep.LoopGhost
import Derived.Deep.Cut
namespace Go.Proofs.Ytgenblefbddilaa.mz
open Go.RowKit Go.Proofs.Ytgenblefbddilaa.oc
theorem next_all (B g : Nat) (w : World) (t : Th) (F : Nat → Prop) (h : TInv w B g t F) (hc : t.call < t.calls.length) :
    Calls Try.prog 47 #[.pointer (some ⟨g, 0, none⟩)] w fun e w' => e = .returned t.ins.val ∧ ∀ S, Keeps S w w' := by
  obtain ⟨cv, v, tvs, h1, h2, h3⟩ := h.at_
  have hi : t.calls[t.call]? = some (t.calls[t.call]) := List.getElem?_eq_getElem hc
  rcases Nat.lt_or_ge t.at_ (t.calls[t.call]).1.length with hlt | hge
  · have hx : t.ins = (t.calls[t.call]).1[t.at_] := by unfold Th.ins; rw [hi]; simp [List.getD_eq_getElem?_getD, List.getElem?_eq_getElem hlt]
    rw [hx]
    exact next_in g B w _ h1 t.calls h2 _ hi _ (List.getElem?_eq_getElem hlt)
  · have hx : t.ins = Ins.fin := by unfold Th.ins; rw [hi]; simp [List.getD_eq_getElem?_getD, List.getElem?_eq_none hge]
    rw [hx]
    exact next_out g B w _ h1 t.calls h2 _ hi hge
theorem next_is (B g : Nat) (w : World) (t : Th) (F : Nat → Prop) (h : TInv w B g t F) (hc : t.call < t.calls.length) (x : Ins) (hx : t.ins = x) :
    Calls Try.prog 47 #[.pointer (some ⟨g, 0, none⟩)] w fun e w' => e = .returned (.agg #[.int .i64 (x.op : Int), .int .i64 (x.on : Int), .int .i64 (x.a : Int), .int .i64 (x.b : Int), .int .i64 (x.c : Int), .int .i64 (x.d : Int), .int .u64 (x.n : Int)]) ∧ ∀ S, Keeps S w w' := by
  subst hx
  exact next_all B g w t F h hc
set_option maxHeartbeats 400000 in
theorem told_yes (k : Nat) (w : World) (h1 : 1 ≤ k) (h2 : k ≤ 5) : Calls Try.prog 48 #[.int .i64 k] w fun e w' => e = .returned (.bool true) ∧ w = w' := by
  have a1 : (1 : Int) ≤ (k : Int) := by omega
  have a2 : (k : Int) ≤ 5 := by omega
  go_enter Try.func48, Try.ntmps48
  go_wp2
  go_ret
  exact ⟨rfl, rfl⟩
set_option maxHeartbeats 400000 in
theorem told_no (k : Nat) (w : World) (h1 : ¬ (1 ≤ k ∧ k ≤ 5)) : Calls Try.prog 48 #[.int .i64 k] w fun e w' => e = .returned (.bool false) ∧ w = w' := by
  rcases Nat.lt_or_ge k 1 with h | h
  · have a1 : ¬ (1 : Int) ≤ (k : Int) := by omega
    go_enter Try.func48, Try.ntmps48
    go_wp2
    go_ret
    exact ⟨rfl, rfl⟩
  · have a1 : (1 : Int) ≤ (k : Int) := by omega
    have a2 : ¬ (k : Int) ≤ 5 := by omega
    go_enter Try.func48, Try.ntmps48
    go_wp2
    go_ret
    exact ⟨rfl, rfl⟩
theorem Blk.setCells {g : Nat} {ty : TypeId} : ∀ (vs : List Value) (o : Nat) (w : World) (a b c : List Value), Blk w g ty (a ++ b ++ c) → a.length = o → b.length = vs.length → Blk (w.setCells g o vs) g ty (a ++ vs ++ c)
  | [], o, w, a, b, c, h, _, hb => by
    obtain rfl : b = [] := List.eq_nil_of_length_eq_zero (by simpa using hb)
    exact h
  | v :: vs, o, w, a, b, c, h, ha, hb => by
    obtain ⟨x, b', rfl⟩ : ∃ x b', b = x :: b' := by cases b with | nil => simp at hb | cons x b' => exact ⟨x, b', rfl⟩
    have h1 : Blk (w.setCell ⟨g, o, none⟩ v) g ty ((a ++ [v]) ++ b' ++ c) := by
      have := Blk.put h o v
      subst ha
      simpa [List.append_assoc] using this
    have := Blk.setCells vs (o + 1) _ (a ++ [v]) b' c h1 (by simp [ha]) (by simpa using hb)
    simpa [World.setCells, List.append_assoc] using this
theorem setCells_keeps (g : Nat) : ∀ (vs : List Value) (o : Nat) (w : World), Keeps (· = g) w (w.setCells g o vs)
  | [], _, w => Keeps.refl _ w
  | v :: vs, o, w => ((Keeps.refl (· = g) w).setCell (p := ⟨g, o, none⟩) (.inl rfl) v).trans (setCells_keeps g vs (o + 1) _)
/-- a thread whose registers are set to nought -/
theorem Thr.zero {w : World} {g : Nat} {s : Ts} (h : Thr w g s) : Thr (w.setCells g 3 (List.replicate 24 (.int .u64 0))) g { s with rs := List.replicate 24 0 } := by
  refine ⟨?_, by simp, fun x hx => by rw [List.mem_replicate] at hx; omega⟩
  have := Blk.setCells (List.replicate 24 (.int .u64 0)) 3 w [s.calls, .int .i64 (s.call : Int), .int .i64 (s.at_ : Int)] (u64s s.rs) [s.ans, .bool s.over] (by simpa [Ts.cells, List.append_assoc] using h.blk) rfl (by simp [u64s, h.len])
  simpa [Ts.cells, u64s, List.append_assoc] using this
theorem Thr.there {w : World} {g : Nat} {s : Ts} (h : Thr w g s) : w.there g 3 24 := fun j hj => ⟨by rw [h.reg hj]; rfl, h.frozen _⟩
theorem Thr.setCall {w : World} {g : Nat} {s : Ts} (h : Thr w g s) (n : Nat) : Thr (w.setCell ⟨g, 1, none⟩ (.int .i64 (n : Int))) g { s with call := n } := by
  refine ⟨?_, h.len, h.small⟩
  have := h.blk.put 1 (.int .i64 (n : Int))
  simpa [Ts.cells, List.set] using this
theorem Thr.setAns {w : World} {g : Nat} {s : Ts} (h : Thr w g s) (v : Value) : Thr (w.setCell ⟨g, 27, none⟩ v) g { s with ans := v } := by
  refine ⟨?_, h.len, h.small⟩
  have := h.blk.put 27 v
  rw [Ts.cells] at this
  rw [List.set_append_right _ _ (by simp), List.set_append_right _ _ (by simp [u64s, h.len])] at this
  simpa [Ts.cells, u64s, h.len] using this
theorem Thr.setOver {w : World} {g : Nat} {s : Ts} (h : Thr w g s) (b : Bool) : Thr (w.setCell ⟨g, 28, none⟩ (.bool b)) g { s with over := b } := by
  refine ⟨?_, h.len, h.small⟩
  have := h.blk.put 28 (.bool b)
  rw [Ts.cells] at this
  rw [List.set_append_right _ _ (by simp), List.set_append_right _ _ (by simp [u64s, h.len])] at this
  simpa [Ts.cells, u64s, h.len] using this
end Go.Proofs.Ytgenblefbddilaa.mz
namespace Go.Proofs.Ytgenblefbddilaa.mz
open Go.RowKit Go.Proofs.Ytgenblefbddilaa.oc
theorem step_to {w0 wr w' : World} {B g : Nat} {t : Th} {F : Nat → Prop} (hT : TInv w' B g t (Grown wr w' (Grown w0 wr F))) (k1 : Keeps F w0 wr) (k2 : Keeps (Grown w0 wr F) wr w') (hB : B ≤ w0.heap.size) (hF : ∀ b, F b → B ≤ b ∧ b < w0.heap.size) :
    TInv w' B g t (Grown w0 w' F) ∧ Keeps F w0 w' := by
  have hs1 := k1.size
  have hs2 := k2.size
  refine ⟨hT.wider (fun b hb => ?_) (fun b hb => ?_), ⟨by omega, fun b hb hs => ?_, k1.same.trans k2.same⟩⟩
  · rcases hb with (hb | hb) | hb
    · exact .inl hb
    · exact .inr ⟨hb.1, by omega⟩
    · exact .inr ⟨by omega, hb.2⟩
  · rcases hb with hb | hb
    · exact ⟨(hF b hb).1, by have := (hF b hb).2; omega⟩
    · exact ⟨by omega, hb.2⟩
  · rw [k2.block b (by omega) (fun z => by rcases z with z | z; exact hs z; omega), k1.block b hb hs]
theorem tinv_on {w0 w4 w6 : World} {B g : Nat} {t : Th} {F : Nat → Prop} (hT : TInv w4 B g t (Grown w0 w4 F)) (k : ∀ S, Keeps S w4 w6) (k0 : Keeps F w0 w4) (hB : B ≤ w0.heap.size) (hF : ∀ b, F b → B ≤ b ∧ b < w0.heap.size) :
    TInv w6 B g t (Grown w0 w6 F) ∧ Keeps F w0 w6 := by
  have h1 := hT.keeps (k (fun _ => False)) (fun _ _ z => z) (fun _ _ z => z)
  exact step_to (h1.grown (w := w4) (Nat.le_trans hB k0.size)) k0 (k _) hB hF
theorem Wf.begun {t : Th} (h : t.Wf) : t.begun.Wf := by
  unfold Th.begun
  split
  · rename_i e
    exact ⟨h.rs, by right; simp [e], h.calls, h.codes⟩
  · exact h
theorem begun_len {t : Th} (h : t.Wf) : t.begun.ans.length = t.call + 1 := by
  unfold Th.begun
  split
  · rename_i e; simp [e]
  · rename_i e
    rcases h.ans with k | k
    · exact absurd k e
    · exact k
theorem begun_len2 {t : Th} (h : t.Wf) : t.begun.ans.length = t.begun.call + 1 := by
  rw [begun_len h]; unfold Th.begun; split <;> rfl
theorem begun_call (t : Th) : t.begun.call = t.call ∧ t.begun.calls = t.calls ∧ t.begun.at_ = t.at_ ∧ t.begun.rs = t.rs ∧ t.begun.over = t.over := by
  unfold Th.begun
  split <;> exact ⟨rfl, rfl, rfl, rfl, rfl⟩
theorem over_done {w w' : World} {B g : Nat} {t : Th} {F : Nat → Prop} (h : TInv w B g t F) (hB : B ≤ w.heap.size) (k0 : Keeps (· = g) w w') (hh : ∀ s, Thr w g s → Thr w' g { s with over := true }) :
    TInv w' B g { t with over := true } (Grown w w' F) ∧ Keeps F w w' := by
  obtain ⟨cv, v, tvs, h1, h2, h3⟩ := h.at_
  exact (own_done (t' := { t with over := true }) h hB h2 h3 rfl (hh _ h1) k0 rfl rfl ⟨h.wf.rs, h.wf.ans, h.wf.calls, h.wf.codes⟩).2
theorem Ans.snoc {w w4 : World} {B g : Nat} {F : Nat → Prop} {v v' : Value} {zs : List (Bool × List Nat)} {tvs : List Value} (h : Ans w B g F v zs tvs) (k : Keeps (fun b => b = g ∨ v.ownBlock = some b) w w4)
    (hrow : w4.ownsRow B 88 2 v' (zs.length + 1) (flat zs tvs ++ [.bool false, .slice none 0 0])) (hat : v'.ownBlock = v.ownBlock ∨ ∃ j, v'.ownBlock = some j ∧ w.heap.size ≤ j) (hF : ∀ b, F b → b < w.heap.size) (hg : g < w.heap.size) :
    Ans w4 B g (Grown w w4 F) v' (zs ++ [(false, [])]) (tvs ++ [.slice none 0 0]) := by
  have hnew : ∀ (i : Nat) (tv : Value), (tvs ++ [Value.slice none 0 0])[i]? = some tv → ∀ k, tv.ownBlock = some k → tvs[i]? = some tv := fun i tv hi k hk => by
    rcases Nat.lt_or_ge i tvs.length with hl | hl
    · rwa [List.getElem?_append_left hl] at hi
    · rw [List.getElem?_append_right hl] at hi
      rcases Nat.eq_zero_or_pos (i - tvs.length) with e | e
      · rw [e] at hi; simp at hi; subst hi; cases hk
      · rw [List.getElem?_eq_none (by simp; omega)] at hi; cases hi
  refine ⟨?_, by simp [h.len], ?_, ?_, ?_, ?_, ?_⟩
  · rw [flat_snoc _ _ _ _ h.len, List.length_append]
    exact hrow
  · intro i tv a hi ha
    rcases Nat.lt_or_ge i tvs.length with hl | hl
    · rw [List.getElem?_append_left hl] at hi
      rw [List.getElem?_append_left (by rw [← h.len]; exact hl)] at ha
      refine owns_keeps (h.own i tv a hi ha) k fun b hb => ?_
      rintro (rfl | z)
      · exact (h.feet i tv _ hi hb).2 rfl
      · exact h.off i tv b hi hb z
    · rw [List.getElem?_append_right hl] at hi
      rw [List.getElem?_append_right (by rw [← h.len]; exact hl), ← h.len] at ha
      rcases Nat.eq_zero_or_pos (i - tvs.length) with e | e
      · rw [e] at hi ha; simp at hi ha; subst hi; subst ha
        exact World.ownsRow_nil _ _ _ _
      · rw [List.getElem?_eq_none (by simp; omega)] at hi; cases hi
  · intro i j q u u' hij hu hu' hq hq'
    exact h.apart i j q u u' hij (hnew i u hu q hq) (hnew j u' hu' q hq') hq hq'
  · intro i tv q hi hq e
    have hi' := hnew i tv hi q hq
    rcases hat with z | ⟨j, z, hj⟩
    · rw [z] at e; exact h.off i tv q hi' hq e
    · rw [z] at e; injection e with e; have := hF q (h.feet i tv q hi' hq).1; omega
  · intro b hb
    rcases hat with z | ⟨j, z, hj⟩
    · rw [z] at hb; exact ⟨.inl (h.foot b hb).1, (h.foot b hb).2⟩
    · have := (hrow.lt b hb).2
      rw [z] at hb; injection hb with hb
      exact ⟨.inr ⟨by omega, by omega⟩, by omega⟩
  · intro i tv b hi hb
    have hi' := hnew i tv hi b hb
    exact ⟨.inl (h.feet i tv b hi' hb).1, (h.feet i tv b hi' hb).2⟩
theorem begun_done {w wA w3 : World} {B g : Nat} {t : Th} {F : Nat → Prop} {cv v v' : Value} {tvs : List Value} (h : TInv w B g t F) (hB : B ≤ w.heap.size) (h1 : Thr w g ⟨cv, t.call, t.at_, t.rs, v, t.over⟩) (h2 : IsCalls w B cv t.calls) (h3 : Ans w B g F v t.ans tvs) (hlen : t.ans.length = t.call)
    (k0 : ∀ S, Keeps S w wA) (hown : w3.ownsRow B 88 2 v' (t.ans.length + 1) (flat t.ans tvs ++ [.bool false, .slice none 0 0])) (hg : wA.grownBy w3 v.ownBlock) (hat : v'.ownBlock = v.ownBlock ∨ v'.ownBlock = some wA.heap.size) :
    TInv (w3.setCell ⟨g, 27, none⟩ v') B g t.begun (Grown w (w3.setCell ⟨g, 27, none⟩ v') F) ∧ Keeps F w (w3.setCell ⟨g, 27, none⟩ v') := by
  have hv'g : v'.ownBlock ≠ some g := fun e => by
    rcases hat with z | z
    · rw [z] at e; exact (h3.foot _ e).2 rfl
    · rw [z] at e; injection e with e; have := (h.above g h.me).2; have := (k0 (fun _ => False)).size; omega
  have kA : Keeps (fun b => v.ownBlock = some b) w w3 := (k0 _).trans ⟨hg.size, fun b hb hs => hg.block b hb (fun e => hs e.symm), ⟨hg.os, hg.tape, hg.output⟩⟩
  have k4 : Keeps (fun b => b = g ∨ v.ownBlock = some b) w (w3.setCell ⟨g, 27, none⟩ v') := (kA.mono fun b _ hb => .inr hb).setCell (p := ⟨g, 27, none⟩) (.inl (.inl rfl)) _
  have hT3 : Thr w3 g _ := h1.keeps kA (fun e => (h3.foot _ e).2 rfl)
  have hrow := hown.kept (grown_set w3 ⟨g, 27, none⟩ v') (.inr hv'g)
  have hans := h3.snoc k4 hrow (by
    rcases hat with z | z
    · exact .inl z
    · exact .inr ⟨_, z, (k0 (fun _ => False)).size⟩) (fun b hb => (h.above b hb).2) (h.above g h.me).2
  have kF : Keeps F w (w3.setCell ⟨g, 27, none⟩ v') := k4.mono fun b _ hb => by
    rcases hb with rfl | hb
    · exact h.me
    · exact (h3.foot b hb).1
  have hbg : t.begun = { t with ans := t.ans ++ [(false, [])] } := by unfold Th.begun; rw [if_pos hlen]
  rw [hbg]
  refine ⟨⟨⟨cv, v', _, hT3.setAns v', h2.keeps kF (fun b hb e => by have := (h.above b e).1; omega), hans⟩, ⟨h.wf.rs, by right; simp [hlen], h.wf.calls, h.wf.codes⟩, .inl h.me, fun b hb => ?_⟩, kF⟩
  rcases hb with hb | hb
  · exact ⟨(h.above b hb).1, Nat.lt_of_lt_of_le (h.above b hb).2 kF.size⟩
  · exact ⟨Nat.le_trans hB hb.1, hb.2⟩
theorem pair_one : ∀ u ∈ [Value.bool false, Value.slice none 0 0], u.oneCell' = true := by
  intro u hu
  simp only [List.mem_cons, List.mem_nil_iff, or_false] at hu
  rcases hu with rfl | rfl <;> rfl
theorem new_pair (w : World) (x y : Value) (ty : TypeId) : ∀ j u, [x, y][j]? = some u → (w.alloc (.cells #[x, y] ty)).drew.drew.cell? ((⟨w.heap.size, 0, none⟩ : Addr).add j) = some u := fun j u h => by
  rw [Addr.add_lit, Nat.zero_add]
  exact ((Blk.new w ty #[x, y]).cell j).trans h
theorem begun_same {w : World} {B g : Nat} {t : Th} {F : Nat → Prop} (h : TInv w B g t F) (hlen : ¬ t.ans.length = t.call) : TInv w B g t.begun F := by
  have hbg : t.begun = t := by unfold Th.begun; rw [if_neg hlen]
  rw [hbg]; exact h
theorem finish_done {w w' : World} {B g A cap : Nat} {t : Th} {F : Nat → Prop} {cv : Value} {tvs : List Value} (h : TInv w B g t F) (hB : B ≤ w.heap.size) (h1 : Thr w g ⟨cv, t.call, t.at_, t.rs, .slice (some ⟨A, 0, none⟩) t.ans.length cap, t.over⟩) (h2 : IsCalls w B cv t.calls)
    (h3 : Ans w B g F (.slice (some ⟨A, 0, none⟩) t.ans.length cap) t.ans tvs) (hlen : t.ans.length = t.call + 1)
    (hw : w' = ((((w.setCell ⟨A, t.call * 2, none⟩ (.bool true)).setCell ⟨g, 1, none⟩ (.int .i64 ((t.call : Int) + 1))).setCell ⟨g, 2, none⟩ (.int .i64 0)).drew.setCells g 3 (List.replicate 24 (.int .u64 0)))) :
    TInv w' B g t.finish (Grown w w' F) ∧ Keeps F w w' := by
  obtain ⟨A', cap', cs, e, hA1, hA2, hA3, hA4, hA5, hA6⟩ := h3.blk (by omega)
  injection e with e1 e2 e3
  injection e1 with e1
  injection e1 with e1
  subst e1; subst e3
  have hAg := (h3.foot A rfl).2
  have hFA := (h3.foot A rfl).1
  obtain ⟨a0, ha⟩ : ∃ a, t.ans[t.call]? = some a := ⟨_, List.getElem?_eq_getElem (by omega)⟩
  have htold : t.told = a0.2 := by unfold Th.told; rw [List.getD_eq_getElem?_getD, ha]; rfl
  have k1 : Keeps (· = A) w (w.setCell ⟨A, t.call * 2, none⟩ (.bool true)) := (Keeps.refl (· = A) w).setCell (p := ⟨A, t.call * 2, none⟩) (.inl rfl) _
  have hT1 := h1.keeps k1 (fun e => hAg e.symm)
  have hT2 := (hT1.setCall (t.call + 1)).goto 0
  have hT3 := hT2.drew.zero
  have b1 := hA2.put (t.call * 2) (.bool true)
  have k2 : Keeps (· = g) (w.setCell ⟨A, t.call * 2, none⟩ (.bool true)) w' := by
    rw [hw]
    exact (((Keeps.refl (· = g) _).setCell (p := ⟨g, 1, none⟩) (.inl rfl) _).setCell (p := ⟨g, 2, none⟩) (.inl rfl) _).drew.trans (setCells_keeps g _ 3 _)
  have kF : Keeps F w w' := (k1.mono fun b _ e => by subst e; exact hFA).trans (k2.mono fun b _ e => by subst e; exact h.me)
  have bw := Blk.keeps b1 k2 hAg
  have hfin : t.finish = { t with ans := t.ans.set t.call (true, a0.2), call := t.call + 1, at_ := 0, rs := List.replicate 24 0 } := by unfold Th.finish; rw [htold]
  have hans : Ans w' B g F (.slice (some ⟨A, 0, none⟩) t.ans.length cap) (t.ans.set t.call (true, a0.2)) tvs := by
    refine ⟨⟨by rw [flat_length _ _ (by simp [h3.len])], .inr ⟨A, cap, (cs.set (t.call * 2) (.bool true)).toArray, by simp, hA1, bw, by simpa using hA3, hA4, by simpa using hA5, ?_⟩⟩, by simp [h3.len], ?_, h3.apart, h3.off, h3.foot, h3.feet⟩
    · rw [flat_set_done _ _ _ _ _ ha h3.len, ← hA6, List.take_set]
      simp
    · intro i tv a hi hia
      have hx : ∃ b, t.ans[i]? = some (b, a.2) := by
        rw [List.getElem?_set] at hia
        by_cases e : t.call = i
        · subst e
          rw [if_pos rfl, if_pos (by omega)] at hia
          cases hia
          exact ⟨a0.1, ha⟩
        · rw [if_neg e] at hia
          exact ⟨a.1, hia⟩
      obtain ⟨b, hb⟩ := hx
      have hne : ∀ q, tv.ownBlock = some q → q ≠ A := fun q hq e => h3.off i tv q hi hq (by rw [e]; rfl)
      exact owns_keeps (owns_keeps (h3.own i tv (b, a.2) hi hb) k1 hne) k2 (fun q hq => (h3.feet i tv q hi hq).2)
  rw [hfin]
  refine ⟨TInv.grown ⟨⟨cv, _, tvs, ?_, h2.keeps kF (fun b hb e => by have := (h.above b e).1; omega), hans⟩, ⟨by simp, by left; simp [hlen], h.wf.calls, h.wf.codes⟩, h.me, fun b hb => ⟨(h.above b hb).1, Nat.lt_of_lt_of_le (h.above b hb).2 kF.size⟩⟩ hB, kF⟩
  rw [hw]
  exact hT3
end Go.Proofs.Ytgenblefbddilaa.mz
namespace Go.Proofs.Ytgenblefbddilaa.mz
open Go.RowKit Go.Proofs.Ytgenblefbddilaa.oc
/-- what a round finds: the thread, with k rounds to come at most -/
def OnRel (B g : Nat) (F : Nat → Prop) (w0 : World) (t' : Th) (k : Nat) (wr : World) : Prop := ∃ t, Th.on k t = some t' ∧ TInv wr B g t (Grown w0 wr F) ∧ Keeps F w0 wr
def OnPost (B g : Nat) (F : Nat → Prop) (w0 : World) (t' : Th) (e : Ending) (wr : World) : Prop := e = .returned (.tuple #[]) ∧ TInv wr B g t' (Grown w0 wr F) ∧ Keeps F w0 wr
theorem ans_info : (Try.prog.info? 88).map (fun i => (i.zero, i.size, i.bytes)) = some (some (.agg #[.bool false, .slice none 0 0]), 2, 32) := by kernel_rfl
set_option maxRecDepth 100000 in
set_option maxHeartbeats 4000000 in
theorem on_all (n B g : Nat) (P : Option Addr) (w : World) (t t' : Th) (F : Nat → Prop) (h : TInv w B g t F) (hB : B ≤ w.heap.size) (ho : Th.on n t = some t') :
    Calls Try.prog 36 #[.pointer (some ⟨g, 0, none⟩), .pointer P] w (OnPost B g F w t') := by
  obtain ⟨i0, hi0, hz0, hz1, hz2⟩ := info_parts ans_info
  have hstart : OnRel B g F w t' n w := ⟨t, ho, h.grown hB, Keeps.refl _ w⟩
  have HS := Lib.hid hstart
  have HB := Lib.hid hB
  have HF := Lib.hid h.above
  clear hstart ho h hB
  go_enter Try.func36, Try.ntmps36
  go_wp2
  go_loopg [4] n (fun k x wr => OnRel B g F w t' k wr)
  case atStart => exact HS.out
  case round =>
    clear HS
    obtain ⟨t, ho, hT, hK⟩ := hrel
    rcases gk with _ | k
    · cases ho
    obtain ⟨cv, v, tvs, h1, h2, h3⟩ := hT.at_
    have hBr : B ≤ wr.heap.size := Nat.le_trans HB.out hK.size
    have q28 : wr.cell? ⟨g, 28, none⟩ = some (.bool t.over) := h1.over
    unfold Th.on at ho
    split at ho
    · rename_i hov
      rw [hov] at q28
      obtain rfl : t = t' := by injection ho
      have HT := Lib.hid hT
      have HK := Lib.hid hK
      clear hT hK ho h1 h2 h3 HB hov
      go_wp2
      go_end0
      exact ⟨rfl, HT.out, HK.out⟩
    · rename_i hov
      have hov : t.over = false := by simpa using hov
      rw [hov] at q28
      have h2' := h2
      obtain ⟨A, cap, rfl, hcs⟩ := h2'
      have q0 : wr.cell? ⟨g, 0, none⟩ = some (.slice A t.calls.length cap) := h1.calls
      have q1 : wr.cell? ⟨g, 1, none⟩ = some (.int .i64 (t.call : Int)) := h1.call
      split at ho
      · rename_i hcl
        have hcl' : decide (t.calls.length ≤ t.call) = true := by simpa using hcl
        have f28 := h1.frozen 28
        obtain rfl : { t with over := true } = t' := by injection ho
        have HT := Lib.hid hT
        have HK := Lib.hid hK
        have HR := Lib.hid hBr
        clear hT hK ho h1 h2 h3 hcs hov hBr
        go_wp2
        go_region
        go_wp2
        go_end0
        have ho := over_done (w' := (wr.setCell ⟨g, 28, none⟩ (.bool true)).drew) HT.out HR.out (((Keeps.refl (· = g) wr).setCell (p := ⟨g, 28, none⟩) (.inl rfl) _).drew) (fun s hs => (hs.setOver true).drew)
        exact ⟨rfl, step_to ho.1 HK.out ho.2 HB.out HF.out⟩
      · rename_i hcl
        have hcl' : decide (t.calls.length ≤ t.call) = false := by simpa using hcl
        have hwf := hT.wf
        obtain ⟨nn, hv⟩ : ∃ A' c', v = .slice A' t.ans.length c' := by
          rcases h3.row.2 with ⟨e, e'⟩ | ⟨gg, cc, cur, e, _⟩
          · exact ⟨none, 0, by rw [e, e']⟩
          · exact ⟨_, _, e⟩
        obtain ⟨nc, rfl⟩ := hv
        have q27 : wr.cell? ⟨g, 27, none⟩ = some (.slice nn t.ans.length nc) := h1.ans
        have f27 := h1.frozen 27
        have hlen : t.ans.length < 1000001 := by have := hwf.calls; rcases hwf.ans with e | e <;> omega
        have HN1 := Lib.hid (new_pair wr (.bool false) (.slice none 0 0) 88)
        have HN2 := Lib.hid pair_one
        have HN3 := Lib.hid (show t.ans.length + 1 ≤ maxLen by unfold maxLen; omega)
        have HN4 := Lib.hid (show (t.ans.length + 1) * 32 ≤ 140737488355328 by omega)
        have HN5 := Lib.hid (show B ≤ (wr.alloc (.cells #[.bool false, .slice none 0 0] 88)).drew.drew.heap.size from by show B ≤ (wr.heap.push _).size; simp; omega)
        have HN6 := Lib.hid (show ∀ w3, (wr.alloc (.cells #[.bool false, .slice none 0 0] 88)).drew.drew.grownBy w3 (Value.slice nn t.ans.length nc).ownBlock → w3.cell? ⟨g, 27, none⟩ = some (.slice nn t.ans.length nc) from fun w3 hg => by
          exact hg.cell (a := ⟨g, 27, none⟩) ((World.cell?_alloc_lt wr _ ⟨g, 27, none⟩ h1.blk.lt).trans q27) (fun e => (h3.foot g e.symm).2 rfl))
        have HN7 := Lib.hid (show ∀ w3, (wr.alloc (.cells #[.bool false, .slice none 0 0] 88)).drew.drew.grownBy w3 (Value.slice nn t.ans.length nc).ownBlock → w3.frozen? ⟨g, 27, none⟩ = false from fun w3 hg =>
          (Blk.grown ((h1.blk.alloc _).drew.drew) hg (fun e => (h3.foot g e.symm).2 rfl)).frozen _)
        by_cases hb : t.ans.length = t.call
        · have hbd : (((t.ans.length : Nat) : Int) == ((t.call : Nat) : Int)) = true := by rw [hb]; exact beq_self_eq_true _
          have HH := Lib.hid hb
          have HT := Lib.hid hT
          have HK := Lib.hid hK
          have HR := Lib.hid hBr
          have HW := Lib.hid hwf
          have H1 := Lib.hid h1
          have H2 := Lib.hid h2
          have H3 := Lib.hid h3
          have HO := Lib.hid ho
          have HC := Lib.hid hcl
          clear hT hK ho h1 h2 h3 hcs hov hBr hb hwf hcl
          go_wp2
          go_region
          go_wp2
          go_region
          go_wp2_with ((at_builtin; refine wpList_apps rfl _ _ 89 rfl B 88 i0 _ 2 32 Try.underlying89 hi0 hz0 hz1 hz2 rfl (by decide) (.slice nn t.ans.length nc) t.ans.length (flat t.ans tvs) rfl (H3.out.row.alloc _).drew.drew ⟨wr.heap.size, 0, none⟩ 1 1 [.bool false, .slice none 0 0] rfl rfl HN1.out HN2.out HN3.out HN4.out HN5.out ?_; intro v' w3 hown' hgrow hat'; obtain ⟨g2, cap2, rfl, hg20, hg21⟩ := hown'.form (Nat.succ_pos _); have HQ1 := Lib.hid hown'; have HQ2 := Lib.hid hgrow; have HQ3 := Lib.hid hat'; have c27 := HN6.out _ hgrow; have d27 := HN7.out _ hgrow; clear hown' hgrow hat'))
          have hp := begun_done HT.out HR.out H1.out H2.out H3.out HH.out (fun S => ((Keeps.refl S wr).alloc _).drew.drew) HQ1.out HQ2.out HQ3.out
          obtain ⟨w4, hw4⟩ : ∃ w4, w4 = w3.setCell ⟨g, 27, none⟩ (.slice (some ⟨g2, 0, none⟩) (t.ans.length + 1) cap2) := ⟨_, rfl⟩
          rw [← hw4]
          rw [← hw4] at hp
          have hp4 := step_to hp.1 HK.out hp.2 HB.out HF.out
          have HT4 := Lib.hid hp4.1
          have HK4 := Lib.hid hp4.2
          have HB4 := Lib.hid (Nat.le_trans HB.out hp4.2.size)
          clear hp hp4 hw4 HQ1 HQ2 HQ3 HN1 HN2 HN3 HN4 HN5 HN6 HN7 H1 H2 H3 HT HK HR c27 d27 q0 q1 q27 q28 f27
          obtain ⟨x, hx⟩ : ∃ x, t.begun.ins = x := ⟨_, rfl⟩
          have HX := Lib.hid hx
          clear hx
          refine (next_is B g _ _ _ HT4.out (by rw [(begun_call t).1, (begun_call t).2.1]; exact Nat.lt_of_not_le HC.out) x HX.out).mono ?_
          rintro e w5 ⟨rfl, hk5⟩
          have HK5 := Lib.hid hk5
          clear hk5
          go_wp2_with fail
          obtain ⟨w6, hw6, ks6, c6⟩ := enter_box w5 #[.int .i64 (x.op : Int), .int .i64 (x.on : Int), .int .i64 (x.a : Int), .int .i64 (x.b : Int), .int .i64 (x.c : Int), .int .i64 (x.d : Int), .int .u64 (x.n : Int)] 114
          rw [← hw6]
          have hp6 := tinv_on HT4.out (fun S => (HK5.out S).trans (ks6 S)) HK4.out HB.out HF.out
          have e0 : w6.cell? ⟨w5.heap.size, 0, none⟩ = some (.int .i64 (x.op : Int)) := c6 0
          have e1 : w6.cell? ⟨w5.heap.size, 1, none⟩ = some (.int .i64 (x.on : Int)) := c6 1
          have e2 : w6.cell? ⟨w5.heap.size, 2, none⟩ = some (.int .i64 (x.a : Int)) := c6 2
          have e3 : w6.cell? ⟨w5.heap.size, 3, none⟩ = some (.int .i64 (x.b : Int)) := c6 3
          have e4 : w6.cell? ⟨w5.heap.size, 4, none⟩ = some (.int .i64 (x.c : Int)) := c6 4
          have e5 : w6.cell? ⟨w5.heap.size, 5, none⟩ = some (.int .i64 (x.d : Int)) := c6 5
          have e6 : w6.cell? ⟨w5.heap.size, 6, none⟩ = some (.int .u64 (x.n : Int)) := c6 6
          have HT6 := Lib.hid hp6.1
          have HK6 := Lib.hid hp6.2
          have HB6 : Hid (B ≤ w6.heap.size) := Lib.hid (Nat.le_trans HB.out hp6.2.size)
          have HO' := HO.out
          rw [HX.out] at HO'
          clear hw6 ks6 c6 hp6 HT4 HK4 HB4 HK5 HO
          by_cases hop : isOp x = true
          · rw [if_pos hop] at HO'
            obtain rfl : t.begun = t' := by injection HO'
            have hop' : 1 ≤ x.op ∧ x.op ≤ 5 := by simpa [isOp] using hop
            refine (told_yes x.op _ hop'.1 hop'.2).mono ?_
            rintro e w7 ⟨rfl, rfl⟩
            clear hop hop' HO'
            go_wp2
            go_end0
            exact ⟨rfl, HT6.out, HK6.out⟩
          · rw [if_neg hop] at HO'
            have hop' : ¬ (1 ≤ x.op ∧ x.op ≤ 5) := by simpa [isOp] using hop
            refine (told_no x.op _ hop').mono ?_
            rintro e w7 ⟨rfl, rfl⟩
            clear hop hop'
            by_cases h23 : x.op = 23
            · rw [if_pos h23] at HO'
              have hd : (((x.op : Nat) : Int) == 23) = true := by rw [h23]; rfl
              obtain ⟨cv6, v6, tvs6, a1, a2, a3⟩ := HT6.out.at_
              have hbl := begun_len2 HW.out
              obtain ⟨A6, cap6, cs6, rfl, hA1, hA2, hA3, hA4, hA5, hA6⟩ := a3.blk (by omega)
              have hm6 : t.begun.call < t.begun.ans.length := by omega
              have q1 : w6.cell? ⟨g, 1, none⟩ = some (.int .i64 (t.begun.call : Int)) := a1.call
              have q2 : w6.cell? ⟨g, 2, none⟩ = some (.int .i64 (t.begun.at_ : Int)) := a1.at_
              have q27 : w6.cell? ⟨g, 27, none⟩ = some (.slice (some ⟨A6, 0, none⟩) t.begun.ans.length cap6) := a1.ans
              have qA : w6.cell? ⟨A6, t.begun.call * 2, none⟩ = some (.bool (t.begun.ans.getD t.begun.call (false, [])).1) := by
                rw [hA2.cell, ← (flat_at _ _ _ _ _ (getD_of hm6) (getD_of (d := .bool false) (by rw [a3.len]; exact hm6))).1, ← hA6, List.getElem?_take, if_pos (by omega)]
              have fA : w6.frozen? ⟨A6, t.begun.call * 2, none⟩ = false := hA2.frozen _
              have f1 := a1.frozen 1
              have f2 := a1.frozen 2
              have hne : A6 ≠ g := (a3.foot A6 rfl).2
              have hsm : t.begun.call < 1000000 := by rw [(begun_call t).1]; have := HC.out; have := HW.out.calls; omega
              have HTH := Lib.hid (show ((((w6.setCell ⟨A6, t.begun.call * 2, none⟩ (.bool true)).setCell ⟨g, 1, none⟩ (.int .i64 ((t.begun.call : Int) + 1))).setCell ⟨g, 2, none⟩ (.int .i64 0))).drew.there g 3 24 from
                (((a1.keeps ((Keeps.refl (· = A6) w6).setCell (p := ⟨A6, t.begun.call * 2, none⟩) (.inl rfl) _) (fun e => hne e.symm)).setCall (t.begun.call + 1)).goto 0).drew.there)
              have A1 := Lib.hid a1
              have A2 := Lib.hid a2
              have A3 := Lib.hid a3
              have HL := Lib.hid hbl
              have HO2 := Lib.hid HO'
              have H23 := Lib.hid h23
              clear a1 a2 a3 hbl hA1 hA2 hA3 hA4 hA5 hA6 HO' h23
              go_wp2
              go_region
              go_upto_region 11 with (fail)
              go_wp2_with ((with_reducible show wpList _ _ _ (_ :: []) _ _); refine wpList_store_mid rfl 104 (.tmp 75) (.tmp 73) rfl g 3 (Array.replicate 24 (.int .u64 0)) ?a1 ?a2 ?a3 ?a4 ?a5 ?_)
              case a1 => rfl
              case a2 => rfl
              case a3 => exact HTH.out
              case a4 => kernel_rfl
              case a5 => kernel_rfl
              have hf := finish_done (w' := ((((w6.setCell ⟨A6, t.begun.call * 2, none⟩ (.bool true)).setCell ⟨g, 1, none⟩ (.int .i64 ((t.begun.call : Int) + 1))).setCell ⟨g, 2, none⟩ (.int .i64 0)).drew.setCells g 3 (List.replicate 24 (.int .u64 0)))) HT6.out HB6.out A1.out A2.out A3.out HL.out rfl
              go_roundg k
              case rel =>
                have e24 : (Array.replicate 24 (Value.int .u64 0)).toList = List.replicate 24 (Value.int .u64 0) := by simp
                rw [e24]
                exact ⟨t.begun.finish, HO2.out, step_to hf.1 HK6.out hf.2 HB.out HF.out⟩
              case measure => omega
            · rw [if_neg h23] at HO'
              have hd : (((x.op : Nat) : Int) == 23) = false := by simpa using (fun e => h23 (Int.ofNat.inj e))
              cases how : t.begun.own with
              | none => rw [how] at HO'; cases HO'
              | some t2 =>
                rw [how] at HO'
                have HO2 := Lib.hid HO'
                have H23 := Lib.hid h23
                have HOW := Lib.hid how
                clear HO' h23 how
                go_wp2_with fail
                refine (own_is B g P _ t.begun t2 _ HT6.out HB6.out (begun_len2 HW.out) x HX.out H23.out HOW.out).mono ?_
                rintro e w7 hpo
                have HPO := Lib.hid hpo
                clear hpo
                obtain ⟨rfl, _⟩ := HPO.out
                go_wp2_with fail
                go_roundg k
                case rel =>
                  exact ⟨t2, HO2.out, step_to HPO.out.2.1 HK6.out HPO.out.2.2 HB.out HF.out⟩
                case measure => omega
        · have hbd : (((t.ans.length : Nat) : Int) == ((t.call : Nat) : Int)) = false := by simpa using (fun e => hb (Int.ofNat.inj e))
          have HH := Lib.hid hb
          have HT := Lib.hid hT
          have HK := Lib.hid hK
          have HR := Lib.hid hBr
          have HW := Lib.hid hwf
          have HO := Lib.hid ho
          have HC := Lib.hid hcl
          clear hT hK ho h1 h2 h3 hcs hov hBr hb hwf hcl HN1 HN2 HN3 HN4 HN5 HN6 HN7
          go_wp2
          go_region
          go_wp2
          go_region
          go_wp2_with fail
          obtain ⟨w4, hw4⟩ : ∃ w4, w4 = wr.drew.drew := ⟨_, rfl⟩
          rw [← hw4]
          have hp4 := tinv_on (w6 := w4) (begun_same HT.out HH.out) (fun S => by rw [hw4]; exact (Keeps.refl S wr).drew.drew) HK.out HB.out HF.out
          have HT4 := Lib.hid hp4.1
          have HK4 := Lib.hid hp4.2
          have HB4 := Lib.hid (Nat.le_trans HB.out hp4.2.size)
          clear hp4 hw4 HT HK HR q0 q1 q27 q28 f27
          obtain ⟨x, hx⟩ : ∃ x, t.begun.ins = x := ⟨_, rfl⟩
          have HX := Lib.hid hx
          clear hx
          refine (next_is B g _ _ _ HT4.out (by rw [(begun_call t).1, (begun_call t).2.1]; exact Nat.lt_of_not_le HC.out) x HX.out).mono ?_
          rintro e w5 ⟨rfl, hk5⟩
          have HK5 := Lib.hid hk5
          clear hk5
          go_wp2_with fail
          obtain ⟨w6, hw6, ks6, c6⟩ := enter_box w5 #[.int .i64 (x.op : Int), .int .i64 (x.on : Int), .int .i64 (x.a : Int), .int .i64 (x.b : Int), .int .i64 (x.c : Int), .int .i64 (x.d : Int), .int .u64 (x.n : Int)] 114
          rw [← hw6]
          have hp6 := tinv_on HT4.out (fun S => (HK5.out S).trans (ks6 S)) HK4.out HB.out HF.out
          have e0 : w6.cell? ⟨w5.heap.size, 0, none⟩ = some (.int .i64 (x.op : Int)) := c6 0
          have e1 : w6.cell? ⟨w5.heap.size, 1, none⟩ = some (.int .i64 (x.on : Int)) := c6 1
          have e2 : w6.cell? ⟨w5.heap.size, 2, none⟩ = some (.int .i64 (x.a : Int)) := c6 2
          have e3 : w6.cell? ⟨w5.heap.size, 3, none⟩ = some (.int .i64 (x.b : Int)) := c6 3
          have e4 : w6.cell? ⟨w5.heap.size, 4, none⟩ = some (.int .i64 (x.c : Int)) := c6 4
          have e5 : w6.cell? ⟨w5.heap.size, 5, none⟩ = some (.int .i64 (x.d : Int)) := c6 5
          have e6 : w6.cell? ⟨w5.heap.size, 6, none⟩ = some (.int .u64 (x.n : Int)) := c6 6
          have HT6 := Lib.hid hp6.1
          have HK6 := Lib.hid hp6.2
          have HB6 : Hid (B ≤ w6.heap.size) := Lib.hid (Nat.le_trans HB.out hp6.2.size)
          have HO' := HO.out
          rw [HX.out] at HO'
          clear hw6 ks6 c6 hp6 HT4 HK4 HB4 HK5 HO
          by_cases hop : isOp x = true
          · rw [if_pos hop] at HO'
            obtain rfl : t.begun = t' := by injection HO'
            have hop' : 1 ≤ x.op ∧ x.op ≤ 5 := by simpa [isOp] using hop
            refine (told_yes x.op _ hop'.1 hop'.2).mono ?_
            rintro e w7 ⟨rfl, rfl⟩
            clear hop hop' HO'
            go_wp2
            go_end0
            exact ⟨rfl, HT6.out, HK6.out⟩
          · rw [if_neg hop] at HO'
            have hop' : ¬ (1 ≤ x.op ∧ x.op ≤ 5) := by simpa [isOp] using hop
            refine (told_no x.op _ hop').mono ?_
            rintro e w7 ⟨rfl, rfl⟩
            clear hop hop'
            by_cases h23 : x.op = 23
            · rw [if_pos h23] at HO'
              have hd : (((x.op : Nat) : Int) == 23) = true := by rw [h23]; rfl
              obtain ⟨cv6, v6, tvs6, a1, a2, a3⟩ := HT6.out.at_
              have hbl := begun_len2 HW.out
              obtain ⟨A6, cap6, cs6, rfl, hA1, hA2, hA3, hA4, hA5, hA6⟩ := a3.blk (by omega)
              have hm6 : t.begun.call < t.begun.ans.length := by omega
              have q1 : w6.cell? ⟨g, 1, none⟩ = some (.int .i64 (t.begun.call : Int)) := a1.call
              have q2 : w6.cell? ⟨g, 2, none⟩ = some (.int .i64 (t.begun.at_ : Int)) := a1.at_
              have q27 : w6.cell? ⟨g, 27, none⟩ = some (.slice (some ⟨A6, 0, none⟩) t.begun.ans.length cap6) := a1.ans
              have qA : w6.cell? ⟨A6, t.begun.call * 2, none⟩ = some (.bool (t.begun.ans.getD t.begun.call (false, [])).1) := by
                rw [hA2.cell, ← (flat_at _ _ _ _ _ (getD_of hm6) (getD_of (d := .bool false) (by rw [a3.len]; exact hm6))).1, ← hA6, List.getElem?_take, if_pos (by omega)]
              have fA : w6.frozen? ⟨A6, t.begun.call * 2, none⟩ = false := hA2.frozen _
              have f1 := a1.frozen 1
              have f2 := a1.frozen 2
              have hne : A6 ≠ g := (a3.foot A6 rfl).2
              have hsm : t.begun.call < 1000000 := by rw [(begun_call t).1]; have := HC.out; have := HW.out.calls; omega
              have HTH := Lib.hid (show ((((w6.setCell ⟨A6, t.begun.call * 2, none⟩ (.bool true)).setCell ⟨g, 1, none⟩ (.int .i64 ((t.begun.call : Int) + 1))).setCell ⟨g, 2, none⟩ (.int .i64 0))).drew.there g 3 24 from
                (((a1.keeps ((Keeps.refl (· = A6) w6).setCell (p := ⟨A6, t.begun.call * 2, none⟩) (.inl rfl) _) (fun e => hne e.symm)).setCall (t.begun.call + 1)).goto 0).drew.there)
              have A1 := Lib.hid a1
              have A2 := Lib.hid a2
              have A3 := Lib.hid a3
              have HL := Lib.hid hbl
              have HO2 := Lib.hid HO'
              have H23 := Lib.hid h23
              clear a1 a2 a3 hbl hA1 hA2 hA3 hA4 hA5 hA6 HO' h23
              go_wp2
              go_region
              go_upto_region 11 with (fail)
              go_wp2_with ((with_reducible show wpList _ _ _ (_ :: []) _ _); refine wpList_store_mid rfl 104 (.tmp 75) (.tmp 73) rfl g 3 (Array.replicate 24 (.int .u64 0)) ?a1 ?a2 ?a3 ?a4 ?a5 ?_)
              case a1 => rfl
              case a2 => rfl
              case a3 => exact HTH.out
              case a4 => kernel_rfl
              case a5 => kernel_rfl
              have hf := finish_done (w' := ((((w6.setCell ⟨A6, t.begun.call * 2, none⟩ (.bool true)).setCell ⟨g, 1, none⟩ (.int .i64 ((t.begun.call : Int) + 1))).setCell ⟨g, 2, none⟩ (.int .i64 0)).drew.setCells g 3 (List.replicate 24 (.int .u64 0)))) HT6.out HB6.out A1.out A2.out A3.out HL.out rfl
              go_roundg k
              case rel =>
                have e24 : (Array.replicate 24 (Value.int .u64 0)).toList = List.replicate 24 (Value.int .u64 0) := by simp
                rw [e24]
                exact ⟨t.begun.finish, HO2.out, step_to hf.1 HK6.out hf.2 HB.out HF.out⟩
              case measure => omega
            · rw [if_neg h23] at HO'
              have hd : (((x.op : Nat) : Int) == 23) = false := by simpa using (fun e => h23 (Int.ofNat.inj e))
              cases how : t.begun.own with
              | none => rw [how] at HO'; cases HO'
              | some t2 =>
                rw [how] at HO'
                have HO2 := Lib.hid HO'
                have H23 := Lib.hid h23
                have HOW := Lib.hid how
                clear HO' h23 how
                go_wp2_with fail
                refine (own_is B g P _ t.begun t2 _ HT6.out HB6.out (begun_len2 HW.out) x HX.out H23.out HOW.out).mono ?_
                rintro e w7 hpo
                have HPO := Lib.hid hpo
                clear hpo
                obtain ⟨rfl, _⟩ := HPO.out
                go_wp2_with fail
                go_roundg k
                case rel =>
                  exact ⟨t2, HO2.out, step_to HPO.out.2.1 HK6.out HPO.out.2.2 HB.out HF.out⟩
                case measure => omega
end Go.Proofs.Ytgenblefbddilaa.mz
