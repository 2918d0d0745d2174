/-
  What a play leaves, told so that it can be read.
-/
import Derived.Test.YtebjmmckejbklaaMzBase
import Derived.Test.YtebjmmckejbklaaMzS
namespace Go.Proofs.Ytebjmmckejbklaa.mz
open Go.RowKit Go.Proofs.Ytebjmmckejbklaa.oc
def IsTrace (w : World) (B : Nat) (v : Value) (tr : List (Nat × Nat × Nat)) : Prop := ∃ A cap, v = .slice A tr.length cap ∧ Rd w B A (flat3 tr)
/-- the values that stand for what was told: f -/
def vals (n : Nat) (f : Nat → Value) : List Value := (List.range n).map f
def IsAnswers (w : World) (B : Nat) (v : Value) (l : List (Bool × List Nat)) (f : Nat → Value) : Prop :=
  ∃ A cap, v = .slice A l.length cap ∧ Rd w B A (flat l (vals l.length f)) ∧ ∀ (i : Nat) (a : Bool × List Nat), l[i]? = some a → IsData w B (f i) a.2
def IsOut (w : World) (B : Nat) (v : Value) (outs : List (List (Bool × List Nat))) (f : Nat → Nat → Value) : Prop :=
  ∃ A cap, v = .slice A outs.length cap ∧ ∀ (k : Nat) (l : List (Bool × List Nat)), outs[k]? = some l → ∃ b o av, A = some ⟨b, o, none⟩ ∧ b < B ∧ w.cell? ⟨b, o + k, none⟩ = some av ∧ IsAnswers w B av l (f k)
theorem vals_of {tvs : List Value} {n : Nat} (h : tvs.length = n) : vals n (fun i => tvs.getD i (.bool false)) = tvs := by
  subst h
  apply List.ext_getElem?
  intro i
  unfold vals
  rw [List.getElem?_map]
  rcases Nat.lt_or_ge i tvs.length with q | q
  · rw [List.getElem?_range q, Option.map_some, List.getD_eq_getElem?_getD, List.getElem?_eq_getElem q]; rfl
  · rw [List.getElem?_eq_none q, List.getElem?_eq_none (by simpa using q)]; rfl
theorem vals_at {n i : Nat} (f : Nat → Value) (h : i < n) : (vals n f)[i]? = some (f i) := by
  unfold vals
  rw [List.getElem?_map, List.getElem?_range h]; rfl
theorem vals_len (n : Nat) (f : Nat → Value) : (vals n f).length = n := by simp [vals]
theorem data_of_row {w : World} {base : Nat} {v : Value} {l : List Nat} (h : w.ownsRow base 38 1 v l.length (u64s l)) : IsData w w.heap.size v l := by
  obtain ⟨A, c, e, hr⟩ := rd_of_row h
  exact ⟨A, c, e, hr⟩
theorem Rd.lift {S : Nat → Prop} {w w' : World} {B B' : Nat} {A : Option Addr} {xs : List Value} (h : Rd w B A xs) (k : Keeps S w w') (hs : ∀ b, ¬ S b) (hB : B ≤ B') : Rd w' B' A xs := fun j u hu => by
  obtain ⟨b, o, e, hb, hc⟩ := h j u hu
  exact ⟨b, o, e, by omega, cell_keeps k hc (hs b)⟩
theorem IsData.lift {S : Nat → Prop} {w w' : World} {B B' : Nat} {v : Value} {l : List Nat} (h : IsData w B v l) (k : Keeps S w w') (hs : ∀ b, ¬ S b) (hB : B ≤ B') : IsData w' B' v l := by
  obtain ⟨A, c, e, hr⟩ := h
  exact ⟨A, c, e, Rd.lift hr k hs hB⟩
theorem IsTrace.lift {S : Nat → Prop} {w w' : World} {B B' : Nat} {v : Value} {l : List (Nat × Nat × Nat)} (h : IsTrace w B v l) (k : Keeps S w w') (hs : ∀ b, ¬ S b) (hB : B ≤ B') : IsTrace w' B' v l := by
  obtain ⟨A, c, e, hr⟩ := h
  exact ⟨A, c, e, Rd.lift hr k hs hB⟩
theorem IsWords.lift {S : Nat → Prop} {w w' : World} {B B' : Nat} {v : Value} {ws : List (List Nat)} (h : IsWords w B v ws) (k : Keeps S w w') (hs : ∀ b, ¬ S b) (hB : B ≤ B') : IsWords w' B' v ws := by
  obtain ⟨A, cap, e, f⟩ := h
  refine ⟨A, cap, e, fun i l hl => ?_⟩
  obtain ⟨b, o, A', c', e1, hb, h1, h2⟩ := f i l hl
  exact ⟨b, o, A', c', e1, by omega, cell_keeps k h1 (hs b), Rd.lift h2 k hs hB⟩
theorem IsLists.lift {S : Nat → Prop} {w w' : World} {B B' : Nat} {v : Value} {m : Nat} (h : IsLists w B v m) (k : Keeps S w w') (hs : ∀ b, ¬ S b) (hB : B ≤ B') : IsLists w' B' v m := by
  obtain ⟨A, cap, e, f⟩ := h
  refine ⟨A, cap, e, fun i hi => ?_⟩
  obtain ⟨b, o, e1, hb, h1⟩ := f i hi
  exact ⟨b, o, e1, by omega, cell_keeps k h1 (hs b)⟩
theorem answers_of {w w' : World} {B g : Nat} {t : Th} {F S : Nat → Prop} (h : TInv w B g t F) (_ : Keeps S w w') (_ : ∀ b, F b → ¬ S b) : ∃ A c, w.cell? ⟨g, 27, none⟩ = some (.slice A t.ans.length c) ∧ True := by
  obtain ⟨cv, v, tvs, h1, h2, h3⟩ := h.at_
  obtain ⟨A, c, e, hr⟩ := rd_of_row h3.row
  subst e
  exact ⟨A, c, h1.ans, trivial⟩
theorem words_of {w : World} {B p : Nat} {ws : List (List Nat)} {F : Nat → Prop} (h : WInv w B p ws F) : ∃ A c A2 c2 m, Blk w p 32 [.slice A ws.length c, .slice A2 m c2] ∧ IsWords w w.heap.size (.slice A ws.length c) ws ∧ IsLists w w.heap.size (.slice A2 m c2) m ∧ m < 1000000 := by
  obtain ⟨wv, lv, vs, h1, h2, h3, h4, h5, h6, A2, c2, m, rfl, hm, hf⟩ := h.at_
  obtain ⟨A, c, e, hr⟩ := rd_of_row h2
  subst e
  have hvl : vs.length = ws.length := by have := h2.1; omega
  refine ⟨A, c, A2, c2, m, h1, ⟨A, c, rfl, fun i l hl => ?_⟩, ⟨A2, c2, rfl, fun i hi => ?_⟩, hm⟩
  · have hi : i < vs.length := by rw [hvl]; exact (List.getElem?_eq_some_iff.1 hl).1
    have hv := List.getElem?_eq_getElem hi
    obtain ⟨b, o, e1, hb, hc⟩ := hr i _ hv
    obtain ⟨A', c', e2, hr'⟩ := rd_of_row (h3 i _ l hv hl)
    rw [e2] at hc
    exact ⟨b, o, A', c', e1, hb, hc, hr'⟩
  · obtain ⟨b, e1, _, hc⟩ := hf i hi
    exact ⟨b, 0, e1, World.block_lt_of_cell? w _ hc, by rw [Nat.zero_add]; exact hc⟩
/-- what can be read behind Play, in w' and wherever what Play made still stands -/
def PlayReads (w0 w' : World) (pl : Pl) (tv ov wv lv : Value) (m : Nat) (f : Nat → Nat → Value) : Prop :=
  ∀ w'', Keeps (fun b => b < w0.heap.size + 3) w' w'' → IsTrace w'' w''.heap.size tv pl.trace ∧ IsOut w'' w''.heap.size ov (pl.ths.map (·.ans)) f ∧ IsWords w'' w''.heap.size wv pl.ws ∧ IsLists w'' w''.heap.size lv m
/-- what Play answers -/
def PlayPost (w0 : World) (pl : Pl) (e : Ending) (w' : World) : Prop :=
  ∃ tA tc oA oc A c A2 c2 m f, e = .returned (.tuple #[.agg #[.slice tA pl.trace.length tc, .slice none 0 0], .slice oA pl.ths.length oc, .agg #[.slice A pl.ws.length c, .slice A2 m c2]]) ∧ m < 1000000 ∧
    PlayReads w0 w' pl (.slice tA pl.trace.length tc) (.slice oA pl.ths.length oc) (.slice A pl.ws.length c) (.slice A2 m c2) m f ∧ ∀ S, Keeps S w0 w'
/-- what a round of the last loop finds: the answers of k threads -/
def Outs (wE : World) (gs : List Nat) (k : Nat) (l : Value) (wr : World) : Prop :=
  ∃ oA oc avs, l = .slice oA k oc ∧ wr.ownsRow wE.heap.size 92 1 l k avs ∧ (∀ (i : Nat) (av : Value), avs[i]? = some av → ∃ g, gs[i]? = some g ∧ wE.cell? ⟨g, 27, none⟩ = some av) ∧ Keeps (fun _ => False) wE wr
theorem outs_round {wE wr w9 : World} {gs : List Nat} {k g oc nn : Nat} {oA : Option Addr} {avs : List Value} {av v2 : Value} {o : Obj} (hr0 : wr.ownsRow wE.heap.size 92 1 (.slice oA k oc) k avs) (hA : ∀ (i : Nat) (av : Value), avs[i]? = some av → ∃ g, gs[i]? = some g ∧ wE.cell? ⟨g, 27, none⟩ = some av) (hK : Keeps (fun _ => False) wE wr)
    (hg : gs[k]? = some g) (hav : wE.cell? ⟨g, 27, none⟩ = some av) (hgr : (wr.alloc o).grownBy w9 (Value.slice oA k oc).ownBlock) (hr : w9.ownsRow wE.heap.size 92 1 v2 nn (avs ++ [av])) (hn : nn = k + 1) (hv : ∃ A c, v2 = .slice A nn c) : Outs wE gs (k + 1) v2 w9 := by
  subst hn
  obtain ⟨A, c, rfl⟩ := hv
  have hl : avs.length = k := by have := hr0.1; omega
  refine ⟨A, c, avs ++ [av], rfl, hr, fun i u hu => ?_, ?_⟩
  · rcases Nat.lt_or_ge i avs.length with q | q
    · rw [List.getElem?_append_left q] at hu; exact hA i u hu
    · rw [List.getElem?_append_right q] at hu
      rcases Nat.eq_zero_or_pos (i - avs.length) with e | e
      · rw [e] at hu; simp at hu; subst hu
        exact ⟨g, by rw [show i = k from by omega]; exact hg, hav⟩
      · rw [List.getElem?_eq_none (by simp; omega)] at hu; cases hu
  · have k9 : Keeps (fun b => (Value.slice oA k oc).ownBlock = some b) wr w9 := ((Keeps.refl _ wr).alloc o).trans ⟨hgr.size, fun b hb hs => hgr.block b hb (fun e => hs e.symm), ⟨hgr.os, hgr.tape, hgr.output⟩⟩
    refine ⟨Nat.le_trans hK.size k9.size, fun b hb z => ?_, (hK.same).trans (k9.same)⟩
    rw [k9.block b (Nat.lt_of_lt_of_le hb hK.size) (fun q => by have := (hr0.lt b q).1; omega), hK.block b hb z]
theorem play_end {w wa wc wE wr : World} {B p P N lc R6 R8 : Nat} {FW : Nat → Prop} {gs : List Nat} {lA : Option Addr} {pl : Pl} {l : Value} (ka : ∀ S, Keeps S w wa) (hsz : wa.heap.size = w.heap.size + 3) (hBa : B = wa.heap.size) (hP : Playing wa wc B p P FW gs lA lc N wE pl) (hO : Outs wE gs N l wr) (h6 : R6 = w.heap.size + 1) (h8 : R8 = w.heap.size + 1 + 1) :
    ∃ tA tc oA oc A c A2 c2 m, Blk wr P 80 [.slice tA pl.trace.length tc, .slice none 0 0] ∧ Blk wr p 32 [.slice A pl.ws.length c, .slice A2 m c2] ∧ l = .slice oA pl.ths.length oc ∧
      ∀ w', Keeps (fun b => b = R6 ∨ b = R8) wr w' → PlayPost w pl (.returned (.tuple #[.agg #[.slice tA pl.trace.length tc, .slice none 0 0], .slice oA pl.ths.length oc, .agg #[.slice A pl.ws.length c, .slice A2 m c2]])) w' := by
  obtain ⟨Fs, tA, tc, h1, h2, h3, h4, h5, hK⟩ := hP
  obtain ⟨oA, oc, avs, rfl, hr, hA, hKE⟩ := hO
  have hs6 : ∀ b, wa.heap.size ≤ b → ¬ (b < w.heap.size + 3) := fun b hb => by omega
  have hwE : wa.heap.size ≤ wE.heap.size := hK.size
  have hF : ∀ b, Any Fs FW b → ¬ (b < w.heap.size + 3) := fun b hb => hs6 b (by have := (h1.below hb).1; omega)
  obtain ⟨A, c, A2, c2, m, hbE, _, _, hmm⟩ := words_of h1.wd
  have hbp : Blk wr p 32 [.slice A pl.ws.length c, .slice A2 m c2] := Blk.keeps hbE hKE (fun z => z)
  have hch : ∀ k : Nat, ∃ f : Nat → Value, ∀ t, pl.ths[k]? = some t → ∃ g F v, gs[k]? = some g ∧ Fs[k]? = some F ∧ wE.cell? ⟨g, 27, none⟩ = some v ∧ Ans wE B g F v t.ans (vals t.ans.length f) := fun k => by
    cases ht : pl.ths[k]? with
    | none => exact ⟨fun _ => .bool false, fun t h => by cases h⟩
    | some t =>
      obtain ⟨g, F, q1, q2, q3⟩ := h1.get ht
      obtain ⟨cv, v, tvs, a1, a2, a3⟩ := q3.at_
      refine ⟨fun i => tvs.getD i (.bool false), fun t' h => ?_⟩
      cases h
      exact ⟨g, F, v, q1, q2, a1.ans, by rw [vals_of a3.len]; exact a3⟩
  obtain ⟨f, hf⟩ := Classical.axiomOfChoice hch
  refine ⟨tA, tc, oA, oc, A, c, A2, c2, m, Blk.keeps h4.1 hKE (fun z => z), hbp, by rw [h2], fun w' kR => ?_⟩
  refine ⟨tA, tc, oA, oc, A, c, A2, c2, m, f, rfl, hmm, fun w'' kk => ?_, fun S => ?_⟩
  · -- what is read lies behind wa
    have k' : Keeps (fun b => b < w.heap.size + 3) wr w'' := (kR.mono fun b _ z => by omega).trans kk
    have kE : Keeps (fun b => b < w.heap.size + 3) wE w'' := (hKE.mono fun _ _ z => z.elim).trans k'
    obtain ⟨A_, c_, A2_, c2_, m_, hb_, hw, hl, hm⟩ := words_of (h1.wd.keeps kE (fun b hb => hF b (.inr hb)))
    have hbp' := Blk.keeps hbp k' (hF p (.inr h1.wd.me))
    unfold Blk at hbp' hb_
    rw [hbp'] at hb_
    simp at hb_
    obtain ⟨⟨rfl, rfl⟩, rfl, rfl, rfl⟩ := hb_
    have ht := owns_keeps h5.1 kE (fun b hb => hs6 b (by have := (h5.1.lt b hb).1; have := h4.2.2; omega))
    obtain ⟨tA', tc', et, htr⟩ := rd_of_row ht
    injection et with e1 e2 e3
    subst e1; subst e3
    have hro := owns_keeps hr k' (fun b hb => hs6 b (by have := (hr.lt b hb).1; omega))
    obtain ⟨oA', oc', eo, hor⟩ := rd_of_row hro
    injection eo with e1 e2 e3
    subst e1; subst e3
    have hal : avs.length = N := by have := hr.1; omega
    refine ⟨⟨tA, tc, rfl, htr⟩, ⟨oA, oc, by simp, fun k l hl => ?_⟩, hw, hl⟩
    rw [List.getElem?_map, Option.map_eq_some_iff] at hl
    obtain ⟨t, ht', rfl⟩ := hl
    have hk : k < avs.length := by rw [hal, ← h2]; exact (List.getElem?_eq_some_iff.1 ht').1
    have hav := List.getElem?_eq_getElem hk
    obtain ⟨b, o, e1, hb1, hc1⟩ := hor k _ hav
    obtain ⟨g, hg, hce⟩ := hA k _ hav
    obtain ⟨g', F, v, q1, q2, q3, q4⟩ := hf k t ht'
    rw [hg] at q1; cases q1
    rw [hce] at q3
    injection q3 with q3
    have q5 := q4.keeps kE (fun b hb _ => hF b (.inl ⟨k, F, q2, hb⟩))
    obtain ⟨A3, c3, e3, hr3⟩ := rd_of_row q5.row
    refine ⟨b, o, _, e1, hb1, hc1, A3, c3, by rw [q3, e3], hr3, fun i a hi => ?_⟩
    exact data_of_row (q5.own i _ a (vals_at _ (List.getElem?_eq_some_iff.1 hi).1) hi)
  · have kE : Keeps (fun b => b = R6 ∨ b = R8) wE w' := (hKE.mono fun _ _ z => z.elim).trans kR
    refine ⟨Nat.le_trans (ka S).size (Nat.le_trans hK.size kE.size), fun b hb z => ?_, ((ka S).same).trans ((hK.same).trans (kE.same))⟩
    rw [kE.block b (by omega) (by omega), hK.block b (by omega) (fun q => q), (ka S).block b hb z]
end Go.Proofs.Ytebjmmckejbklaa.mz
