/-
  CopyWords, and Copy of a world whose silent lists are empty. Copy of a world whose silent lists are empty.
-/
import Derived.Test.YtgenblefbddilaaMzW
import Derived.Test.YtgenblefbddilaaMzC
import Derived.Test.YtgenblefbddilaaMzApp
import Derived.Test.YtgenblefbddilaaProg
import Derived.Deep.RegionLaw
import Derived.Deep.LoopGhost
import Derived.Outline
import Derived.RegionTactic
import Derived.BigRegion
import Derived.BigQuiet
import Derived.Lib.Hide
namespace Go.Proofs.Ytgenblefbddilaa.mz
open Go.RowKit Go.Proofs.Ytgenblefbddilaa.oc
theorem u64_info' : (Try.prog.info? 22).map (fun i => (i.zero, i.size, i.bytes)) = some (some (.int .u64 0), 1, 8) := by kernel_rfl
set_option maxHeartbeats 400000 in
theorem copyWords (B : Nat) (A : Option Addr) (c : Nat) (l : List Nat) (w : World) (h : Rd w B A (u64s l)) (hl : l.length < 1000000) :
    Calls Try.prog 46 #[.slice A l.length c] w fun e w' => ∃ A' c', e = .returned (.slice A' l.length c') ∧ w'.ownsRow w.heap.size 22 1 (.slice A' l.length c') l.length (u64s l) ∧ w.grownBy w' none := by
  obtain ⟨i0, hi0, hz0, hz1, hz2⟩ := info_parts u64_info'
  have H := Lib.hid h
  have H1 : Hid (l.length < 1000000) := Lib.hid hl
  clear h hl
  go_enter Try.func46, Try.ntmps46
  go_wp2_with ((at_builtin; refine wpList_app rfl _ _ 40 rfl w.heap.size 22 i0 _ 8 Try.underlying40 hi0 hz0 hz1 hz2 rfl (.slice none 0 0) 0 [] rfl (World.ownsRow_nil _ _ _ _) B A l.length c (u64s l) rfl H.out (by simp [u64s]) (u64_one _) (by have := H1.out; omega) (by have := H1.out; omega) (Nat.le_refl _) ?_; intro v' w' hown hg hat))
  have HO := Lib.hid hown
  have HG := Lib.hid hg
  clear hown hg hat
  go_wp2
  go_ret
  have ho := HO.out
  simp only [Nat.zero_add, List.nil_append] at ho
  rcases ho.2 with ⟨e1, e2⟩ | ⟨gg, cc, cur, e1, _⟩
  · refine ⟨none, 0, by rw [e1, e2]; rfl, ?_, HG.out⟩
    rw [e1] at ho
    rw [e2] at ho ⊢
    exact ho
  · exact ⟨some ⟨gg, 0, none⟩, cc, by rw [e1]; rfl, by rw [← e1]; exact ho, HG.out⟩
theorem owns_base {w : World} {base base' : Nat} {e : TypeId} {size : Nat} {v : Value} {n : Nat} {xs : List Value} (h : w.ownsRow base e size v n xs) (hb : base' ≤ base) : w.ownsRow base' e size v n xs := by
  refine ⟨h.1, ?_⟩
  rcases h.2 with q | ⟨g, cap, cur, e, h1, r⟩
  · exact .inl q
  · exact .inr ⟨g, cap, cur, e, Nat.le_trans hb h1, r⟩
/-- words that came in -/
def IsWords (w : World) (B : Nat) (v : Value) (ws : List (List Nat)) : Prop :=
  ∃ A cap, v = .slice A ws.length cap ∧ ∀ i l, ws[i]? = some l → ∃ b o A' c', A = some ⟨b, o, none⟩ ∧ b < B ∧ w.cell? ⟨b, o + i, none⟩ = some (.slice A' l.length c') ∧ Rd w B A' (u64s l)
/-- so many silent lists, all empty -/
def IsLists (w : World) (B : Nat) (v : Value) (m : Nat) : Prop :=
  ∃ A cap, v = .slice A m cap ∧ ∀ i, i < m → ∃ b o, A = some ⟨b, o, none⟩ ∧ b < B ∧ w.cell? ⟨b, o + i, none⟩ = some (.slice none 0 0)
theorem IsWords.keeps {S : Nat → Prop} {w w' : World} {B : Nat} {v : Value} {ws : List (List Nat)} (h : IsWords w B v ws) (k : Keeps S w w') (hs : ∀ b, b < B → ¬ S b) : IsWords w' B v ws := by
  obtain ⟨A, cap, e, f⟩ := h
  refine ⟨A, cap, e, fun i l hl => ?_⟩
  obtain ⟨b, o, A', c', e1, hb, h1, h2⟩ := f i l hl
  refine ⟨b, o, A', c', e1, hb, cell_keeps k h1 (hs b hb), fun j u hu => ?_⟩
  obtain ⟨b2, o2, e2, hb2, h3⟩ := h2 j u hu
  exact ⟨b2, o2, e2, hb2, cell_keeps k h3 (hs b2 hb2)⟩
theorem IsLists.keeps {S : Nat → Prop} {w w' : World} {B : Nat} {v : Value} {m : Nat} (h : IsLists w B v m) (k : Keeps S w w') (hs : ∀ b, b < B → ¬ S b) : IsLists w' B v m := by
  obtain ⟨A, cap, e, f⟩ := h
  refine ⟨A, cap, e, fun i hi => ?_⟩
  obtain ⟨b, o, e1, hb, h1⟩ := f i hi
  exact ⟨b, o, e1, hb, cell_keeps k h1 (hs b hb)⟩
/-- words of the call's own -/
structure OwnWords (w : World) (B : Nat) (ws : List (List Nat)) (wv : Value) (vs : List Value) : Prop where
  row : w.ownsRow B 40 1 wv ws.length vs
  own : ∀ (i : Nat) (v : Value) (l : List Nat), vs[i]? = some v → ws[i]? = some l → w.ownsRow B 22 1 v l.length (u64s l)
  apart : ∀ (i j k : Nat) (v v' : Value), i ≠ j → vs[i]? = some v → vs[j]? = some v' → v.ownBlock = some k → v'.ownBlock ≠ some k
  off : ∀ (i k : Nat) (v : Value), vs[i]? = some v → v.ownBlock = some k → wv.ownBlock ≠ some k
theorem OwnWords.len {w : World} {B : Nat} {ws : List (List Nat)} {wv : Value} {vs : List Value} (h : OwnWords w B ws wv vs) : vs.length = ws.length := by have := h.row.1; omega
theorem OwnWords.keeps {S : Nat → Prop} {w w' : World} {B : Nat} {ws : List (List Nat)} {wv : Value} {vs : List Value} (h : OwnWords w B ws wv vs) (k : Keeps S w w') (hs : ∀ b, S b → b < B ∨ w.heap.size ≤ b) : OwnWords w' B ws wv vs :=
  ⟨owns_keeps h.row k (fun b hb z => by have := h.row.lt b hb; rcases hs b z with q | q <;> omega), fun i v l hv hl => owns_keeps (h.own i v l hv hl) k (fun b hb z => by have := (h.own i v l hv hl).lt b hb; rcases hs b z with q | q <;> omega), h.apart, h.off⟩
/-- a word list of its own is laid behind -/
theorem OwnWords.snoc {w w1 w2 : World} {B n : Nat} {ws : List (List Nat)} {wv wv' v : Value} {vs : List Value} {l : List Nat} (h : OwnWords w B ws wv vs) (k1 : Keeps (fun _ => False) w w1) (ho : w1.ownsRow w.heap.size 22 1 v l.length (u64s l)) (hB : B ≤ w.heap.size)
    (k2 : Keeps (fun b => wv.ownBlock = some b) w1 w2) (hr : w2.ownsRow B 40 1 wv' n (vs ++ [v])) (hn : n = (ws ++ [l]).length) (hat : wv'.ownBlock = wv.ownBlock ∨ ∃ j, wv'.ownBlock = some j ∧ w1.heap.size ≤ j) : OwnWords w2 B (ws ++ [l]) wv' (vs ++ [v]) := by
  subst hn
  have hl := h.len
  have hlt : ∀ (i : Nat) (u : Value) (b : Nat), vs[i]? = some u → u.ownBlock = some b → b < w.heap.size := fun i u b hu hb => by
    have hi : i < ws.length := by rw [← hl]; exact (List.getElem?_eq_some_iff.1 hu).1
    exact ((h.own i u _ hu (List.getElem?_eq_getElem hi)).lt b hb).2
  have hnew : ∀ b, v.ownBlock = some b → w.heap.size ≤ b ∧ b < w1.heap.size := fun b hb => ho.lt b hb
  have hwv : ∀ b, wv.ownBlock = some b → b < w.heap.size := fun b hb => (h.row.lt b hb).2
  have hs1 := k1.size
  have split : ∀ (i : Nat) (u : Value), (vs ++ [v])[i]? = some u → (i < vs.length ∧ vs[i]? = some u) ∨ (i = vs.length ∧ u = v) := fun i u hu => by
    rcases Nat.lt_or_ge i vs.length with q | q
    · exact .inl ⟨q, by rwa [List.getElem?_append_left q] at hu⟩
    · rw [List.getElem?_append_right q] at hu
      rcases Nat.eq_zero_or_pos (i - vs.length) with e | e
      · rw [e] at hu; simp at hu; exact .inr ⟨by omega, hu.symm⟩
      · rw [List.getElem?_eq_none (by simp; omega)] at hu; cases hu
  refine ⟨hr, ?_, ?_, ?_⟩
  · intro i u l' hu hl'
    rcases split i u hu with ⟨q, hu'⟩ | ⟨q, rfl⟩
    · rw [List.getElem?_append_left (by omega)] at hl'
      exact owns_keeps (owns_keeps (h.own i u l' hu' hl') k1 (fun _ _ z => z)) k2 (fun b hb z => h.off i b u hu' hb z)
    · rw [List.getElem?_append_right (by omega), q, hl] at hl'
      simp at hl'
      subst hl'
      exact owns_keeps (owns_base ho hB) k2 (fun b hb z => by have := hnew b hb; have := hwv b z; omega)
  · intro i j b u u' hij hu hu' hb hb'
    rcases split i u hu with ⟨q, hu1⟩ | ⟨q, rfl⟩ <;> rcases split j u' hu' with ⟨q', hu2⟩ | ⟨q', rfl⟩
    · exact h.apart i j b u u' hij hu1 hu2 hb hb'
    · have := hlt i u b hu1 hb; have := hnew b hb'; omega
    · have := hlt j u' b hu2 hb'; have := hnew b hb; omega
    · omega
  · intro i b u hu hb e
    have hub : b < w1.heap.size := by
      rcases split i u hu with ⟨q, hu1⟩ | ⟨q, rfl⟩
      · have := hlt i u b hu1 hb; omega
      · exact (hnew b hb).2
    rcases hat with z | ⟨j, z, hj⟩
    · rw [z] at e
      rcases split i u hu with ⟨q, hu1⟩ | ⟨q, rfl⟩
      · exact h.off i b u hu1 hb e
      · have := hnew b hb; have := hwv b e; omega
    · rw [z] at e; injection e with e; omega
end Go.Proofs.Ytgenblefbddilaa.mz
namespace Go.Proofs.Ytgenblefbddilaa.mz
open Go.RowKit Go.Proofs.Ytgenblefbddilaa.oc
theorem slice_info : (Try.prog.info? 40).map (fun i => (i.zero, i.size, i.bytes)) = some (some (.slice none 0 0), 1, 24) := by kernel_rfl
theorem pair_info : (Try.prog.info? 143).map (fun i => (i.zero, i.size, i.bytes)) = some (some (.agg #[.int .u64 0, .int .u64 0]), 2, 16) := by kernel_rfl
theorem pairs_info : (Try.prog.info? 121).map (fun i => (i.zero, i.size, i.bytes)) = some (some (.slice none 0 0), 1, 24) := by kernel_rfl
theorem three_blocks (w : World) (c1 c2 c3 : Array Value) (t : TypeId) : ∃ w3, w3 = ((w.alloc (.cells c1 t)).alloc (.cells c2 t)).alloc (.cells c3 t) ∧ Blk w3 w.heap.size t c1.toList ∧ Blk w3 (w.heap.size + 1) t c2.toList ∧ Blk w3 (w.heap.size + 1 + 1) t c3.toList ∧ (∀ S, Keeps S w w3) ∧ w3.heap.size = w.heap.size + 3 := by
  have h1 : (w.alloc (.cells c1 t)).heap.size = w.heap.size + 1 := by show (w.heap.push _).size = _; simp
  have h2 : ((w.alloc (.cells c1 t)).alloc (.cells c2 t)).heap.size = w.heap.size + 1 + 1 := by show (Array.push _ _).size = _; simp [h1]
  have h3 : (((w.alloc (.cells c1 t)).alloc (.cells c2 t)).alloc (.cells c3 t)).heap.size = w.heap.size + 3 := by show (Array.push _ _).size = _; simp [h2]
  have b2 := Blk.new (w.alloc (.cells c1 t)) t c2
  have b3 := Blk.new ((w.alloc (.cells c1 t)).alloc (.cells c2 t)) t c3
  rw [h1] at b2
  rw [h2] at b3
  exact ⟨_, rfl, ((Blk.new w t c1).alloc _).alloc _, b2.alloc _, b3, fun S => (((Keeps.refl S w).alloc _).alloc _).alloc _, h3⟩
/-- what a round of the first loop finds -/
def CopyRel (w3 : World) (B O : Nat) (ws : List (List Nat)) (k : Nat) (wr : World) : Prop :=
  ∃ A' c' vs, Blk wr O 36 [.slice A' k c', .slice none 0 0] ∧ OwnWords wr B (ws.take k) (.slice A' k c') vs ∧ Keeps (· = O) w3 wr
/-- what a round of the second loop finds -/
def CopyRel2 (wr : World) (O n : Nat) (A' : Option Addr) (c' k : Nat) (wx : World) : Prop :=
  ∃ A2 c2, Blk wx O 36 [.slice A' n c', .slice A2 k c2] ∧ wx.ownsRow wr.heap.size 121 1 (.slice A2 k c2) k (List.replicate k (.slice none 0 0)) ∧ Keeps (· = O) wr wx
theorem copy_round2 {wr wx w9 : World} {O n k m c' c2 : Nat} {A' A2 : Option Addr} {v2 : Value} {o : Obj} (hb : Blk wx O 36 [.slice A' n c', .slice A2 k c2]) (hO : wx.ownsRow wr.heap.size 121 1 (.slice A2 k c2) k (List.replicate k (.slice none 0 0)))
    (hK : Keeps (· = O) wr wx) (hOw : O < wr.heap.size) (hg : ((wx.alloc o).drew).grownBy w9 (Value.slice A2 k c2).ownBlock) (hr : w9.ownsRow wr.heap.size 121 1 v2 m (List.replicate k (.slice none 0 0) ++ [.slice none 0 0])) (hm : m = k + 1)
    (hat : v2.ownBlock = (Value.slice A2 k c2).ownBlock ∨ v2.ownBlock = some ((wx.alloc o).drew).heap.size) (hv : ∃ A3 c3, v2 = .slice A3 m c3) : CopyRel2 wr O n A' c' (k + 1) (w9.setCell ⟨O, 1, none⟩ v2) := by
  subst hm
  have kx : Keeps (fun b => (Value.slice A2 k c2).ownBlock = some b) wx w9 := (((Keeps.refl _ wx).alloc o).drew).trans ⟨hg.size, fun b hb hs => hg.block b hb (fun e => hs e.symm), ⟨hg.os, hg.tape, hg.output⟩⟩
  have b9 := Blk.keeps hb kx (fun z => by have := (hO.lt O z).1; omega)
  have k9 : Keeps (· = O) w9 (w9.setCell ⟨O, 1, none⟩ v2) := (Keeps.refl (· = O) w9).setCell (p := ⟨O, 1, none⟩) (.inl rfl) _
  have hvO : ∀ b, v2.ownBlock = some b → ¬ b = O := fun b hb e => by have := (hr.lt b hb).1; omega
  obtain ⟨A3, c3, rfl⟩ := hv
  refine ⟨A3, c3, by have := b9.put 1 (.slice A3 (k + 1) c3); simpa using this, ?_, ?_⟩
  · rw [List.replicate_succ']
    exact owns_keeps hr k9 hvO
  · refine ⟨Nat.le_trans hK.size (Nat.le_trans kx.size k9.size), fun b hb hs => ?_, (hK.same).trans ((kx.same).trans (k9.same))⟩
    have hb1 : b < wx.heap.size := Nat.lt_of_lt_of_le hb hK.size
    rw [k9.block b (Nat.lt_of_lt_of_le hb1 kx.size) hs, kx.block b hb1 (fun z => by have := (hO.lt b z).1; omega), hK.block b hb hs]
/-- what Copy leaves: words of its own, and as many silent lists, all empty -/
def Copied (w0 : World) (m : Nat) (ws : List (List Nat)) (e : Ending) (w' : World) : Prop :=
  ∃ A' c' A2 c2 vs, e = .returned (.agg #[.slice A' ws.length c', .slice A2 m c2]) ∧ OwnWords w' w0.heap.size ws (.slice A' ws.length c') vs ∧ w'.ownsRow w0.heap.size 121 1 (.slice A2 m c2) m (List.replicate m (.slice none 0 0)) ∧ ∀ S, Keeps S w0 w'
theorem OwnWords.lower {w : World} {B B' : Nat} {ws : List (List Nat)} {wv : Value} {vs : List Value} (h : OwnWords w B ws wv vs) (hb : B' ≤ B) : OwnWords w B' ws wv vs :=
  ⟨owns_base h.row hb, fun i v l hv hl => owns_base (h.own i v l hv hl) hb, h.apart, h.off⟩
theorem lists_of_row {w : World} {base k c : Nat} {A : Option Addr} {ty : TypeId} (h : w.ownsRow base ty 1 (.slice A k c) k (List.replicate k (.slice none 0 0))) : IsLists w w.heap.size (.slice A k c) k := by
  refine ⟨A, c, rfl, fun i hi => ?_⟩
  obtain ⟨g, cap, hv, _, hlt⟩ := h.form (by omega)
  injection hv with e1 e2 e3
  subst e1
  refine ⟨g, 0, rfl, hlt, ?_⟩
  have := h.cells (g := g) rfl i (.slice none 0 0) (by simp [hi])
  rwa [Addr.add_lit] at this
theorem copy_end {w w3 wo wr w10 : World} {m n c' c2 R O : Nat} {A' A2 : Option Addr} {vs : List Value} {ws : List (List Nat)} (k3 : ∀ S, Keeps S w w3) (h3 : w3.heap.size = w.heap.size + 3) (hO : OwnWords wo w3.heap.size (ws.take n) (.slice A' n c') vs) (hn : n = ws.length) (hK : Keeps (· = O) w3 wo) (hK2 : Keeps (· = O) wo wr) (hOe : O = w.heap.size + 1 + 1) (hR : R = w.heap.size + 1)
    (hL : wr.ownsRow wo.heap.size 121 1 (.slice A2 m c2) m (List.replicate m (.slice none 0 0))) (k10 : Keeps (· = R) wr w10) : Copied w m ws (.returned (.agg #[.slice A' ws.length c', .slice A2 m c2])) w10 := by
  subst hn
  rw [List.take_length] at hO
  have h1 := hO.keeps hK2 (fun b e => by subst e; exact .inl (by omega))
  have h2 := h1.keeps k10 (fun b e => by subst e; exact .inl (by omega))
  have hs := hK.size
  have hl := owns_keeps hL k10 (fun b hb e => by have := (hL.lt b hb).1; omega)
  refine ⟨A', c', A2, c2, vs, rfl, h2.lower (by omega), owns_base hl (by have := (k3 (fun _ => False)).size; omega), fun S => ?_⟩
  refine ⟨Nat.le_trans (k3 S).size (Nat.le_trans hK.size (Nat.le_trans hK2.size k10.size)), fun b hb hs' => ?_, ((k3 S).same).trans ((hK.same).trans ((hK2.same).trans (k10.same)))⟩
  have hb3 : b < w3.heap.size := by omega
  rw [k10.block b (by have := hK2.size; omega) (by omega), hK2.block b (by omega) (by omega), hK.block b hb3 (by omega), (k3 S).block b hb hs']
theorem one_slice (a : Option Addr) (n c : Nat) : ∀ u ∈ [Value.slice a n c], u.oneCell' = true := by
  intro u hu; simp at hu; subst hu; rfl
theorem copy_round {w3 wr w8 w9 : World} {B O k n c' cv : Nat} {A' Av : Option Addr} {v2 : Value} {vs : List Value} {ws : List (List Nat)} {l : List Nat} {o : Obj} (hb : Blk wr O 36 [.slice A' k c', .slice none 0 0]) (hO : OwnWords wr B (ws.take k) (.slice A' k c') vs) (hK : Keeps (· = O) w3 wr)
    (hl : ws[k]? = some l) (hOB : O < B) (hB3 : w3.heap.size ≤ B) (hBw : B ≤ wr.heap.size) (hg : (wr.drew).grownBy w8 none) (ho : w8.ownsRow wr.heap.size 22 1 (.slice Av l.length cv) l.length (u64s l)) (hg2 : (w8.alloc o).grownBy w9 (Value.slice A' k c').ownBlock)
    (hr : w9.ownsRow B 40 1 v2 n (vs ++ [.slice Av l.length cv])) (hn : n = k + 1) (hat : v2.ownBlock = (Value.slice A' k c').ownBlock ∨ v2.ownBlock = some (w8.alloc o).heap.size) (hv2 : ∃ A2 c2, v2 = .slice A2 n c2) : CopyRel w3 B O ws (k + 1) (w9.setCell ⟨O, 0, none⟩ v2) := by
  subst hn
  have hkl : k < ws.length := (List.getElem?_eq_some_iff.1 hl).1
  have htk : ws.take (k + 1) = ws.take k ++ [l] := by rw [List.take_add_one, hl]; rfl
  have k1 : Keeps (fun _ => False) wr w8 := ⟨hg.size, fun b hb _ => hg.block b hb (by simp), ⟨hg.os, hg.tape, hg.output⟩⟩
  have k2 : Keeps (fun b => (Value.slice A' k c').ownBlock = some b) w8 w9 := ((Keeps.refl _ w8).alloc o).trans ⟨hg2.size, fun b hb hs => hg2.block b hb (fun e => hs e.symm), ⟨hg2.os, hg2.tape, hg2.output⟩⟩
  have hsz8 : (w8.alloc o).heap.size = w8.heap.size + 1 := by show (w8.heap.push _).size = _; simp
  have hS := hO.snoc k1 ho hBw k2 hr (by simp; omega) (by
    rcases hat with z | z
    · exact .inl z
    · exact .inr ⟨_, z, by omega⟩)
  have hAO : ∀ b, (Value.slice A' k c').ownBlock = some b → b ≠ O := fun b hb e => by have := (hO.row.lt b hb).1; omega
  have b9 : Blk w9 O 36 [.slice A' k c', .slice none 0 0] := Blk.keeps (Blk.keeps hb k1 (fun z => z)) k2 (fun z => hAO O z rfl)
  have k9 : Keeps (· = O) w9 (w9.setCell ⟨O, 0, none⟩ v2) := (Keeps.refl (· = O) w9).setCell (p := ⟨O, 0, none⟩) (.inl rfl) _
  obtain ⟨A2, c2, rfl⟩ := hv2
  refine ⟨A2, c2, vs ++ [.slice Av l.length cv], by have := b9.put 0 (.slice A2 (k + 1) c2); simpa using this, ?_, ?_⟩
  · rw [htk]
    exact hS.keeps k9 (fun b e => by subst e; exact .inl hOB)
  · refine ⟨Nat.le_trans hK.size (Nat.le_trans k1.size (Nat.le_trans k2.size k9.size)), fun b hb hs => ?_, (hK.same).trans ((k1.same).trans ((k2.same).trans (k9.same)))⟩
    have hb1 : b < wr.heap.size := Nat.lt_of_lt_of_le hb hK.size
    rw [k9.block b (Nat.lt_of_lt_of_le hb1 (Nat.le_trans k1.size k2.size)) hs, k2.block b (Nat.lt_of_lt_of_le hb1 k1.size) (fun z => by have := (hO.row.lt b z).1; omega), k1.block b hb1 (fun z => z), hK.block b hb hs]
set_option maxRecDepth 100000 in
set_option maxHeartbeats 4000000 in
theorem copy_any (B m : Nat) (wv lv : Value) (ws : List (List Nat)) (w : World) (hw : IsWords w B wv ws) (hl : IsLists w B lv m) (hB : B ≤ w.heap.size) (hn : ws.length < 1000000) (hm : m < 1000000) (hs : ∀ l ∈ ws, l.length < 1000000) :
    Calls Try.prog 35 #[.agg #[wv, lv]] w (Copied w m ws) := by
  obtain ⟨i0, hi0, hz0, hz1, hz2⟩ := info_parts slice_info
  obtain ⟨j0, hj0, hy0, hy1, hy2⟩ := info_parts pairs_info
  obtain ⟨l0, hl0, _, _, _⟩ := info_parts pair_info
  have hw' := hw
  have hl' := hl
  obtain ⟨A, cap, rfl, hf⟩ := hw
  obtain ⟨AL, capL, rfl, hfl⟩ := hl
  obtain ⟨w3, hw3, b1, b2, b3, k3, z3⟩ := three_blocks w #[.slice A ws.length cap, .slice AL m capL] #[.slice none 0 0, .slice none 0 0] #[.slice none 0 0, .slice none 0 0] 36
  have hrel : CopyRel w3 w3.heap.size (w.heap.size + 1 + 1) ws 0 w3 := ⟨none, 0, [], b3, ⟨World.ownsRow_nil _ _ _ _, fun i v l h => by simp at h, fun i j k v v' _ h => by simp at h, fun i k v h => by simp at h⟩, Keeps.refl _ w3⟩
  have HR := Lib.hid hrel
  have W3 := Lib.hid (hw'.keeps (k3 (fun _ => False)) (fun _ _ z => z))
  have L3 := Lib.hid (hl'.keeps (k3 (fun _ => False)) (fun _ _ z => z))
  have B1 := Lib.hid b1
  have B2 := Lib.hid b2
  have Z3 := Lib.hid z3
  have K3 := Lib.hid k3
  have HW := Lib.hid hw3
  have HB := Lib.hid hB
  have HS := Lib.hid hs
  clear hf hfl hw3 hB hs hrel b1 b2 b3 k3 z3 hw' hl'
  go_enter Try.func35, Try.ntmps35
  go_wp2_with fail
  rw [← HW.out]
  go_loopg [4] ws.length (fun q i wr => ∃ k, q = ws.length - k ∧ k ≤ ws.length ∧ i = .int .i64 k ∧ CopyRel w3 w3.heap.size (w.heap.size + 1 + 1) ws k wr)
  case atStart => exact ⟨0, by omega, by omega, rfl, HR.out⟩
  case round =>
    obtain ⟨k, rfl, hk, rfl, A', c', vs, hb, hO, hK⟩ := hrel
    clear HR
    have hz := Z3.out
    have q0 : wr.cell? ⟨w.heap.size + 1 + 1, 0, none⟩ = some (.slice A' k c') := by rw [hb.cell]; rfl
    have f0 := hb.frozen 0
    have p1 := Blk.keeps B1.out hK (by omega)
    have p0 : wr.cell? ⟨w.heap.size, 0, none⟩ = some (.slice A ws.length cap) := by rw [p1.cell]; rfl
    by_cases hlt : k < ws.length
    · have hli := List.getElem?_eq_getElem hlt
      obtain ⟨b, o, A2, c2, rfl, hbB, hce, hrd⟩ := (by
        obtain ⟨A0, cap0, e0, f⟩ := W3.out
        injection e0 with e1 e2 e3
        subst e1
        exact f k _ hli : ∃ b o A2 c2, A = some ⟨b, o, none⟩ ∧ b < B ∧ w3.cell? ⟨b, o + k, none⟩ = some (.slice A2 (ws[k]).length c2) ∧ Rd w3 B A2 (u64s ws[k]))
      obtain ⟨l, hlv⟩ : ∃ l, l = ws[k] := ⟨_, rfl⟩
      rw [← hlv] at hli hce hrd
      have hll : l.length < 1000000 := HS.out l (List.mem_of_getElem? hli)
      have hce' : wr.cell? ⟨b, o + k, none⟩ = some (.slice A2 l.length c2) := cell_keeps hK hce (by have := HB.out; show ¬ b = _; omega)
      have hrd' : Rd wr.drew B A2 (u64s l) := fun j u hu => by
        obtain ⟨b2, o2, e2, hb2, h3⟩ := hrd j u hu
        exact ⟨b2, o2, e2, hb2, cell_keeps hK h3 (by have := HB.out; show ¬ b2 = _; omega)⟩
      have hBw : w3.heap.size ≤ wr.heap.size := hK.size
      have hOl : w.heap.size + 1 + 1 < wr.heap.size := hb.lt
      have hbl : b < wr.heap.size := by have := HB.out; omega
      have hpl : w.heap.size < wr.heap.size := by omega
      have HK8 := Lib.hid (show ∀ w8, (wr.drew).grownBy w8 none → (w8.cell? ⟨w.heap.size + 1 + 1, 0, none⟩ = some (.slice A' k c') ∧ w8.cell? ⟨w.heap.size, 0, none⟩ = some (.slice (some ⟨b, o, none⟩) ws.length cap) ∧ w8.cell? ⟨b, o + k, none⟩ = some (.slice A2 l.length c2)) ∧ w8.ownsRow w3.heap.size 40 1 (.slice A' k c') k vs ∧ w3.heap.size ≤ w8.heap.size from fun w8 hg => by
        have h1 := owns_keeps hO.row (⟨hg.size, fun b hb _ => hg.block b hb (by simp), ⟨hg.os, hg.tape, hg.output⟩⟩ : Keeps (fun _ => False) wr w8) (fun _ _ z => z)
        rw [List.length_take, Nat.min_eq_left hk] at h1
        exact ⟨⟨hg.cell q0 (by simp), hg.cell p0 (by simp), hg.cell hce' (by simp)⟩, h1, Nat.le_trans hBw hg.size⟩)
      have HK9 := Lib.hid (show ∀ w8 ob w9, (wr.drew).grownBy w8 none → (w8.alloc ob).grownBy w9 (Value.slice A' k c').ownBlock → w9.cell? ⟨w.heap.size + 1 + 1, 0, none⟩ = some (.slice A' k c') ∧ w9.frozen? ⟨w.heap.size + 1 + 1, 0, none⟩ = false from fun w8 ob w9 hg hg2 => by
        have b8 : Blk w8 (w.heap.size + 1 + 1) _ _ := Blk.grown hb.drew hg (by simp)
        have b9 := Blk.grown (b8.alloc ob) hg2 (fun e => by have := (hO.row.lt _ e.symm).1; omega)
        exact ⟨by rw [b9.cell]; rfl, b9.frozen 0⟩)
      have HCR := Lib.hid (fun w8 w9 n cv Av v2 o hg ho hg2 hr hn hat hv2 => copy_round (w3 := w3) (wr := wr) (w8 := w8) (w9 := w9) (B := w3.heap.size) (O := w.heap.size + 1 + 1) (k := k) (n := n) (c' := c') (cv := cv) (A' := A') (Av := Av) (v2 := v2) (vs := vs) (ws := ws) (l := l) (o := o) hb hO hK hli (by omega) (Nat.le_refl _) hBw hg ho hg2 hr hn hat hv2)
      have HRD := Lib.hid hrd'
      have n1 : k + 1 ≤ 140737488355328 := by omega
      clear hb hO hK hce hrd hrd' p1 hlv
      go_wp2_with fail
      go_region_law (first
        | (refine step_app rfl _ _ 33 rfl w3.heap.size 40 i0 _ 24 Try.underlying33 hi0 hz0 hz1 hz2 rfl (.slice A' k c') k vs rfl (y4.alloc _) (w8.heap.size + 1) (some ⟨w8.heap.size, 0, none⟩) 1 1 [.slice Av l.length cv] rfl (Blk.new w8 40 #[.slice Av l.length cv]).rd rfl (one_slice _ _ _) n1 (by omega) y5 ?_; intro v2 w9 hown2 hg2 hat2; obtain ⟨g2, cap2, rfl, hg20, hg21⟩ := hown2.form (Nat.succ_pos _); obtain ⟨x1, x2⟩ := HK9.out _ _ _ hvg hg2)
        | (go_simp; go_at_call 46; refine (copyWords B A2 c2 l _ HRD.out hll).mono ?_; rintro e w8 ⟨Av, cv, rfl, hvo, hvg⟩; obtain ⟨⟨y1, y2, y3⟩, y4, y5⟩ := HK8.out _ hvg; have y6 : w.heap.size + 1 + 1 < w8.heap.size := Nat.lt_of_lt_of_le hOl hvg.size; have y7 : w.heap.size < w8.heap.size := Nat.lt_of_lt_of_le hpl hvg.size; have y8 : b < w8.heap.size := Nat.lt_of_lt_of_le hbl hvg.size; have y5 : w3.heap.size ≤ (w8.alloc (.cells #[.slice Av l.length cv] 40)).heap.size := (by show w3.heap.size ≤ (w8.heap.push _).size; simp; omega)))
      all_goals
        go_wp2_with fail
        go_roundg (ws.length - (k + 1))
        case rel => exact ⟨k + 1, rfl, hlt, by go_num, HCR.out _ _ _ _ _ _ _ hvg hvo hg2 hown2 rfl hat2 ⟨_, _, rfl⟩⟩
        case measure => omega
    · obtain rfl : k = ws.length := by omega
      obtain ⟨wo, rfl⟩ : ∃ wo : World, wo = wr := ⟨_, rfl⟩
      have hBw : w3.heap.size ≤ wo.heap.size := hK.size
      have hOl : w.heap.size + 1 + 1 < wo.heap.size := hb.lt
      have hrel : CopyRel2 wo (w.heap.size + 1 + 1) ws.length A' c' 0 wo := ⟨none, 0, hb, World.ownsRow_nil _ _ _ _, Keeps.refl _ wo⟩
      have HR := Lib.hid hrel
      have HO := Lib.hid hO
      have HK := Lib.hid hK
      have HP1 := Lib.hid p1
      have HLO := Lib.hid (L3.out.keeps hK (fun b hb z => by have := HB.out; omega))
      have HP2 := Lib.hid (Blk.keeps B2.out hK (by omega))
      clear hrel hO hK hb q0 f0 p1
      go_wp2_with fail
      clear p0
      go_loopg [5, 6] m (fun q i l wx => ∃ k, q = m - k ∧ k ≤ m ∧ i = .int .i64 k ∧ CopyRel2 wo (w.heap.size + 1 + 1) ws.length A' c' k wx)
      case atStart => exact ⟨0, by omega, by omega, rfl, HR.out⟩
      case round =>
        obtain ⟨k, rfl, hk2, rfl, A2, c2, hb, hL, hK2⟩ := hrel
        clear HR
        have q0 : wr.cell? ⟨w.heap.size + 1 + 1, 1, none⟩ = some (.slice A2 k c2) := by rw [hb.cell]; rfl
        have f0 := hb.frozen 1
        have p1 := Blk.keeps HP1.out hK2 (by omega)
        have p0 : wr.cell? ⟨w.heap.size, 1, none⟩ = some (.slice AL m capL) := by rw [p1.cell]; rfl
        have hpl : w.heap.size < wr.heap.size := p1.lt
        have hOl2 : w.heap.size + 1 + 1 < wr.heap.size := hb.lt
        by_cases hlt : k < m
        · obtain ⟨b, o, rfl, hbB, hce⟩ := (by
            obtain ⟨A0, cap0, e0, f⟩ := HLO.out
            injection e0 with e1 e2 e3
            subst e1
            exact f k hlt : ∃ b o, AL = some ⟨b, o, none⟩ ∧ b < B ∧ wo.cell? ⟨b, o + k, none⟩ = some (.slice none 0 0))
          have hce' : wr.cell? ⟨b, o + k, none⟩ = some (.slice none 0 0) := cell_keeps hK2 hce (by have := HB.out; show ¬ b = _; omega)
          have hbl : b < wr.heap.size := World.block_lt_of_cell? wr _ hce'
          have HK9 := Lib.hid (show ∀ ob w9, ((wr.alloc ob).drew).grownBy w9 (Value.slice A2 k c2).ownBlock → w9.cell? ⟨w.heap.size + 1 + 1, 1, none⟩ = some (.slice A2 k c2) ∧ w9.frozen? ⟨w.heap.size + 1 + 1, 1, none⟩ = false from fun ob w9 hg => by
            have b9 := Blk.grown ((hb.alloc ob).drew) hg (fun e => by have := (hL.lt _ e.symm).1; omega)
            exact ⟨by rw [b9.cell]; rfl, b9.frozen 1⟩)
          have HCR := Lib.hid (fun w9 n v2 o hg hr hm hat hv => copy_round2 (wr := wo) (wx := wr) (w9 := w9) (O := w.heap.size + 1 + 1) (n := ws.length) (k := k) (m := n) (c' := c') (c2 := c2) (A' := A') (A2 := A2) (v2 := v2) (o := o) hb hL hK2 hOl hg hr hm hat hv)
          have HLL := Lib.hid hL
          have n1 : k + 1 ≤ 140737488355328 := by omega
          have n3 : ∀ ob, wo.heap.size ≤ ((wr.alloc ob).drew).heap.size := fun ob => by have := hK2.size; show _ ≤ (wr.heap.push _).size; simp; omega
          have HN3 := Lib.hid n3
          clear hb hL hK2 hce p1 n3
          go_wp2_with fail
          go_region_law (first
            | (refine step_app_nil rfl _ _ 121 rfl 143 l0 2 Try.underlying121 hl0 rfl rfl ?_)
            | (refine step_app rfl _ _ 34 rfl wo.heap.size 121 j0 _ 24 Try.underlying34 hj0 hy0 hy1 hy2 rfl (.slice A2 k c2) k (List.replicate k (.slice none 0 0)) rfl ((HLL.out.alloc _).drew) (wr.heap.size + 1) (some ⟨wr.heap.size, 0, none⟩) 1 1 [.slice none 0 0] rfl (Blk.new wr 121 #[.slice none 0 0]).rd.drew rfl (one_slice _ _ _) n1 (by omega) (HN3.out _) ?_; intro v2 w9 hown2 hg2 hat2; obtain ⟨g2, cap2, rfl, hg20, hg21⟩ := hown2.form (Nat.succ_pos _); obtain ⟨x1, x2⟩ := HK9.out _ _ hg2))
          all_goals
            go_wp2_with fail
            go_roundg (m - (k + 1))
            case rel => exact ⟨k + 1, rfl, hlt, by go_num, HCR.out _ _ _ _ hg2 hown2 rfl hat2 ⟨_, _, rfl⟩⟩
            case measure => omega
        · obtain rfl : k = m := by omega
          have hp2 := Blk.keeps HP2.out hK2 (by omega)
          have d0 : wr.cell? ⟨w.heap.size + 1 + 1, 0, none⟩ = some (.slice A' ws.length c') := by rw [hb.cell]; rfl
          have r0 : wr.cell? ⟨w.heap.size + 1, 0, none⟩ = some (.slice none 0 0) := by rw [hp2.cell]; rfl
          have r1 : wr.cell? ⟨w.heap.size + 1, 1, none⟩ = some (.slice none 0 0) := by rw [hp2.cell]; rfl
          have g0 := hp2.frozen 0
          have g1 := hp2.frozen 1
          have HLL := Lib.hid hL
          have HK2 := Lib.hid hK2
          clear hb hL hK2 p1 hp2
          go_wp2_with fail
          refine bodyPost_ret (v := .agg #[.slice A' ws.length c', .slice A2 k c2]) (by simp [results, Try.results35, go_sem, r0, r1]) rfl ?_
          exact copy_end (R := w.heap.size + 1) K3.out Z3.out HO.out rfl HK.out HK2.out rfl rfl HLL.out (((Keeps.refl (· = w.heap.size + 1) wr).setCell (p := ⟨w.heap.size + 1, 0, none⟩) (.inl rfl) _).setCell (p := ⟨w.heap.size + 1, 1, none⟩) (.inl rfl) _)
end Go.Proofs.Ytgenblefbddilaa.mz
