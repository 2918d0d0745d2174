/-
  Rows of prefixes that are read, and their sorting: the words between the library's sort and lists. Nothing of the program's functions. Regions as in Qk, with the draws counted: all that was is as it was, and no draw is taken back. prefix.Compare, with the draws counted. The laid tables of slices.Clone and slices.SortFunc at this dump. slices.Clone and slices.SortFunc at rows of prefixes. The merged list, plainly: each of a row in order is added: none covers another one, no two are the halves of one, in order, and the same addresses are had. A range over a function that keeps its place in a box of its own. What of the library's tables a call reads; math/bits.TrailingZeros of 16; numbers to the base 16 appended. Numbers below 65536, to the base 16, appended to a row of bytes. The shelf's contracts at this dump. What of the library's variables a call reads; strconv.AppendUint, to the bases 10 and 16; strconv.Itoa. strconv.ParseUint of whatever text, to the bases 16 (of 16 bits) and 10 (of 8 bits). strconv.ParseUint of whatever text, as prefix calls it. strings.SplitSeq at a separator of one sign: the iterator. prefix: joined. prefix: longestRow. Bytes as a number.
-/
import Derived.Shelf.SlSortCmp.NoneTotal
import Derived.Sort.Grow
import Derived.Shelf.SlGeneric
import Derived.Ground.SlgnProg
import Derived.Ground.SlsfProg
import Derived.Shelf.SlicesE.Clone
import Derived.Test.YtgcdhfpbmcfedaaGreatDoorProg
import Derived.RangeFuncWrites
import Derived.Shelf.Strconv.AppendUint10
import Derived.Shelf.Small.Bits
import Derived.Shelf.Strconv.Atoi
import Derived.Shelf.Strconv.Itoa0
import Derived.Shelf.Strconv.Itoa1
import Derived.Shelf.LaysM
import Derived.Shelf.Strconv.Itoa2
import Derived.Shelf.Strconv.Itoa3
import Derived.Shelf.Strconv.AtoiErrFast
import Derived.Shelf.Strconv.ParseIntEmpty
import Derived.Shelf.Strconv.AtoiFail
import Derived.Shelf.Strconv.Clone
import Derived.Shelf.Strconv.SyntaxError
import Derived.Shelf.LaysC
import Derived.Shelf.Strconv.ToError
import Derived.Shelf.Strconv.Lower
import Derived.Shelf.Strconv.ParseUint10
import Derived.Shelf.Strconv.ParseUint10Empty
import Derived.Shelf.Strconv.ParseUint10Any
import Derived.Shelf.Strconv.ParseInt10
import Derived.Shelf.Strconv.AtoiLong
import Derived.Shelf.Strconv.AtoiInnerAll
import Derived.Shelf.Strconv.RangeError
import Derived.Shelf.Strconv.ToErrorRange
import Derived.Shelf.Strconv.AtoiAll
import Derived.Shelf.Strconv.ParseUintEmpty
import Derived.Shelf.Strconv.ParseUint10b64
import Derived.Shelf.Strconv.ParseUint10b32
import Derived.Shelf.Strconv.ParseUint10b16
import Derived.Shelf.Strconv.ParseUint10b8
import Derived.Shelf.Strconv.ParseUint10At
import Derived.Ground.MpProg
import Derived.Shelf.Pu.ParseUintPublic10
import Derived.Shelf.Strings.Search1
import Derived.Shelf.Strings.Search2
import Derived.Shelf.Strings.Search3
import Derived.Shelf.Strings.Cut
import Derived.Shelf.Strings.Shaped
import Derived.Shelf.Strconv.AppendInt10
import Derived.Shelf.Unicode.DecodeSlow
import Derived.Shelf.Unicode.DecodeAny
import Derived.Shelf.Unicode.PredsPay
import Derived.Lib.ConvBytes
import Derived.Laws.Strings3
import Derived.Laws.Closers25
import Derived.Laws.Closers25b
import Derived.WalkKit
import Derived.BigCall
import Derived.BigGuard
import Derived.RangeFuncBox
import Derived.RangeFuncLeaves
import Derived.RangeFuncNested
import Derived.RangeFuncBound
import Derived.RangeFuncCalls
import Derived.Shelf.Abstract
import Derived.OwnWalkIn
import Derived.TacticsInMore
import Derived.LoopNIn
import Derived.LoopIn
import Derived.Lib.IndexLaws
import Derived.Lib.AppendStr
import Derived.Laws.CopyOwn
import Derived.Test.YtgcdhfpbmcfedaaGreatDoorV4
section
set_option linter.unusedVariables false
set_option linter.unusedSimpArgs false
namespace Go.Proofs.YtgcdhfpbmcfedaaGreatDoor.pf
open Go.RowKit Go.Shelf Go.Sort Go.Proofs.YtgcdhfpbmcfedaaGreatDoor.oc Go.Proofs.YtgcdhfpbmcfedaaGreatDoor.mz Go.Proofs.YtgcdhfpbmcfedaaGreatDoor.wh Go.Proofs.YtgcdhfpbmcfedaaGreatDoor.qk
theorem pxs_at : ∀ (l : List Px) (m : Nat) (p : Px) (r : Nat), (∀ q ∈ l, q.a.Wf) → l[m]? = some p → r < 18 → (pxs l)[m * 18 + r]? = (pxc p)[r]?
  | [], m, p, r, _, h, _ => by simp at h
  | q :: l, 0, p, r, hw, h, hr => by
    simp at h; subst h
    have e : pxs (q :: l) = pxc q ++ pxs l := rfl
    rw [e, Nat.zero_mul, Nat.zero_add, List.getElem?_append_left (by rw [pxc_len (hw q (by simp))]; exact hr)]
  | q :: l, m + 1, p, r, hw, h, hr => by
    have e : pxs (q :: l) = pxc q ++ pxs l := rfl
    have hq := pxc_len (hw q (by simp))
    rw [e, List.getElem?_append_right (by rw [hq]; omega), hq, show (m + 1) * 18 + r - 18 = m * 18 + r from by omega]
    exact pxs_at l m p r (fun x hx => hw x (by simp [hx])) (by simpa using h) hr
theorem pxs_range {w : World} {b : Nat} {l : List Px} (hw : ∀ q ∈ l, q.a.Wf) (h : w.rangeAt b 0 (pxs l)) {m : Nat} {p : Px} (hm : l[m]? = some p) : w.rangeAt b (m * 18) (pxc p) := fun j v hj => by
  have hl : j < 18 := by
    have := (List.getElem?_eq_some_iff.1 hj).1
    rwa [pxc_len (hw p (List.mem_of_getElem? hm))] at this
  have := h (m * 18 + j) v (by rw [pxs_at l m p j hw hm hl]; exact hj)
  rwa [Nat.zero_add] at this
theorem range_keeps {S : Nat → Prop} {w w' : World} {b o : Nat} {cs : List Value} (h : w.rangeAt b o cs) (k : Keeps S w w') (hb : ¬ S b) : w'.rangeAt b o cs := fun j v hj => k.cell (h j v hj) hb
theorem range_sub {w : World} {b o : Nat} {cs ds : List Value} (h : w.rangeAt b o (cs ++ ds)) : w.rangeAt b o cs := fun j v hj => h j v (by rw [List.getElem?_append_left (List.getElem?_eq_some_iff.1 hj).1]; exact hj)
/-- prefixes that lie in a row, to be read -/
structure Rw (w : World) (b : Nat) (l : List Px) : Prop where
  lt : b < w.heap.size
  at_ : w.rangeAt b 0 (pxs l)
  wf : ∀ p ∈ l, p.a.Wf
theorem Rw.keeps {S : Nat → Prop} {w w' : World} {b : Nat} {l : List Px} (h : Rw w b l) (k : Keeps S w w') (hb : ¬ S b) : Rw w' b l := ⟨Nat.lt_of_lt_of_le h.lt k.size, range_keeps h.at_ k hb, h.wf⟩
theorem Rw.el {w : World} {b : Nat} {l : List Px} (h : Rw w b l) {m : Nat} {p : Px} (hm : l[m]? = some p) : w.rangeAt b (m * 18) (pxc p) := pxs_range h.wf h.at_ hm
theorem Rw.take {w : World} {b : Nat} {l m : List Px} (h : Rw w b (l ++ m)) : Rw w b l := ⟨h.lt, range_sub (ds := pxs m) (by have := h.at_; rw [show pxs (l ++ m) = pxs l ++ pxs m from by simp [pxs]] at this; exact this), fun p hp => h.wf p (by simp [hp])⟩
theorem Pm.wide {A B : Nat} {w : World} {v : Value} {l : List Px} (h : Pm B w v l) (hAB : A ≤ B) : Pm A w v l := by
  refine ⟨⟨h.own.1, ?_⟩, h.wf⟩
  rcases h.own.2 with q | ⟨g, cap, cur, e, h1, h2⟩
  · exact .inl q
  · exact .inr ⟨g, cap, cur, e, Nat.le_trans hAB h1, h2⟩
/-- a row of the call's own is one to be read -/
theorem Pm.rw_ {B : Nat} {w : World} {v : Value} {l : List Px} (h : Pm B w v l) : v = .slice none 0 0 ∧ l = [] ∨ ∃ g c, v = .slice (some ⟨g, 0, none⟩) l.length c ∧ B ≤ g ∧ Rw w g l := by
  rcases h.own.2 with ⟨e, h0⟩ | ⟨g, cap, cur, e, h1, h2, h3, h4, h5, h6⟩
  · exact .inl ⟨e, List.length_eq_zero_iff.1 h0⟩
  · refine .inr ⟨g, cap, e, h1, (Array.getElem?_eq_some_iff.1 h2).1, fun j v hj => ?_, h.wf⟩
    have hb : Blk w g 28 cur.toList := h2
    rw [Nat.zero_add, hb.cell]
    have hlt : j < l.length * 18 := by
      have := (List.getElem?_eq_some_iff.1 hj).1
      rwa [pxs_len l h.wf] at this
    rw [← h6, List.getElem?_take_of_lt hlt] at hj
    exact hj
/-! ### the sort -/
/-- a prefix that may be -/
abbrev Op := {p : Px // p.a.Wf ∧ okP p}
theorem zero_ok : okP ⟨⟨true, List.replicate 16 0⟩, 0⟩ := by
  have hb : ∀ i, byt ⟨true, List.replicate 16 0⟩ i = 0 := fun i => by
    unfold byt
    show (List.replicate 16 0)[i]?.getD 0 = 0
    rw [List.getElem?_replicate]
    split <;> rfl
  refine ⟨fun i _ _ => hb i, ⟨Int.le_refl _, by show (0 : Int) ≤ _; omega⟩, fun i _ _ => ?_⟩
  unfold bit
  rw [hb]
  simp
instance : Inhabited Op := ⟨⟨⟨⟨true, List.replicate 16 0⟩, 0⟩, ⟨by simp, fun x hx => by simp at hx; omega⟩, zero_ok⟩⟩
def encO (x : Op) : List Value := pxc x.1
theorem encO_len (x : Op) : (encO x).length = 18 := pxc_len x.2.1
def cfO (x y : Op) : Int := cmp x.1 y.1
theorem ltO (x y : Op) : ltOf cfO x y = true ↔ KP x.1 < KP y.1 := by
  unfold ltOf cfO
  rw [decide_eq_true_eq]
  rcases cmp_key x.2.1 y.2.1 x.2.2 y.2.2 with ⟨c, v⟩ | ⟨c, v⟩ | ⟨c, v, _⟩
  · exact ⟨fun _ => v, fun _ => by omega⟩
  · exact ⟨fun z => by omega, fun z => by omega⟩
  · exact ⟨fun z => by omega, fun z => by omega⟩
theorem ltO_f (x y : Op) : ltOf cfO x y = false ↔ KP y.1 ≤ KP x.1 := by
  rw [← Bool.not_eq_true, ltO]; omega
theorem swoO : SWO (ltOf cfO) := ⟨fun x => (ltO_f x x).2 (Int.le_refl _), fun x y z h1 h2 => by rw [ltO] at *; omega, fun x y z h1 h2 => by rw [ltO_f] at *; omega⟩
theorem totO (x y : Op) (h1 : ltOf cfO x y = false) (h2 : ltOf cfO y x = false) : x = y := by
  rw [ltO_f] at h1 h2
  exact Subtype.ext (key_inj x.2.1 y.2.1 x.2.2 y.2.2 (by omega))
theorem attach_get (l : List Px) (h : ∀ p ∈ l, p.a.Wf ∧ okP p) : ∃ d : List Op, d.map (·.1) = l := ⟨l.attach.map fun x => ⟨x.1, h x.1 x.2⟩, by rw [List.map_map]; show l.attach.map (fun x => x.1) = l; simp⟩
theorem holds_of_range {w : World} {g : Nat} {d : List Op} (h : w.rangeAt g 0 (pxs (d.map (·.1)))) (hf : ∀ j, w.frozen? ⟨g, j, none⟩ = false) : HoldsK encO 18 w g 0 d.toArray := by
  intro j hj
  rw [size_flatK] at hj
  refine ⟨?_, by rw [Nat.zero_add]; exact hf j⟩
  have hd : j / 18 < d.length := by simp at hj; omega
  rw [get_flatK _ _ _ _ hj]
  have e1 : (d.map (·.1))[j / 18]? = some d[j / 18].1 := by rw [List.getElem?_map, List.getElem?_eq_getElem hd]; rfl
  have hw : ∀ q ∈ d.map (·.1), q.a.Wf := fun q hq => by
    obtain ⟨x, _, rfl⟩ := List.mem_map.1 hq
    exact x.2.1
  have hl := pxc_len d[j / 18].2.1
  have e2 := pxs_at _ (j / 18) _ (j % 18) hw e1 (Nat.mod_lt _ (by decide))
  rw [show j / 18 * 18 + j % 18 = j from by omega, List.getElem?_eq_getElem (l := pxc d[j / 18].1) (i := j % 18) (by rw [hl]; exact Nat.mod_lt _ (by decide))] at e2
  rw [h j _ e2]
  have e3 : (d.toArray)[j / 18]! = d[j / 18] := by simp [hd]
  rw [e3]
  show _ = some (id ((encO d[j / 18])[j % 18]!))
  rw [getElem!_pos (encO d[j / 18]) (j % 18) (by rw [encO_len]; exact Nat.mod_lt _ (by decide))]
  rfl
theorem range_of_holds {w : World} {g : Nat} {d : List Op} (h : HoldsK encO 18 w g 0 d.toArray) : w.rangeAt g 0 (pxs (d.map (·.1))) := fun j v hj => by
  have hw : ∀ q ∈ d.map (·.1), q.a.Wf := fun q hq => by
    obtain ⟨x, _, rfl⟩ := List.mem_map.1 hq
    exact x.2.1
  have hlt : j < d.length * 18 := by
    have := (List.getElem?_eq_some_iff.1 hj).1
    rw [pxs_len _ hw] at this
    simpa using this
  have hd : j / 18 < d.length := by omega
  have hh := (h j (by rw [size_flatK]; simpa using hlt)).1
  rw [get_flatK _ _ _ _ (by simpa using hlt)] at hh
  have e1 : (d.map (·.1))[j / 18]? = some d[j / 18].1 := by rw [List.getElem?_map, List.getElem?_eq_getElem hd]; rfl
  have hl := pxc_len d[j / 18].2.1
  have e2 := pxs_at _ (j / 18) _ (j % 18) hw e1 (Nat.mod_lt _ (by decide))
  rw [show j / 18 * 18 + j % 18 = j from by omega, hj, List.getElem?_eq_getElem (l := pxc d[j / 18].1) (i := j % 18) (by rw [hl]; exact Nat.mod_lt _ (by decide))] at e2
  have e3 : (d.toArray)[j / 18]! = d[j / 18] := by simp [hd]
  rw [e3, getElem!_pos (encO d[j / 18]) (j % 18) (by rw [encO_len]; exact Nat.mod_lt _ (by decide))] at hh
  rw [hh, e2]
  rfl
theorem keeps_sorted {w : World} {g n : Nat} {os : Array Obj} (d : Array Op) : Keeps (· = g) w (sortWorldK encO 18 w g 0 n d os) := by
  refine ⟨by unfold sortWorldK; rw [size_grow]; simp [putRowK, putRow, mapBlock, Sort.ahead], fun k hk hne => ?_, rfl, rfl, rfl⟩
  unfold sortWorldK
  rw [heap_grow_old _ _ (by simpa [putRowK, putRow, mapBlock, Sort.ahead] using hk)]
  have : g ≠ k := fun e => hne e.symm
  simp [putRowK, putRow, mapBlock, Sort.ahead, Array.getElem?_modify, this]
theorem sorted_list (d : List Op) : ∃ s : List Px, s.Perm (d.map (·.1)) ∧ s.Pairwise (fun p q => KP p ≤ KP q) ∧ s = ((d.mergeSort fun x y => !(ltOf cfO) y x).map (·.1)) := by
  refine ⟨_, (List.mergeSort_perm d _).map _, ?_, rfl⟩
  rw [List.pairwise_map]
  have := List.pairwise_mergeSort (le := fun x y => !(ltOf cfO) y x) (fun a b c h1 h2 => by simp only [Bool.not_eq_true', ltO_f] at *; omega) (fun a b => by
    simp only [Bool.or_eq_true, Bool.not_eq_true', ltO_f]; omega) d
  refine this.imp fun h => ?_
  simpa only [Bool.not_eq_true', ltO_f] using h
end Go.Proofs.YtgcdhfpbmcfedaaGreatDoor.pf
end
section
set_option linter.unusedVariables false
set_option linter.unusedSimpArgs false
namespace Go.Proofs.YtgcdhfpbmcfedaaGreatDoor.qd
open Go.RowKit Go.Proofs.YtgcdhfpbmcfedaaGreatDoor.oc Go.Proofs.YtgcdhfpbmcfedaaGreatDoor.mz
/-- as Keeps, and no draw is taken back -/
structure Keeps (S : Nat → Prop) (w w' : World) : Prop where
  k : mz.Keeps S w w'
  d : w.drawn ≤ w'.drawn
theorem Keeps.refl (S : Nat → Prop) (w : World) : Keeps S w w := ⟨mz.Keeps.refl S w, Nat.le_refl _⟩
theorem Keeps.trans {S : Nat → Prop} {a b c : World} (h : Keeps S a b) (k : Keeps S b c) : Keeps S a c := ⟨h.k.trans k.k, Nat.le_trans h.d k.d⟩
theorem Keeps.mono {S S' : Nat → Prop} {a b : World} (h : Keeps S a b) (k : ∀ x, x < a.heap.size → S x → S' x) : Keeps S' a b := ⟨h.k.mono k, h.d⟩
theorem Keeps.drew {S : Nat → Prop} {a b : World} (h : Keeps S a b) : Keeps S a b.drew := ⟨h.k.drew, Nat.le_trans h.d (by simp)⟩
theorem Keeps.alloc {S : Nat → Prop} {a b : World} (h : Keeps S a b) (o : Obj) : Keeps S a (b.alloc o) := ⟨h.k.alloc o, h.d⟩
theorem Keeps.of_drew {S : Nat → Prop} (w : World) (n : Nat) : Keeps S w (w.drewN n) := ⟨mz.Keeps.of_drew w n, Nat.le_add_right _ _⟩
/-- all that was is as it was -/
def Old (w w' : World) : Prop := Keeps (fun _ => False) w w'
theorem Old.refl (w : World) : Old w w := Keeps.refl _ w
theorem Old.trans {a b c : World} (h : Old a b) (k : Old b c) : Old a c := qd.Keeps.trans h k
theorem Old.all {a b : World} (h : Old a b) : ∀ S, Keeps S a b := fun S => qd.Keeps.mono h (fun _ _ z => z.elim)
theorem Old.of {a b : World} (h : ∀ S, Keeps S a b) : Old a b := h _
theorem Old.drew {a b : World} (h : Old a b) : Old a b.drew := qd.Keeps.drew h
theorem Old.blk {w w' : World} {g : Nat} {t : TypeId} {cs : List Value} (h : Old w w') (b : Blk w g t cs) : Blk w' g t cs := Blk.keeps b h.k (fun z => z)
/-- the walk in the order of the text, shut (an open one is reckoned out wherever a word is fitted to it) -/
@[irreducible] def WQ (P : Program) (ops : Array Oper) (C : World → Prop) (Q : Act → Prop) (l : List Oper) (a : Act) : Prop := wpQuiet P ops C Q l a
section
variable {P : Program} {ops : Array Oper} {C : World → Prop} {Q : Act → Prop} {rest : List Oper} {o : Oper} {a : Act}
theorem q_nil (h : Q a) : WQ P ops C Q [] a := by unfold WQ; exact h
theorem q_skip (hw : Region.wanted o (yielded ops a.tmps) = false) (h : WQ P ops C Q rest (a.put o.dst undef)) : WQ P ops C Q (o :: rest) a := by
  unfold WQ at h ⊢
  unfold wpQuiet
  rw [if_neg (by rw [hw]; simp)]
  exact h
theorem q_any (hw : Region.wanted o (yielded ops a.tmps) = true) (v : Value) (hr : ∀ w, C w → (execOp a.eval o).run P w = .ok (.value v) w) (h : WQ P ops C Q rest (a.put o.dst v)) : WQ P ops C Q (o :: rest) a := by
  unfold WQ at h ⊢
  unfold wpQuiet
  rw [if_pos hw]
  refine ⟨v, fun w hC => ?_, h⟩
  unfold Oper.quietAt
  rw [hr w hC]
  exact ⟨rfl, rfl⟩
theorem q_call {f : FuncId} {args : Array Value} {v : Value} (hw : Region.wanted o (yielded ops a.tmps) = true) (hc : ∀ w, C w → Calls P f args w fun e w' => e = .returned v ∧ C w') (hr : ∀ w, (execOp a.eval o).run P w = .ok (.enter f args) w)
    (h : WQ P ops C Q rest (a.put o.dst v)) : WQ P ops C Q (o :: rest) a := by
  unfold WQ at h ⊢
  unfold wpQuiet
  rw [if_pos hw]
  refine ⟨v, fun w hC => ?_, h⟩
  unfold Oper.quietAt
  rw [hr w]
  exact ⟨rfl, hc w hC⟩
theorem q_load (hw : Region.wanted o (yielded ops a.tmps) = true) (ty : TypeId) (x : Operand) (ho : o.op = .load ty x)
    (b off : Nat) (hx : a.eval x = .pointer (some ⟨b, off, none⟩)) (cs : List Value) (d : TypeDesc) (hc : ∀ w, C w → w.rangeAt b off cs)
    (hu : P.underlying ty = some d) (hd : d.isRow = true) (hi : (P.info? ty).map (·.size) = some cs.length)
    (h : WQ P ops C Q rest (a.put o.dst (.agg cs.toArray))) : WQ P ops C Q (o :: rest) a := by
  unfold WQ at h ⊢
  exact wh.quiet_load hw ty x ho b off hx cs d hc hu hd hi h
theorem q_region {id : Nat} {Q : Exit → Act → World → Prop} {a : Act} {w w0 : World} {l : List Oper} (hm : P.follows .mixedOrders = true) (hB : Region.lexB .any l.toArray = true) (hC : Old w0 w)
    (h : WQ P l.toArray (Old w0) (fun a' => ∀ w', Old w0 w' → Q .normal a' w') l a) : (Code.region id l.toArray true).wp P Q a w := by
  unfold WQ at h
  exact wp_region_quiet (C := Old w0) hm hB (Old.drew hC) (by simpa using h)
/-- the same of a region that goes in the order of the text; it may stop ahead of what writes -/
@[irreducible] def WX (P : Program) (ops : Array Oper) (C : World → Prop) (Q : Exit → Act → World → Prop) (l : List Oper) (a : Act) : Prop := ∀ w, C w → wpList P ops Q l a w
section
variable {Q : Exit → Act → World → Prop}
theorem x_nil (h : ∀ w, C w → Q .normal a w) : WX P ops C Q [] a := by unfold WX; exact h
theorem x_stop {l : List Oper} (h : ∀ w, C w → wpList P ops Q l a w) : WX P ops C Q l a := by unfold WX; exact h
theorem x_skip (hw : Region.wanted o (yielded ops a.tmps) = false) (h : WX P ops C Q rest (a.put o.dst undef)) : WX P ops C Q (o :: rest) a := by
  unfold WX at h ⊢
  intro w hC
  unfold wpList
  rw [if_neg (by rw [hw]; simp)]
  exact h w hC
theorem x_any (hw : Region.wanted o (yielded ops a.tmps) = true) (v : Value) (hr : ∀ w, C w → (execOp a.eval o).run P w = .ok (.value v) w) (h : WX P ops C Q rest (a.put o.dst v)) : WX P ops C Q (o :: rest) a := by
  unfold WX at h ⊢
  intro w hC
  unfold wpList
  rw [if_pos hw]
  left
  have hq : o.quiet P a C (fun a' => a' = a.put o.dst v) := ⟨v, fun w hC => by unfold Oper.quietAt; rw [hr w hC]; exact ⟨rfl, rfl⟩, rfl⟩
  exact Oper.wp_of_quiet hC (fun a' w' hC' e => by rw [e]; exact h w' hC') hq
theorem x_call {f : FuncId} {args : Array Value} {v : Value} (hw : Region.wanted o (yielded ops a.tmps) = true) (hc : ∀ w, C w → Calls P f args w fun e w' => e = .returned v ∧ C w') (hr : ∀ w, (execOp a.eval o).run P w = .ok (.enter f args) w)
    (h : WX P ops C Q rest (a.put o.dst v)) : WX P ops C Q (o :: rest) a := by
  unfold WX at h ⊢
  intro w hC
  unfold wpList
  rw [if_pos hw]
  left
  have hq : o.quiet P a C (fun a' => a' = a.put o.dst v) := ⟨v, fun w hC => by unfold Oper.quietAt; rw [hr w]; exact ⟨rfl, hc w hC⟩, rfl⟩
  exact Oper.wp_of_quiet hC (fun a' w' hC' e => by rw [e]; exact h w' hC') hq
theorem x_load (hw : Region.wanted o (yielded ops a.tmps) = true) (ty : TypeId) (x : Operand) (ho : o.op = .load ty x)
    (b off : Nat) (hx : a.eval x = .pointer (some ⟨b, off, none⟩)) (cs : List Value) (d : TypeDesc) (hc : ∀ w, C w → w.rangeAt b off cs)
    (hu : P.underlying ty = some d) (hd : d.isRow = true) (hi : (P.info? ty).map (·.size) = some cs.length)
    (h : WX P ops C Q rest (a.put o.dst (.agg cs.toArray))) : WX P ops C Q (o :: rest) a := by
  unfold WX at h ⊢
  intro w hC
  unfold wpList
  rw [if_pos hw]
  left
  exact wp_load_mid ty x ho b off hx cs d (hc w hC) hu hd hi (h w hC)
theorem x_list {l : List Oper} {w w0 : World} (hC : Old w0 w) (h : WX P ops (Old w0) Q l a) : wpList P ops Q l a w := by
  unfold WX at h
  exact h w hC
theorem x_region {id : Nat} {a : Act} {w w0 : World} {l : List Oper} (hC : Old w0 w) (h : WX P l.toArray (Old w0) Q l a) : (Code.region id l.toArray false).wp P Q a w := by
  unfold WX at h
  exact wp_region_lit (h w hC)
end
theorem old_call {f : FuncId} {args : Array Value} {v : Value} {w0 w : World} (hC : Old w0 w) (h : Calls P f args w fun e w' => e = .returned v ∧ ∀ S, Keeps S w w') : Calls P f args w fun e w' => e = .returned v ∧ Old w0 w' :=
  h.mono fun _ _ ⟨he, k⟩ => ⟨he, hC.trans (k _)⟩
theorem old_call_d {f : FuncId} {args : Array Value} {v : Value} {w0 w : World} (hC : Old w0 w) (h : Calls P f args w fun e w' => e = .returned v ∧ ∃ d, w' = w.drewN d) : Calls P f args w fun e w' => e = .returned v ∧ Old w0 w' :=
  h.mono fun _ _ ⟨he, d, k⟩ => ⟨he, hC.trans (by rw [k]; exact Keeps.of_drew w d)⟩
theorem old_call_s {f : FuncId} {args : Array Value} {v : Value} {w0 w : World} (hC : Old w0 w) (h : Calls P f args w fun e w' => e = .returned v ∧ w = w') : Calls P f args w fun e w' => e = .returned v ∧ Old w0 w' :=
  h.mono fun _ _ ⟨he, k⟩ => ⟨he, by rw [← k]; exact hC⟩
end
/-- all that is new is behind -/
theorem Old.grown {w w' : World} (h : qd.Old w w') : ∃ q os, w' = Sort.grow (w.drewN q) os := by
  refine ⟨w'.drawn - w.drawn, w'.heap.extract w.heap.size w'.heap.size, ?_⟩
  have h1 := h.k.size
  have h2 := h.d
  have h3 := h.k.same
  have hh : w'.heap = w.heap ++ w'.heap.extract w.heap.size w'.heap.size := by
    apply Array.ext_getElem?
    intro i
    rw [Array.getElem?_append]
    by_cases c : i < w.heap.size
    · rw [if_pos c]; exact h.k.block i c (fun z => z)
    · rw [if_neg c, Array.getElem?_extract]
      by_cases e : i < w'.heap.size
      · rw [if_pos (by omega)]; congr 1; omega
      · rw [if_neg (by omega), Array.getElem?_eq_none (by omega)]
  have hd : w.drawn + (w'.drawn - w.drawn) = w'.drawn := by omega
  cases w' with
  | mk heap tape drawn os output =>
    simp only at hh hd h3
    obtain ⟨e1, e2, e3⟩ := h3
    simp only at e1 e2 e3
    show _ = World.mk (w.heap ++ _) w.tape (w.drawn + _) w.os w.output
    rw [hd, ← hh, e1, e2, e3]
end Go.Proofs.YtgcdhfpbmcfedaaGreatDoor.qd
end
section
set_option linter.unusedVariables false
set_option linter.unusedSimpArgs false
namespace Go.Proofs.YtgcdhfpbmcfedaaGreatDoor.qd
open Go.RowKit Go.Proofs.YtgcdhfpbmcfedaaGreatDoor.oc Go.Proofs.YtgcdhfpbmcfedaaGreatDoor.mz Go.Proofs.YtgcdhfpbmcfedaaGreatDoor.wh Go.Proofs.YtgcdhfpbmcfedaaGreatDoor.pf
theorem box_two (w : World) (c d : List Value) (t u : TypeId) : ∃ w1, w1 = (w.alloc (.cells c.toArray t)).alloc (.cells d.toArray u) ∧ (∀ S, qd.Keeps S w w1) ∧ Blk w1 w.heap.size t c ∧ Blk w1 (w.heap.size + 1) u d := by
  obtain ⟨w1, h1, h2, h3⟩ := pf.box_two w c d t u
  exact ⟨w1, h1, fun S => ⟨h2 S, by rw [h1]; exact Nat.le_refl _⟩, h3⟩
theorem px_facts {w1 : World} {b : Nat} {p : Px} (hp : p.a.Wf) (b1 : Blk w1 b 28 (pxc p)) (w' : World) (h : qd.Old w1 w') : w'.rangeAt b 0 (pxc p) ∧ w'.rangeAt b 0 (adc p.a) ∧ w'.rangeAt b 1 (b8s p.a.B) ∧ w'.cell? ⟨b, 17, none⟩ = some (.int .i64 p.bits) ∧ w'.cell? ⟨b, 0, none⟩ = some (.bool p.a.v6) := pf.px_facts hp b1 w' h.k
section
variable (w : World)
set_option maxRecDepth 100000 in
set_option maxHeartbeats 1000000 in
theorem pwidth_ (a : Ad) : Calls Tryz.prog 42 #[av a] w fun e w' => e = .returned (.int .i64 (wid a : Int)) ∧ ∀ S, Keeps S w w' := by
  have b1 := Blk.new w 24 (adc a).toArray
  have x0 := ad_v6 b1
  have hc := wid_cases a
  unfold av
  generalize (adc a).toArray = C at *
  clear b1
  rcases hc with ⟨h, e⟩ | ⟨h, e⟩
  all_goals
    rw [h] at x0
    rw [e]
    clear h e
    go_enter Tryz.func42, Tryz.ntmps42
    go_wp2
    try rw [Exit.noGoto_ret]
    go_ret
    exact ⟨rfl, fun S => (Keeps.refl S w).alloc _⟩
set_option maxRecDepth 100000 in
set_option maxHeartbeats 1000000 in
theorem nani_ (x : Int) : Calls Tryz.prog 65 #[.int .i64 x] w fun e w' => e = .returned (.bool false) ∧ ∀ S, Keeps S w w' := by
  go_enter Tryz.func65, Tryz.ntmps65
  go_wp2
  try rw [Exit.noGoto_ret]
  go_ret
  exact ⟨by simp, fun S => Keeps.refl S w⟩
set_option maxRecDepth 100000 in
set_option maxHeartbeats 1000000 in
theorem cmpi_ (x y : Int) : Calls Tryz.prog 44 #[.int .i64 x, .int .i64 y] w fun e w' => e = .returned (.int .i64 (cmpi x y)) ∧ ∀ S, Keeps S w w' := by
  have HX := fun w => Lib.hid (nani_ w x)
  have HY := fun w => Lib.hid (nani_ w y)
  have hc : (x < y ∧ cmpi x y = -1) ∨ ((¬ x < y ∧ y < x) ∧ cmpi x y = 1) ∨ ((¬ x < y ∧ ¬ y < x) ∧ cmpi x y = 0) := by
    unfold cmpi
    by_cases h1 : x < y
    · exact .inl ⟨h1, if_pos h1⟩
    · by_cases h2 : y < x
      · exact .inr (.inl ⟨⟨h1, h2⟩, by rw [if_neg h1, if_pos h2]⟩)
      · exact .inr (.inr ⟨⟨h1, h2⟩, by rw [if_neg h1, if_neg h2]⟩)
  have first : ∀ r : Int, (x < y ∧ r = -1) ∨ ((¬ x < y ∧ y < x) ∧ r = 1) ∨ ((¬ x < y ∧ ¬ y < x) ∧ r = 0) → Calls Tryz.prog 44 #[.int .i64 x, .int .i64 y] w fun e w' => e = .returned (.int .i64 r) ∧ ∀ S, Keeps S w w' := by
    intro r hr
    clear hc
    rcases hr with ⟨h1, rfl⟩ | ⟨⟨h1, h2⟩, rfl⟩ | ⟨⟨h1, h2⟩, rfl⟩
    all_goals
      go_enter Tryz.func44, Tryz.ntmps44
      go_wp2_with fail
      refine (HX _).out.mono ?_
      rintro e w1 ⟨rfl, k1⟩
      have K1 := Lib.hid k1
      clear k1
      go_wp2_with fail
      refine (HY _).out.mono ?_
      rintro e w2 ⟨rfl, k2⟩
      have K2 : Hid (∀ S, Keeps S w w2) := Lib.hid (fun S => (K1.out S).trans (k2 S))
      clear k2
      go_wp2
      try rw [Exit.noGoto_ret]
      go_ret
      exact ⟨rfl, K2.out⟩
  exact first _ hc
set_option maxRecDepth 100000 in
set_option maxHeartbeats 1000000 in
theorem bytescmp_ (l m : List Nat) (b c o p n1 n2 : Nat) (hl : ∀ x ∈ l, x < 256) (hm : ∀ x ∈ m, x < 256) (he : l.length = m.length) (h1 : ∀ j x, l[j]? = some x → w.cell? ⟨b, o + j, none⟩ = some (.int .u8 ((x : Nat) : Int))) (h2 : ∀ j x, m[j]? = some x → w.cell? ⟨c, p + j, none⟩ = some (.int .u8 ((x : Nat) : Int))) :
    Calls Tryz.prog 45 #[.slice (some ⟨b, o, none⟩) l.length n1, .slice (some ⟨c, p, none⟩) m.length n2] w fun e w' => e = .returned (.int .i64 (cmpB l m)) ∧ ∀ S, Keeps S w w' := by
  have hr : (Extern.BytealgCompare.compare #[.slice (some ⟨b, o, none⟩) l.length n1, .slice (some ⟨c, p, none⟩) m.length n2]).run Tryz.prog w = .ok (.int .i64 (cmpB l m)) w := by
    change Sem.run Tryz.prog (do pure (goInt (Extern.BytealgCompare.cmp (← Extern.Bytes.loadBytes ⟨b, o, none⟩ l.length .empty) (← Extern.Bytes.loadBytes ⟨c, p, none⟩ m.length .empty)))) w = _
    rw [Sem.run_bind, run_bytes _ w b l o _ h1]
    simp only [Result.andThen_ok]
    rw [Sem.run_bind, run_bytes _ w c m p _ h2]
    simp only [Result.andThen_ok, Sem.run_pure]
    rw [Lib.cmp_eq, ← cmp_bytes l m hl hm he]
    simp [goInt]
  clear h1 h2 hl hm
  generalize cmpB l m = r at *
  generalize l.length = n at *
  generalize m.length = k at *
  subst he
  go_enter Tryz.func45, Tryz.ntmps45
  go_wp2
  rw [run_callFunc_extern Tryz.func66 (by kernel_rfl) (by kernel_rfl) (by kernel_rfl) (e := Extern.BytealgCompare.compare) (by kernel_rfl), hr]
  simp only [Result.andThen]
  rw [Oper.upon_value]
  go_wp2
  go_ret
  exact ⟨rfl, fun S => Keeps.refl S w⟩
set_option maxRecDepth 100000 in
set_option maxHeartbeats 4000000 in
theorem pcompare_kind (p q : Px) (hp : p.a.Wf) (hq : q.a.Wf) (hv : ¬ p.a.v6 = q.a.v6) : Calls Tryz.prog 18 #[pv p, pv q] w fun e w' => e = .returned (.int .i64 (cmp p q)) ∧ ∀ S, Keeps S w w' := by
  obtain ⟨w1, hw1, k1, bP, bQ⟩ := box_two w (pxc p) (pxc q) 28 28
  have HSA0 := Lib.hid (ad_sz hp)
  have HSA1 := Lib.hid (ad_sz hq)
  have HS0 := Lib.hid (b8_info hp.len)
  have HS1 := Lib.hid (b8_info hq.len)
  have HF := px_facts hp bP
  have HG := px_facts hq bQ
  have HN := fun w => Lib.hid (b8_equ p.a.B q.a.B hp.len hq.len w)

  have HCW0 := fun w => Lib.hid (pwidth_ w p.a)
  have HCW1 := fun w => Lib.hid (pwidth_ w q.a)
  have HCC := fun w => Lib.hid (cmpi_ w (wid p.a : Int) (wid q.a : Int))
  have he : cmp p q = cmpi (wid p.a : Int) (wid q.a : Int) := by
    unfold cmp cmpi
    rw [if_neg hv]
    rcases wid_cases p.a with ⟨v1, e1⟩ | ⟨v1, e1⟩ <;> rcases wid_cases q.a with ⟨v2, e2⟩ | ⟨v2, e2⟩ <;> rw [e1, e2, v2] <;> simp_all
  have hve : (p.a.v6 == q.a.v6) = false := by simpa using hv
  rw [he]
  unfold av at HCW0 HCW1
  generalize cmpi (wid p.a : Int) (wid q.a : Int) = r at *
  generalize wid p.a = W0 at *
  generalize wid q.a = W1 at *
  clear he hv
  have HW := Lib.hid hw1
  have K1 : Hid (∀ S, Keeps S w w1) := Lib.hid k1
  unfold pv
  clear hw1 k1 bP bQ hp hq
  generalize p.a.B = B0 at *
  generalize q.a.B = B1 at *
  generalize p.bits = i0 at *
  generalize q.bits = i1 at *
  generalize adc p.a = C0 at *
  generalize adc q.a = C1 at *
  generalize p.a.v6 = v0 at *
  generalize q.a.v6 = v1 at *
  generalize pxc p = CP at *
  generalize pxc q = CQ at *
  go_enter Tryz.func18, Tryz.ntmps18
  go_wp2_with ((with_reducible show wpList _ _ _ (⟨some 5, _, _, _, _, _⟩ :: _) _ _); rw [← HW.out]; refine x_list (Old.refl w1) ?_)
  --@0
  refine x_any (by kernel_rfl) ?_ (fun wq hC => ?_) ?_
  rotate_left
  · (go_simp) <;> (try (with_reducible rfl))
  try simp only [Act.put, Array.getInternal_eq_getElem, List.getElem_toArray, List.getElem_cons_zero, List.getElem_cons_succ, List.setIfInBounds_toArray, List.set_cons_zero, List.set_cons_succ]
  --@1
  refine x_any (by kernel_rfl) ?_ (fun wq hC => ?_) ?_
  rotate_left
  · (go_simp) <;> (try (with_reducible rfl))
  try simp only [Act.put, Array.getInternal_eq_getElem, List.getElem_toArray, List.getElem_cons_zero, List.getElem_cons_succ, List.setIfInBounds_toArray, List.set_cons_zero, List.set_cons_succ]
  --@2
  refine x_any (by kernel_rfl) ?_ (fun wq hC => ?_) ?_
  rotate_left
  · (have hF := (HF wq hC); (try dsimp only at hF); go_simp) <;> (try (with_reducible rfl))
  try simp only [Act.put, Array.getInternal_eq_getElem, List.getElem_toArray, List.getElem_cons_zero, List.getElem_cons_succ, List.setIfInBounds_toArray, List.set_cons_zero, List.set_cons_succ]
  --@3
  refine x_any (by kernel_rfl) ?_ (fun wq hC => ?_) ?_
  rotate_left
  · (go_simp) <;> (try (with_reducible rfl))
  try simp only [Act.put, Array.getInternal_eq_getElem, List.getElem_toArray, List.getElem_cons_zero, List.getElem_cons_succ, List.setIfInBounds_toArray, List.set_cons_zero, List.set_cons_succ]
  --@4
  refine x_any (by kernel_rfl) ?_ (fun wq hC => ?_) ?_
  rotate_left
  · (go_simp) <;> (try (with_reducible rfl))
  try simp only [Act.put, Array.getInternal_eq_getElem, List.getElem_toArray, List.getElem_cons_zero, List.getElem_cons_succ, List.setIfInBounds_toArray, List.set_cons_zero, List.set_cons_succ]
  --@5
  refine x_any (by kernel_rfl) ?_ (fun wq hC => ?_) ?_
  rotate_left
  · (have hF := (HG wq hC); (try dsimp only at hF); go_simp) <;> (try (with_reducible rfl))
  try simp only [Act.put, Array.getInternal_eq_getElem, List.getElem_toArray, List.getElem_cons_zero, List.getElem_cons_succ, List.setIfInBounds_toArray, List.set_cons_zero, List.set_cons_succ]
  --@6
  refine x_any (by kernel_rfl) ?_ (fun wq hC => ?_) ?_
  rotate_left
  · (go_simp) <;> (try (with_reducible rfl))
  try simp only [Act.put, Array.getInternal_eq_getElem, List.getElem_toArray, List.getElem_cons_zero, List.getElem_cons_succ, List.setIfInBounds_toArray, List.set_cons_zero, List.set_cons_succ]
  refine x_nil ?_
  intro wa kwa
  go_wp2_with fail
  refine q_region (by kernel_rfl) (by kernel_rfl) kwa ?_
  --@0
  refine q_any (by kernel_rfl) ?_ (fun wq hC => ?_) ?_
  rotate_left
  · (go_simp) <;> (try (with_reducible rfl))
  try simp only [Act.put, Array.getInternal_eq_getElem, List.getElem_toArray, List.getElem_cons_zero, List.getElem_cons_succ, List.setIfInBounds_toArray, List.set_cons_zero, List.set_cons_succ]
  --@1
  refine q_load (by kernel_rfl) 24 _ rfl w.heap.size 0 rfl C0 _ (fun wq hC => (HF wq hC).2.1) Tryz.underlying24 rfl HSA0.out ?_
  try simp only [Act.put, Array.getInternal_eq_getElem, List.getElem_toArray, List.getElem_cons_zero, List.getElem_cons_succ, List.setIfInBounds_toArray, List.set_cons_zero, List.set_cons_succ]
  --@2
  refine q_call (by kernel_rfl) (fun wq hC => old_call hC (HCW0 wq).out) (fun wq => ?_) ?_
  · go_simp <;> (try (with_reducible rfl))
  try simp only [Act.put, Array.getInternal_eq_getElem, List.getElem_toArray, List.getElem_cons_zero, List.getElem_cons_succ, List.setIfInBounds_toArray, List.set_cons_zero, List.set_cons_succ]
  --@3
  refine q_any (by kernel_rfl) ?_ (fun wq hC => ?_) ?_
  rotate_left
  · (go_simp) <;> (try (with_reducible rfl))
  try simp only [Act.put, Array.getInternal_eq_getElem, List.getElem_toArray, List.getElem_cons_zero, List.getElem_cons_succ, List.setIfInBounds_toArray, List.set_cons_zero, List.set_cons_succ]
  --@4
  refine q_load (by kernel_rfl) 24 _ rfl (w.heap.size + 1) 0 rfl C1 _ (fun wq hC => (HG wq hC).2.1) Tryz.underlying24 rfl HSA1.out ?_
  try simp only [Act.put, Array.getInternal_eq_getElem, List.getElem_toArray, List.getElem_cons_zero, List.getElem_cons_succ, List.setIfInBounds_toArray, List.set_cons_zero, List.set_cons_succ]
  --@5
  refine q_call (by kernel_rfl) (fun wq hC => old_call hC (HCW1 wq).out) (fun wq => ?_) ?_
  · go_simp <;> (try (with_reducible rfl))
  try simp only [Act.put, Array.getInternal_eq_getElem, List.getElem_toArray, List.getElem_cons_zero, List.getElem_cons_succ, List.setIfInBounds_toArray, List.set_cons_zero, List.set_cons_succ]
  --@6
  refine q_call (by kernel_rfl) (fun wq hC => old_call hC (HCC wq).out) (fun wq => ?_) ?_
  · go_simp <;> (try (with_reducible rfl))
  try simp only [Act.put, Array.getInternal_eq_getElem, List.getElem_toArray, List.getElem_cons_zero, List.getElem_cons_succ, List.setIfInBounds_toArray, List.set_cons_zero, List.set_cons_succ]
  --@7
  refine q_any (by kernel_rfl) ?_ (fun wq hC => ?_) ?_
  rotate_left
  · (go_simp) <;> (try (with_reducible rfl))
  try simp only [Act.put, Array.getInternal_eq_getElem, List.getElem_toArray, List.getElem_cons_zero, List.getElem_cons_succ, List.setIfInBounds_toArray, List.set_cons_zero, List.set_cons_succ]
  refine q_nil ?_
  intro wz kwz
  clear HF HG HN
  have KZ : Hid (∀ S, Keeps S w wz) := Lib.hid (fun S => (K1.out S).trans (kwz.all S))
  clear kwz
  go_wp2
  try rw [Exit.noGoto_ret]
  go_ret
  exact ⟨rfl, KZ.out⟩
set_option maxRecDepth 100000 in
set_option maxHeartbeats 4000000 in
theorem pcompare_bytes (p q : Px) (hp : p.a.Wf) (hq : q.a.Wf) (hv : p.a.v6 = q.a.v6) (hB : ¬ p.a.B = q.a.B) : Calls Tryz.prog 18 #[pv p, pv q] w fun e w' => e = .returned (.int .i64 (cmp p q)) ∧ ∀ S, Keeps S w w' := by
  obtain ⟨w1, hw1, k1, bP, bQ⟩ := box_two w (pxc p) (pxc q) 28 28
  have HSA0 := Lib.hid (ad_sz hp)
  have HSA1 := Lib.hid (ad_sz hq)
  have HS0 := Lib.hid (b8_info hp.len)
  have HS1 := Lib.hid (b8_info hq.len)
  have HF := px_facts hp bP
  have HG := px_facts hq bQ
  have HN := fun w => Lib.hid (b8_equ p.a.B q.a.B hp.len hq.len w)

  have HCB := fun (w9 : World) (h9 : Old w1 w9) => Lib.hid (bytescmp_ w9 p.a.B q.a.B w.heap.size (w.heap.size + 1) 1 1 16 16 hp.sm hq.sm (hp.len.trans hq.len.symm) (b8_at (HF w9 h9).2.2.1) (b8_at (HG w9 h9).2.2.1))
  have he : cmp p q = cmpB p.a.B q.a.B := by
    unfold cmp
    rw [if_pos hv, if_pos (fun z => hB (cmpB_zero _ _ z (hp.len.trans hq.len.symm)))]
  have hve : (p.a.v6 == q.a.v6) = true := by simpa using hv
  rw [show (p.a.B == q.a.B) = false from by simpa using hB] at HN
  rw [he]
  rw [hp.len, hq.len] at HCB
  generalize cmpB p.a.B q.a.B = r at *
  clear he hv hB
  have HW := Lib.hid hw1
  have K1 : Hid (∀ S, Keeps S w w1) := Lib.hid k1
  unfold pv
  clear hw1 k1 bP bQ hp hq
  generalize p.a.B = B0 at *
  generalize q.a.B = B1 at *
  generalize p.bits = i0 at *
  generalize q.bits = i1 at *
  generalize adc p.a = C0 at *
  generalize adc q.a = C1 at *
  generalize p.a.v6 = v0 at *
  generalize q.a.v6 = v1 at *
  generalize pxc p = CP at *
  generalize pxc q = CQ at *
  go_enter Tryz.func18, Tryz.ntmps18
  go_wp2_with ((with_reducible show wpList _ _ _ (⟨some 5, _, _, _, _, _⟩ :: _) _ _); rw [← HW.out]; refine x_list (Old.refl w1) ?_)
  --@0
  refine x_any (by kernel_rfl) ?_ (fun wq hC => ?_) ?_
  rotate_left
  · (go_simp) <;> (try (with_reducible rfl))
  try simp only [Act.put, Array.getInternal_eq_getElem, List.getElem_toArray, List.getElem_cons_zero, List.getElem_cons_succ, List.setIfInBounds_toArray, List.set_cons_zero, List.set_cons_succ]
  --@1
  refine x_any (by kernel_rfl) ?_ (fun wq hC => ?_) ?_
  rotate_left
  · (go_simp) <;> (try (with_reducible rfl))
  try simp only [Act.put, Array.getInternal_eq_getElem, List.getElem_toArray, List.getElem_cons_zero, List.getElem_cons_succ, List.setIfInBounds_toArray, List.set_cons_zero, List.set_cons_succ]
  --@2
  refine x_any (by kernel_rfl) ?_ (fun wq hC => ?_) ?_
  rotate_left
  · (have hF := (HF wq hC); (try dsimp only at hF); go_simp) <;> (try (with_reducible rfl))
  try simp only [Act.put, Array.getInternal_eq_getElem, List.getElem_toArray, List.getElem_cons_zero, List.getElem_cons_succ, List.setIfInBounds_toArray, List.set_cons_zero, List.set_cons_succ]
  --@3
  refine x_any (by kernel_rfl) ?_ (fun wq hC => ?_) ?_
  rotate_left
  · (go_simp) <;> (try (with_reducible rfl))
  try simp only [Act.put, Array.getInternal_eq_getElem, List.getElem_toArray, List.getElem_cons_zero, List.getElem_cons_succ, List.setIfInBounds_toArray, List.set_cons_zero, List.set_cons_succ]
  --@4
  refine x_any (by kernel_rfl) ?_ (fun wq hC => ?_) ?_
  rotate_left
  · (go_simp) <;> (try (with_reducible rfl))
  try simp only [Act.put, Array.getInternal_eq_getElem, List.getElem_toArray, List.getElem_cons_zero, List.getElem_cons_succ, List.setIfInBounds_toArray, List.set_cons_zero, List.set_cons_succ]
  --@5
  refine x_any (by kernel_rfl) ?_ (fun wq hC => ?_) ?_
  rotate_left
  · (have hF := (HG wq hC); (try dsimp only at hF); go_simp) <;> (try (with_reducible rfl))
  try simp only [Act.put, Array.getInternal_eq_getElem, List.getElem_toArray, List.getElem_cons_zero, List.getElem_cons_succ, List.setIfInBounds_toArray, List.set_cons_zero, List.set_cons_succ]
  --@6
  refine x_any (by kernel_rfl) ?_ (fun wq hC => ?_) ?_
  rotate_left
  · (go_simp) <;> (try (with_reducible rfl))
  try simp only [Act.put, Array.getInternal_eq_getElem, List.getElem_toArray, List.getElem_cons_zero, List.getElem_cons_succ, List.setIfInBounds_toArray, List.set_cons_zero, List.set_cons_succ]
  refine x_nil ?_
  intro wa kwa
  go_wp2_with ((with_reducible show wpList _ _ _ (⟨some 19, _, _, _, _, _⟩ :: _) _ _); refine x_list kwa ?_)
  --@0
  refine x_any (by kernel_rfl) ?_ (fun wq hC => ?_) ?_
  rotate_left
  · (go_simp) <;> (try (with_reducible rfl))
  try simp only [Act.put, Array.getInternal_eq_getElem, List.getElem_toArray, List.getElem_cons_zero, List.getElem_cons_succ, List.setIfInBounds_toArray, List.set_cons_zero, List.set_cons_succ]
  --@1
  refine x_any (by kernel_rfl) ?_ (fun wq hC => ?_) ?_
  rotate_left
  · (go_simp) <;> (try (with_reducible rfl))
  try simp only [Act.put, Array.getInternal_eq_getElem, List.getElem_toArray, List.getElem_cons_zero, List.getElem_cons_succ, List.setIfInBounds_toArray, List.set_cons_zero, List.set_cons_succ]
  --@2
  refine x_load (by kernel_rfl) 22 _ rfl w.heap.size 1 rfl (b8s B0) _ (fun wq hC => (HF wq hC).2.2.1) Tryz.underlying22 rfl HS0.out ?_
  try simp only [Act.put, Array.getInternal_eq_getElem, List.getElem_toArray, List.getElem_cons_zero, List.getElem_cons_succ, List.setIfInBounds_toArray, List.set_cons_zero, List.set_cons_succ]
  --@3
  refine x_any (by kernel_rfl) ?_ (fun wq hC => ?_) ?_
  rotate_left
  · (go_simp) <;> (try (with_reducible rfl))
  try simp only [Act.put, Array.getInternal_eq_getElem, List.getElem_toArray, List.getElem_cons_zero, List.getElem_cons_succ, List.setIfInBounds_toArray, List.set_cons_zero, List.set_cons_succ]
  --@4
  refine x_any (by kernel_rfl) ?_ (fun wq hC => ?_) ?_
  rotate_left
  · (go_simp) <;> (try (with_reducible rfl))
  try simp only [Act.put, Array.getInternal_eq_getElem, List.getElem_toArray, List.getElem_cons_zero, List.getElem_cons_succ, List.setIfInBounds_toArray, List.set_cons_zero, List.set_cons_succ]
  --@5
  refine x_load (by kernel_rfl) 22 _ rfl (w.heap.size + 1) 1 rfl (b8s B1) _ (fun wq hC => (HG wq hC).2.2.1) Tryz.underlying22 rfl HS1.out ?_
  try simp only [Act.put, Array.getInternal_eq_getElem, List.getElem_toArray, List.getElem_cons_zero, List.getElem_cons_succ, List.setIfInBounds_toArray, List.set_cons_zero, List.set_cons_succ]
  --@6
  refine x_any (by kernel_rfl) ?_ (fun wq hC => ?_) ?_
  rotate_left
  · (have hN := (HN wq).out; go_simp) <;> (try (with_reducible rfl))
  try simp only [Act.put, Array.getInternal_eq_getElem, List.getElem_toArray, List.getElem_cons_zero, List.getElem_cons_succ, List.setIfInBounds_toArray, List.set_cons_zero, List.set_cons_succ]
  refine x_nil ?_
  intro wb kwb
  go_wp2_with fail
  refine q_region (by kernel_rfl) (by kernel_rfl) kwb ?_
  --@0
  refine q_any (by kernel_rfl) ?_ (fun wq hC => ?_) ?_
  rotate_left
  · (go_simp) <;> (try (with_reducible rfl))
  try simp only [Act.put, Array.getInternal_eq_getElem, List.getElem_toArray, List.getElem_cons_zero, List.getElem_cons_succ, List.setIfInBounds_toArray, List.set_cons_zero, List.set_cons_succ]
  --@1
  refine q_any (by kernel_rfl) ?_ (fun wq hC => ?_) ?_
  rotate_left
  · (go_simp) <;> (try (with_reducible rfl))
  try simp only [Act.put, Array.getInternal_eq_getElem, List.getElem_toArray, List.getElem_cons_zero, List.getElem_cons_succ, List.setIfInBounds_toArray, List.set_cons_zero, List.set_cons_succ]
  --@2
  refine q_any (by kernel_rfl) ?_ (fun wq hC => ?_) ?_
  rotate_left
  · (go_simp) <;> (try (with_reducible rfl))
  try simp only [Act.put, Array.getInternal_eq_getElem, List.getElem_toArray, List.getElem_cons_zero, List.getElem_cons_succ, List.setIfInBounds_toArray, List.set_cons_zero, List.set_cons_succ]
  --@3
  refine q_any (by kernel_rfl) ?_ (fun wq hC => ?_) ?_
  rotate_left
  · (go_simp) <;> (try (with_reducible rfl))
  try simp only [Act.put, Array.getInternal_eq_getElem, List.getElem_toArray, List.getElem_cons_zero, List.getElem_cons_succ, List.setIfInBounds_toArray, List.set_cons_zero, List.set_cons_succ]
  --@4
  refine q_any (by kernel_rfl) ?_ (fun wq hC => ?_) ?_
  rotate_left
  · (go_simp) <;> (try (with_reducible rfl))
  try simp only [Act.put, Array.getInternal_eq_getElem, List.getElem_toArray, List.getElem_cons_zero, List.getElem_cons_succ, List.setIfInBounds_toArray, List.set_cons_zero, List.set_cons_succ]
  --@5
  refine q_any (by kernel_rfl) ?_ (fun wq hC => ?_) ?_
  rotate_left
  · (go_simp) <;> (try (with_reducible rfl))
  try simp only [Act.put, Array.getInternal_eq_getElem, List.getElem_toArray, List.getElem_cons_zero, List.getElem_cons_succ, List.setIfInBounds_toArray, List.set_cons_zero, List.set_cons_succ]
  --@6
  refine q_call (by kernel_rfl) (fun wq hC => old_call hC (HCB wq hC).out) (fun wq => ?_) ?_
  · go_simp <;> (try (with_reducible rfl))
  try simp only [Act.put, Array.getInternal_eq_getElem, List.getElem_toArray, List.getElem_cons_zero, List.getElem_cons_succ, List.setIfInBounds_toArray, List.set_cons_zero, List.set_cons_succ]
  --@7
  refine q_any (by kernel_rfl) ?_ (fun wq hC => ?_) ?_
  rotate_left
  · (go_simp) <;> (try (with_reducible rfl))
  try simp only [Act.put, Array.getInternal_eq_getElem, List.getElem_toArray, List.getElem_cons_zero, List.getElem_cons_succ, List.setIfInBounds_toArray, List.set_cons_zero, List.set_cons_succ]
  refine q_nil ?_
  intro wz kwz
  clear HF HG HN
  have KZ : Hid (∀ S, Keeps S w wz) := Lib.hid (fun S => (K1.out S).trans (kwz.all S))
  clear kwz
  go_wp2
  try rw [Exit.noGoto_ret]
  go_ret
  exact ⟨rfl, KZ.out⟩
set_option maxRecDepth 100000 in
set_option maxHeartbeats 4000000 in
theorem pcompare_bits (p q : Px) (hp : p.a.Wf) (hq : q.a.Wf) (hv : p.a.v6 = q.a.v6) (hB : p.a.B = q.a.B) : Calls Tryz.prog 18 #[pv p, pv q] w fun e w' => e = .returned (.int .i64 (cmp p q)) ∧ ∀ S, Keeps S w w' := by
  obtain ⟨w1, hw1, k1, bP, bQ⟩ := box_two w (pxc p) (pxc q) 28 28
  have HSA0 := Lib.hid (ad_sz hp)
  have HSA1 := Lib.hid (ad_sz hq)
  have HS0 := Lib.hid (b8_info hp.len)
  have HS1 := Lib.hid (b8_info hq.len)
  have HF := px_facts hp bP
  have HG := px_facts hq bQ
  have HN := fun w => Lib.hid (b8_equ p.a.B q.a.B hp.len hq.len w)

  have HCC := fun w => Lib.hid (cmpi_ w p.bits q.bits)
  have he : cmp p q = cmpi p.bits q.bits := by
    unfold cmp cmpi
    rw [if_pos hv, if_neg (by rw [hB, cmpB_self]; simp)]
  have hve : (p.a.v6 == q.a.v6) = true := by simpa using hv
  rw [show (p.a.B == q.a.B) = true from by simpa using hB] at HN
  rw [he]
  generalize cmpi p.bits q.bits = r at *
  clear he hv hB
  have HW := Lib.hid hw1
  have K1 : Hid (∀ S, Keeps S w w1) := Lib.hid k1
  unfold pv
  clear hw1 k1 bP bQ hp hq
  generalize p.a.B = B0 at *
  generalize q.a.B = B1 at *
  generalize p.bits = i0 at *
  generalize q.bits = i1 at *
  generalize adc p.a = C0 at *
  generalize adc q.a = C1 at *
  generalize p.a.v6 = v0 at *
  generalize q.a.v6 = v1 at *
  generalize pxc p = CP at *
  generalize pxc q = CQ at *
  go_enter Tryz.func18, Tryz.ntmps18
  go_wp2_with ((with_reducible show wpList _ _ _ (⟨some 5, _, _, _, _, _⟩ :: _) _ _); rw [← HW.out]; refine x_list (Old.refl w1) ?_)
  --@0
  refine x_any (by kernel_rfl) ?_ (fun wq hC => ?_) ?_
  rotate_left
  · (go_simp) <;> (try (with_reducible rfl))
  try simp only [Act.put, Array.getInternal_eq_getElem, List.getElem_toArray, List.getElem_cons_zero, List.getElem_cons_succ, List.setIfInBounds_toArray, List.set_cons_zero, List.set_cons_succ]
  --@1
  refine x_any (by kernel_rfl) ?_ (fun wq hC => ?_) ?_
  rotate_left
  · (go_simp) <;> (try (with_reducible rfl))
  try simp only [Act.put, Array.getInternal_eq_getElem, List.getElem_toArray, List.getElem_cons_zero, List.getElem_cons_succ, List.setIfInBounds_toArray, List.set_cons_zero, List.set_cons_succ]
  --@2
  refine x_any (by kernel_rfl) ?_ (fun wq hC => ?_) ?_
  rotate_left
  · (have hF := (HF wq hC); (try dsimp only at hF); go_simp) <;> (try (with_reducible rfl))
  try simp only [Act.put, Array.getInternal_eq_getElem, List.getElem_toArray, List.getElem_cons_zero, List.getElem_cons_succ, List.setIfInBounds_toArray, List.set_cons_zero, List.set_cons_succ]
  --@3
  refine x_any (by kernel_rfl) ?_ (fun wq hC => ?_) ?_
  rotate_left
  · (go_simp) <;> (try (with_reducible rfl))
  try simp only [Act.put, Array.getInternal_eq_getElem, List.getElem_toArray, List.getElem_cons_zero, List.getElem_cons_succ, List.setIfInBounds_toArray, List.set_cons_zero, List.set_cons_succ]
  --@4
  refine x_any (by kernel_rfl) ?_ (fun wq hC => ?_) ?_
  rotate_left
  · (go_simp) <;> (try (with_reducible rfl))
  try simp only [Act.put, Array.getInternal_eq_getElem, List.getElem_toArray, List.getElem_cons_zero, List.getElem_cons_succ, List.setIfInBounds_toArray, List.set_cons_zero, List.set_cons_succ]
  --@5
  refine x_any (by kernel_rfl) ?_ (fun wq hC => ?_) ?_
  rotate_left
  · (have hF := (HG wq hC); (try dsimp only at hF); go_simp) <;> (try (with_reducible rfl))
  try simp only [Act.put, Array.getInternal_eq_getElem, List.getElem_toArray, List.getElem_cons_zero, List.getElem_cons_succ, List.setIfInBounds_toArray, List.set_cons_zero, List.set_cons_succ]
  --@6
  refine x_any (by kernel_rfl) ?_ (fun wq hC => ?_) ?_
  rotate_left
  · (go_simp) <;> (try (with_reducible rfl))
  try simp only [Act.put, Array.getInternal_eq_getElem, List.getElem_toArray, List.getElem_cons_zero, List.getElem_cons_succ, List.setIfInBounds_toArray, List.set_cons_zero, List.set_cons_succ]
  refine x_nil ?_
  intro wa kwa
  go_wp2_with ((with_reducible show wpList _ _ _ (⟨some 19, _, _, _, _, _⟩ :: _) _ _); refine x_list kwa ?_)
  --@0
  refine x_any (by kernel_rfl) ?_ (fun wq hC => ?_) ?_
  rotate_left
  · (go_simp) <;> (try (with_reducible rfl))
  try simp only [Act.put, Array.getInternal_eq_getElem, List.getElem_toArray, List.getElem_cons_zero, List.getElem_cons_succ, List.setIfInBounds_toArray, List.set_cons_zero, List.set_cons_succ]
  --@1
  refine x_any (by kernel_rfl) ?_ (fun wq hC => ?_) ?_
  rotate_left
  · (go_simp) <;> (try (with_reducible rfl))
  try simp only [Act.put, Array.getInternal_eq_getElem, List.getElem_toArray, List.getElem_cons_zero, List.getElem_cons_succ, List.setIfInBounds_toArray, List.set_cons_zero, List.set_cons_succ]
  --@2
  refine x_load (by kernel_rfl) 22 _ rfl w.heap.size 1 rfl (b8s B0) _ (fun wq hC => (HF wq hC).2.2.1) Tryz.underlying22 rfl HS0.out ?_
  try simp only [Act.put, Array.getInternal_eq_getElem, List.getElem_toArray, List.getElem_cons_zero, List.getElem_cons_succ, List.setIfInBounds_toArray, List.set_cons_zero, List.set_cons_succ]
  --@3
  refine x_any (by kernel_rfl) ?_ (fun wq hC => ?_) ?_
  rotate_left
  · (go_simp) <;> (try (with_reducible rfl))
  try simp only [Act.put, Array.getInternal_eq_getElem, List.getElem_toArray, List.getElem_cons_zero, List.getElem_cons_succ, List.setIfInBounds_toArray, List.set_cons_zero, List.set_cons_succ]
  --@4
  refine x_any (by kernel_rfl) ?_ (fun wq hC => ?_) ?_
  rotate_left
  · (go_simp) <;> (try (with_reducible rfl))
  try simp only [Act.put, Array.getInternal_eq_getElem, List.getElem_toArray, List.getElem_cons_zero, List.getElem_cons_succ, List.setIfInBounds_toArray, List.set_cons_zero, List.set_cons_succ]
  --@5
  refine x_load (by kernel_rfl) 22 _ rfl (w.heap.size + 1) 1 rfl (b8s B1) _ (fun wq hC => (HG wq hC).2.2.1) Tryz.underlying22 rfl HS1.out ?_
  try simp only [Act.put, Array.getInternal_eq_getElem, List.getElem_toArray, List.getElem_cons_zero, List.getElem_cons_succ, List.setIfInBounds_toArray, List.set_cons_zero, List.set_cons_succ]
  --@6
  refine x_any (by kernel_rfl) ?_ (fun wq hC => ?_) ?_
  rotate_left
  · (have hN := (HN wq).out; go_simp) <;> (try (with_reducible rfl))
  try simp only [Act.put, Array.getInternal_eq_getElem, List.getElem_toArray, List.getElem_cons_zero, List.getElem_cons_succ, List.setIfInBounds_toArray, List.set_cons_zero, List.set_cons_succ]
  refine x_nil ?_
  intro wb kwb
  go_wp2_with ((with_reducible show wpList _ _ _ (⟨some 33, _, _, _, _, _⟩ :: _) _ _); refine x_list kwb ?_)
  --@0
  refine x_any (by kernel_rfl) ?_ (fun wq hC => ?_) ?_
  rotate_left
  · (go_simp) <;> (try (with_reducible rfl))
  try simp only [Act.put, Array.getInternal_eq_getElem, List.getElem_toArray, List.getElem_cons_zero, List.getElem_cons_succ, List.setIfInBounds_toArray, List.set_cons_zero, List.set_cons_succ]
  --@1
  refine x_any (by kernel_rfl) ?_ (fun wq hC => ?_) ?_
  rotate_left
  · (have hF := (HF wq hC); (try dsimp only at hF); go_simp) <;> (try (with_reducible rfl))
  try simp only [Act.put, Array.getInternal_eq_getElem, List.getElem_toArray, List.getElem_cons_zero, List.getElem_cons_succ, List.setIfInBounds_toArray, List.set_cons_zero, List.set_cons_succ]
  --@2
  refine x_any (by kernel_rfl) ?_ (fun wq hC => ?_) ?_
  rotate_left
  · (go_simp) <;> (try (with_reducible rfl))
  try simp only [Act.put, Array.getInternal_eq_getElem, List.getElem_toArray, List.getElem_cons_zero, List.getElem_cons_succ, List.setIfInBounds_toArray, List.set_cons_zero, List.set_cons_succ]
  --@3
  refine x_any (by kernel_rfl) ?_ (fun wq hC => ?_) ?_
  rotate_left
  · (have hF := (HG wq hC); (try dsimp only at hF); go_simp) <;> (try (with_reducible rfl))
  try simp only [Act.put, Array.getInternal_eq_getElem, List.getElem_toArray, List.getElem_cons_zero, List.getElem_cons_succ, List.setIfInBounds_toArray, List.set_cons_zero, List.set_cons_succ]
  --@4
  refine x_call (by kernel_rfl) (fun wq hC => old_call hC (HCC wq).out) (fun wq => ?_) ?_
  · go_simp <;> (try (with_reducible rfl))
  try simp only [Act.put, Array.getInternal_eq_getElem, List.getElem_toArray, List.getElem_cons_zero, List.getElem_cons_succ, List.setIfInBounds_toArray, List.set_cons_zero, List.set_cons_succ]
  --@5
  refine x_any (by kernel_rfl) ?_ (fun wq hC => ?_) ?_
  rotate_left
  · (go_simp) <;> (try (with_reducible rfl))
  try simp only [Act.put, Array.getInternal_eq_getElem, List.getElem_toArray, List.getElem_cons_zero, List.getElem_cons_succ, List.setIfInBounds_toArray, List.set_cons_zero, List.set_cons_succ]
  refine x_nil ?_
  intro wz kwz
  clear HF HG HN
  have KZ : Hid (∀ S, Keeps S w wz) := Lib.hid (fun S => (K1.out S).trans (kwz.all S))
  clear kwz
  go_wp2
  try rw [Exit.noGoto_ret]
  go_ret
  exact ⟨rfl, KZ.out⟩
theorem pcompare_ (p q : Px) (hp : p.a.Wf) (hq : q.a.Wf) : Calls Tryz.prog 18 #[pv p, pv q] w fun e w' => e = .returned (.int .i64 (cmp p q)) ∧ ∀ S, Keeps S w w' := by
  by_cases hv : p.a.v6 = q.a.v6
  · by_cases hB : p.a.B = q.a.B
    · exact pcompare_bits w p q hp hq hv hB
    · exact pcompare_bytes w p q hp hq hv hB
  · exact pcompare_kind w p q hp hq hv
end
end Go.Proofs.YtgcdhfpbmcfedaaGreatDoor.qd
end
section
namespace Go.Proofs
open Go.Shelf
def Tryz.laysClone_ren : Go.Shelf.Ren := ⟨fun | 41 => 60 | n => n, fun | 22 => 52 | 23 => 28 | 4 => 4 | n => n, fun | n => n⟩
theorem Tryz.laysClone : Go.Proofs.SlLaysE0.n41 Tryz.prog Tryz.laysClone_ren := {
  mixed := by kernel_rfl
  f41 := ⟨Tryz.f60.name, by decide, Tryz.func60.trans (congrArg some (by kernel_rfl))⟩
  t4 := Tryz.underlying4
  a4 := Tryz.isAgg4
  z4 := Tryz.sizeOf4
  v4 := Tryz.zeroValue4
  t22 := Tryz.underlying52
  a22 := Tryz.isAgg52
  z22 := Tryz.sizeOf52
  v22 := Tryz.zeroValue52 }
def Tryz.laysSort_ren : Go.Shelf.Ren := ⟨fun | 6 => 61 | 15 => 79 | 14 => 78 | 28 => 104 | 29 => 105 | 20 => 96 | 21 => 97 | 22 => 98 | 23 => 99 | 24 => 100 | 25 => 101 | 26 => 102 | 27 => 103 | 46 => 120 | 47 => 121 | 48 => 122 | 49 => 123 | 50 => 124 | 57 => 134 | n => n, fun | 22 => 52 | 24 => 28 | 25 => 39 | 3 => 3 | 39 => 90 | 0 => 0 | 53 => 132 | 55 => 96 | 4 => 4 | 46 => 125 | 45 => 124 | 50 => 129 | 5 => 5 | 9 => 9 | 66 => 149 | 70 => 153 | 76 => 166 | 77 => 73 | n => n, fun | n => n⟩
theorem Tryz.laysSort : Go.Proofs.SlLaysF0.n6 Tryz.prog Tryz.laysSort_ren := {
  mixed := by kernel_rfl
  f6 := ⟨Tryz.f61.name, by decide, Tryz.func61.trans (congrArg some (by kernel_rfl))⟩
  f14 := ⟨Tryz.f78.name, by decide, Tryz.func78.trans (congrArg some (by kernel_rfl))⟩
  f15 := Tryz.func79.trans (congrArg some (by kernel_rfl))
  f20 := ⟨Tryz.f96.name, by decide, Tryz.func96.trans (congrArg some (by kernel_rfl))⟩
  f21 := ⟨Tryz.f97.name, by decide, Tryz.func97.trans (congrArg some (by kernel_rfl))⟩
  f22 := ⟨Tryz.f98.name, by decide, Tryz.func98.trans (congrArg some (by kernel_rfl))⟩
  f23 := ⟨Tryz.f99.name, by decide, Tryz.func99.trans (congrArg some (by kernel_rfl))⟩
  f24 := ⟨Tryz.f100.name, by decide, Tryz.func100.trans (congrArg some (by kernel_rfl))⟩
  f25 := ⟨Tryz.f101.name, by decide, Tryz.func101.trans (congrArg some (by kernel_rfl))⟩
  f26 := ⟨Tryz.f102.name, by decide, Tryz.func102.trans (congrArg some (by kernel_rfl))⟩
  f27 := ⟨Tryz.f103.name, by decide, Tryz.func103.trans (congrArg some (by kernel_rfl))⟩
  f28 := Tryz.func104.trans (congrArg some (by kernel_rfl))
  f29 := Tryz.func105.trans (congrArg some (by kernel_rfl))
  f46 := ⟨Tryz.f120.name, by decide, Tryz.func120.trans (congrArg some (by kernel_rfl))⟩
  f47 := Tryz.func121.trans (congrArg some (by kernel_rfl))
  f48 := Tryz.func122.trans (congrArg some (by kernel_rfl))
  f49 := ⟨Tryz.f123.name, by decide, Tryz.func123.trans (congrArg some (by kernel_rfl))⟩
  f50 := ⟨Tryz.f124.name, by decide, Tryz.func124.trans (congrArg some (by kernel_rfl))⟩
  f57 := ⟨Tryz.f134.name, by decide, Tryz.func134.trans (congrArg some (by kernel_rfl))⟩
  t0 := Tryz.underlying0
  a0 := Tryz.isAgg0
  z0 := Tryz.sizeOf0
  v0 := Tryz.zeroValue0
  t3 := Tryz.underlying3
  a3 := Tryz.isAgg3
  z3 := Tryz.sizeOf3
  v3 := Tryz.zeroValue3
  t4 := Tryz.underlying4
  a4 := Tryz.isAgg4
  z4 := Tryz.sizeOf4
  v4 := Tryz.zeroValue4
  t5 := Tryz.underlying5
  a5 := Tryz.isAgg5
  z5 := Tryz.sizeOf5
  v5 := Tryz.zeroValue5
  t9 := Tryz.underlying9
  a9 := Tryz.isAgg9
  z9 := Tryz.sizeOf9
  v9 := Tryz.zeroValue9
  t22 := Tryz.underlying52
  a22 := Tryz.isAgg52
  z22 := Tryz.sizeOf52
  v22 := Tryz.zeroValue52
  t25 := Tryz.underlying39
  a25 := Tryz.isAgg39
  z25 := Tryz.sizeOf39
  v25 := Tryz.zeroValue39
  t39 := Tryz.underlying90
  a39 := Tryz.isAgg90
  z39 := Tryz.sizeOf90
  v39 := Tryz.zeroValue90
  t45 := Tryz.underlying124
  a45 := Tryz.isAgg124
  z45 := Tryz.sizeOf124
  v45 := Tryz.zeroValue124
  t46 := Tryz.underlying125
  a46 := Tryz.isAgg125
  z46 := Tryz.sizeOf125
  v46 := Tryz.zeroValue125
  t50 := Tryz.underlying129
  a50 := Tryz.isAgg129
  z50 := Tryz.sizeOf129
  v50 := Tryz.zeroValue129
  t53 := Tryz.underlying132
  a53 := Tryz.isAgg132
  z53 := Tryz.sizeOf132
  v53 := Tryz.zeroValue132
  t55 := Tryz.underlying96
  a55 := Tryz.isAgg96
  z55 := Tryz.sizeOf96
  v55 := Tryz.zeroValue96
  t66 := Tryz.underlying149
  a66 := Tryz.isAgg149
  z66 := Tryz.sizeOf149
  v66 := Tryz.zeroValue149
  t70 := Tryz.underlying153
  a70 := Tryz.isAgg153
  z70 := Tryz.sizeOf153
  v70 := Tryz.zeroValue153
  t76 := Tryz.underlying166
  a76 := Tryz.isAgg166
  z76 := Tryz.sizeOf166
  v76 := Tryz.zeroValue166
  t77 := Tryz.underlying73
  a77 := Tryz.isAgg73
  z77 := Tryz.sizeOf73
  v77 := Tryz.zeroValue73 }
end Go.Proofs
end
section
set_option linter.unusedVariables false
set_option linter.unusedSimpArgs false
namespace Go.Proofs.YtgcdhfpbmcfedaaGreatDoor.pf
open Go.RowKit Go.Shelf Go.Sort Go.Proofs.YtgcdhfpbmcfedaaGreatDoor.oc Go.Proofs.YtgcdhfpbmcfedaaGreatDoor.mz Go.Proofs.YtgcdhfpbmcfedaaGreatDoor.wh Go.Proofs.YtgcdhfpbmcfedaaGreatDoor.qk
theorem px_infoD : (Tryz.prog.info? 28).map (fun i => (i.zero, i.size, i.bytes)) = some (some (.agg #[.bool false, .int .u8 0, .int .u8 0, .int .u8 0, .int .u8 0, .int .u8 0, .int .u8 0, .int .u8 0, .int .u8 0, .int .u8 0, .int .u8 0, .int .u8 0, .int .u8 0, .int .u8 0, .int .u8 0, .int .u8 0, .int .u8 0, .int .i64 0]), 18, 32) := by kernel_rfl
theorem keeps_below {w w' : World} (h : Below w.heap.size w w') : ∀ S, Keeps S w w' := fun S => ⟨h.size, fun b hb _ => h.block b hb, h.os, h.tape, h.output⟩
theorem pxs_one (l : List Px) : ∀ v ∈ pxs l, v.oneCell' = true := fun v hv => by
  obtain ⟨p, _, h⟩ := List.mem_flatMap.1 hv
  exact px_one p v h
section
variable (w : World)
theorem pclone_ (b n c : Nat) (l : List Px) (h : Rw w b l) (hn : n = l.length) (hl : n ≤ 1000000) : Calls Tryz.prog 60 #[.slice (some ⟨b, 0, none⟩) n c] w fun e w' =>
    ∃ v', e = .returned v' ∧ (w'.ownsRow w.heap.size 28 18 v' n (pxs l) ∧ v' ≠ .slice none 0 0) ∧ ∀ S, Keeps S w w' := by
  obtain ⟨i1, hi, hz0, hz1, hz2⟩ := info_parts px_infoD
  have hlen := pxs_len l h.wf
  have hc := AnyE.slices_Clone Tryz.laysClone i1 _ 18 32 hi hz0 hz1 hz2 (by rfl) (by decide) (size_of prefix_info) b 0 n c (pxs l) w (by rw [hlen, hn]) (by unfold maxLen; omega) (by omega) (fun j u hj => by rw [Nat.zero_add]; have := h.at_ j u hj; rwa [Nat.zero_add] at this) (pxs_one l)
  change Calls Tryz.prog 60 _ _ _ at hc
  refine hc.mono ?_
  rintro e w' ⟨v', rfl, h1, h2, h3⟩
  exact ⟨v', rfl, ⟨h1, h2⟩, keeps_below h3⟩
theorem psort_ (base : Nat) (v : Value) (n : Nat) (l : List Px) (h : w.ownsRow base 28 18 v n (pxs l) ∧ v ≠ .slice none 0 0) (hn : n = l.length) (hl : n ≤ 1000000) (hw : ∀ p ∈ l, p.a.Wf) (ho : ∀ p ∈ l, okP p) :
    Calls Tryz.prog 61 #[v, .func (.func 18) #[] #[]] w fun e w' =>
      e = .returned (.tuple #[]) ∧ ∃ g c s, v = .slice (some ⟨g, 0, none⟩) n c ∧ base ≤ g ∧ List.Perm s l ∧ s.Pairwise (fun p q => KP p ≤ KP q) ∧ Rw w' g s ∧ Keeps (· = g) w w' := by
  obtain ⟨d, hd⟩ := attach_get l (fun p hp => ⟨hw p hp, ho p hp⟩)
  rcases h.1.2 with ⟨e, _⟩ | ⟨g, cap, cur, rfl, h1, h2, h3, h4, h5, h6⟩
  · exact absurd e h.2
  · have hlt : g < w.heap.size := (Array.getElem?_eq_some_iff.1 h2).1
    have hb : Blk w g 28 cur.toList := h2
    have hr : w.rangeAt g 0 (pxs (d.map (·.1))) := fun j u hj => by
      rw [hd] at hj
      rw [Nat.zero_add, hb.cell]
      have hjl : j < n * 18 := by
        have := (List.getElem?_eq_some_iff.1 hj).1
        rwa [pxs_len l hw, ← hn] at this
      rw [← h6, List.getElem?_take_of_lt hjl] at hj
      exact hj
    have hH := holds_of_range hr (fun j => hb.frozen j)
    have hds : d.toArray.size = n := by rw [List.size_toArray, ← List.length_map (f := (·.1)), hd, hn]
    have hC : CmpLays Tryz.prog 18 #[] encO 18 cfO g 0 d.toArray.size w := fun m os dk hs x y => by
      have hq := qd.pcompare_ (sortWorldK encO 18 w g 0 m dk os) x.1 y.1 x.2.1 y.2.1
      refine (show Calls Tryz.prog 18 #[pv x.1, pv y.1] _ _ from hq).mono ?_
      rintro e w' ⟨rfl, k⟩
      exact ⟨rfl, qd.Old.grown (k _)⟩
    have hs := AnyQ.slices_SortFunc_total Tryz.laysSort 18 (agg_of (by kernel_rfl)) (size_of prefix_info) encO encO_len (fun x v hv => px_one x.1 v hv) cfO swoO 18 #[] g 0 cap d.toArray w (enters_of Tryz.func18 (by kernel_rfl) rfl) hC hH hlt (by rw [hds]; omega) totO
    rw [hds] at hs
    change Calls Tryz.prog 61 _ _ _ at hs
    refine hs.mono ?_
    rintro e w' ⟨rfl, m, os, hw'⟩
    obtain ⟨s, s1, s2, s3⟩ := sorted_list d
    refine ⟨rfl, g, cap, s, rfl, h1, by rw [← hd]; exact s1, s2, ?_, by rw [hw']; exact keeps_sorted _⟩
    have hh := holdsK_sortWorldK_c encO 18 w g 0 d.toArray (d.toArray.toList.mergeSort fun x y => !(ltOf cfO) y x).toArray m os hH hlt (by simp [List.length_mergeSort])
    rw [← hw'] at hh
    have hr' := range_of_holds hh
    refine ⟨?_, ?_, fun p hp => ?_⟩
    · rw [hw']; exact Nat.lt_of_lt_of_le hlt (size_sortWorldK_c encO 18 w g 0 m _ os)
    · rw [s3]; simpa using hr'
    · have := s1.mem_iff.1 hp
      rw [hd] at this
      exact hw p this
end
end Go.Proofs.YtgcdhfpbmcfedaaGreatDoor.pf
end
section
set_option linter.unusedVariables false
set_option linter.unusedSimpArgs false
namespace Go.Proofs.YtgcdhfpbmcfedaaGreatDoor.pf
/-- a list that is merged, in order -/
structure Mg (l : List Px) : Prop where
  nrm : Nrm l
  srt : l.Pairwise (fun p q => cmp p q = -1)
theorem Mg.nil : Mg [] := ⟨⟨fun p h => by simp at h, fun p h => by simp at h, fun p _ _ _ h => by simp at h⟩, List.Pairwise.nil⟩
theorem Mg.init {l : List Px} {x : Px} (h : Mg (l ++ [x])) : Mg l :=
  ⟨⟨fun p hp => h.nrm.ok p (by simp [hp]), fun p hp q hq => h.nrm.cov p (by simp [hp]) q (by simp [hq]), fun p hw ho hb z => h.nrm.hal p hw ho hb ⟨by simp [z.1], by simp [z.2]⟩⟩, (List.pairwise_append.1 h.srt).1⟩
theorem Mg.behind {l : List Px} {x : Px} (h : Mg (l ++ [x])) {y : Px} (hy : y ∈ l) : KP y < KP x ∧ ¬ covers y x ∧ ¬ covers x y := by
  have hyo := h.nrm.ok y (by simp [hy])
  have hxo := h.nrm.ok x (by simp)
  have hlt : KP y < KP x := (key_lt hyo.1 hxo.1 hyo.2 hxo.2).1 ((List.pairwise_append.1 h.srt).2.2 y hy x (by simp))
  refine ⟨hlt, fun c => ?_, fun c => ?_⟩
  · have := h.nrm.cov y (by simp [hy]) x (by simp) c
    subst this; omega
  · have := h.nrm.cov x (by simp) y (by simp [hy]) c
    subst this; omega
theorem coversB_iff (p q : Px) : coversB p q = true ↔ covers p q := by unfold coversB; simp
theorem half_key {q : Px} (h : q.a.Wf) (ho : okP q) (hb : ¬ q.bits = (wid q.a : Int)) : KP q < KP (half0 q) ∧ KP (half0 q) < KP (half1 q) ∧ KP (half0 q) = KP q + 1 := by
  have hc := half_cmp h ho hb
  have w1 := half1_wf h ho hb
  have o0 := half0_ok h ho hb
  have o1 := half1_ok h ho hb
  exact ⟨(key_lt (p := q) (q := half0 q) h h ho o0).1 hc.2, (key_lt (p := half0 q) (q := half1 q) h w1 o0 o1).1 hc.1, by unfold KP half0; simp only; omega⟩
/-- what whole says, where it says yes -/
theorem whole_yes {l p : Px} (hl : l.a.Wf) (ho : okP l) (h : (whole l p).2 = true) : ∃ q, (whole l p).1 = q ∧ q.a.Wf ∧ okP q ∧ ¬ q.bits = (wid q.a : Int) ∧ l = half0 q ∧ p = half1 q := by
  unfold whole at h ⊢
  split at h
  · simp at h
  · rename_i hz
    rw [if_neg hz]
    simp only [Bool.and_eq_true, decide_eq_true_eq] at h
    have hb := ho.2.1
    have hq := ofP_ok hl ho.1 (l.bits.toNat - 1) (by omega)
    refine ⟨_, rfl, clr_wf hl _, hq, ?_, h.1, h.2⟩
    show ¬ ((l.bits.toNat - 1 : Nat) : Int) = (wid (clr l.a _) : Int)
    rw [wid_of (a := clr l.a (l.bits.toNat - 1)) (b := l.a) rfl]
    omega
theorem ofP_self {q : Px} (h : q.a.Wf) (ho : okP q) : ofP q.a q.bits.toNat = q := by
  have hb := ho.2.1
  have hw := (wid_le q.a).1
  have hq := ofP_ok h ho.1 q.bits.toNat (by omega)
  refine px_ext (clr_wf h _) h hq ho rfl (by show ((q.bits.toNat : Nat) : Int) = q.bits; omega) fun i hi => ?_
  have hi : (i : Int) < ((q.bits.toNat : Nat) : Int) := hi
  show bit (clr q.a q.bits.toNat) i = bit q.a i
  rw [clr_bit h _ i (by omega), decide_eq_true (by omega), Bool.true_and]
theorem whole_half {q : Px} (h : q.a.Wf) (ho : okP q) (hb : ¬ q.bits = (wid q.a : Int)) : (whole (half0 q) (half1 q)).2 = true := by
  have h0 := ho.2.1.1
  have e : ofP (half0 q).a ((half0 q).bits.toNat - 1) = q := by
    show ofP q.a ((q.bits + 1).toNat - 1) = q
    rw [show (q.bits + 1).toNat - 1 = q.bits.toNat from by omega]
    exact ofP_self h ho
  unfold whole
  rw [if_neg (show ¬ (half0 q).bits = 0 from by show ¬ q.bits + 1 = 0; omega), e]
  simp
theorem has_first {p : Px} (ho : okP p) : has p p.a := ⟨ho, ho.1, rfl, fun _ _ => rfl⟩
/-- one more at the end -/
theorem Mg.snoc {l : List Px} {x p : Px} (h : Mg (l ++ [x])) (hp : p.a.Wf) (op : okP p) (hk : ∀ y ∈ l ++ [x], KP y ≤ KP p) (hc : ¬ covers x p) (hw : ¬ (whole x p).2 = true) : Mg (l ++ [x] ++ [p]) := by
  have hxo := h.nrm.ok x (by simp)
  have hxk := hk x (by simp)
  have nocov : ∀ y ∈ l ++ [x], ¬ covers y p := by
    intro y hy c
    rcases List.mem_append.1 hy with q | q
    · have hyo := h.nrm.ok y hy
      have hb := h.behind q
      have := between hyo.1 hyo.1 hxo.1 hp hyo.2 hxo.2 op (has_first hyo.2) c.2.2 (by omega) hxk
      rcases first_has this hxo.2 with d | d
      · exact hb.2.1 d
      · exact hb.2.2 d
    · simp at q; subst q; exact hc c
  have strict : ∀ y ∈ l ++ [x], KP y < KP p := by
    intro y hy
    have hyo := h.nrm.ok y hy
    rcases Int.lt_or_eq_of_le (hk y hy) with c | c
    · exact c
    · have hc2 := nocov y hy
      rw [key_inj hyo.1 hp hyo.2 op c] at hc2
      exact absurd (covers_self op) hc2
  have nocov2 : ∀ y ∈ l ++ [x], ¬ covers p y := fun y hy c => by
    have hyo := h.nrm.ok y hy
    have := cover_eq hp hyo.1 c (hk y hy)
    subst this
    have := strict p hy
    omega
  refine ⟨⟨?_, ?_, ?_⟩, ?_⟩
  · intro y hy
    rcases List.mem_append.1 hy with q | q
    · exact h.nrm.ok y q
    · simp at q; subst q; exact ⟨hp, op⟩
  · intro y hy z hz c
    rcases List.mem_append.1 hy with q | q <;> rcases List.mem_append.1 hz with r | r
    · exact h.nrm.cov y q z r c
    · simp at r; subst r; exact absurd c (nocov y q)
    · simp at q; subst q; exact absurd c (nocov2 z r)
    · simp at q r; rw [q, r]
  · intro q hqw hqo hqb z
    have hk2 := half_key hqw hqo hqb
    rcases List.mem_append.1 z.1 with a | a <;> rcases List.mem_append.1 z.2 with b | b
    · exact h.nrm.hal q hqw hqo hqb ⟨a, b⟩
    · simp at b
      rcases List.mem_append.1 a with c | c
      · have hb := h.behind c
        have o0 := half0_ok hqw hqo hqb
        have c0 : has q (half0 q).a := has_first hqo
        have c1 : has q (half1 q).a := ((half1_has hqw hqo hqb _).1 (has_first (half1_ok hqw hqo hqb))).1
        have w1 := half1_wf hqw hqo hqb
        have hm := between hqw (x := half0 q) hqw hxo.1 w1 o0 hxo.2 (half1_ok hqw hqo hqb) c0 c1 (by omega) (by rw [b]; exact hxk)
        cases hbit : bit x.a q.bits.toNat with
        | false =>
          rcases first_has ((half0_has hqw hqo hqb x.a).2 ⟨hm, hbit⟩) hxo.2 with d | d
          · exact hb.2.1 d
          · exact hb.2.2 d
        | true =>
          have hh := (half1_has hqw hqo hqb x.a).2 ⟨hm, hbit⟩
          rw [b] at hh
          rcases first_has hh hxo.2 with d | d
          · exact nocov2 x (by simp) d
          · exact nocov x (by simp) d
      · simp at c
        rw [← b, ← c] at hw
        exact hw (whole_half hqw hqo hqb)
    · simp at a
      have := hk _ b
      rw [← a] at this
      omega
    · simp at a b
      rw [a, b] at hk2
      omega
  · rw [List.pairwise_append]
    refine ⟨h.srt, List.pairwise_singleton _ _, fun y hy z hz => ?_⟩
    simp at hz; subst hz
    have hyo := h.nrm.ok y hy
    exact (key_lt hyo.1 hp hyo.2 op).2 (strict y hy)
theorem addP_ok : ∀ (n : Nat) (l : List Px) (p : Px), l.length = n → Mg l → p.a.Wf → okP p → (∀ y ∈ l, KP y ≤ KP p) → Mg (addP l p) ∧ (∀ b, had (addP l p) b ↔ had l b ∨ has p b) ∧ (∀ y ∈ addP l p, KP y ≤ KP p)
  | 0, l, p, hn, hl, hp, op, hk => by
    obtain rfl := List.length_eq_zero_iff.1 hn
    rw [addP_nil]
    refine ⟨⟨⟨fun q hq => by simp at hq; subst hq; exact ⟨hp, op⟩, fun q hq r hr _ => by simp at hq hr; rw [hq, hr], fun q hqw hqo hqb z => ?_⟩, List.pairwise_singleton _ _⟩, fun b => by simp [had], fun y hy => by simp at hy; subst hy; exact Int.le_refl _⟩
    have := half_key hqw hqo hqb
    simp only [List.mem_singleton] at z
    rw [z.1, z.2] at this
    omega
  | n + 1, l, p, hn, hl, hp, op, hk => by
    rcases List.eq_nil_or_concat l with rfl | ⟨r, x, rfl⟩
    · simp at hn
    · rw [List.concat_eq_append] at *
      have hr : r.length = n := by simpa using hn
      rw [addP_snoc]
      have hxo := hl.nrm.ok x (by simp)
      split
      · rename_i hc
        rw [coversB_iff] at hc
        refine ⟨hl, fun b => ⟨.inl, fun z => ?_⟩, hk⟩
        rcases z with z | z
        · exact z
        · exact ⟨x, by simp, covers_has hc z⟩
      · rename_i hc
        rw [coversB_iff] at hc
        split
        · rename_i hw
          obtain ⟨q, e, hqw, hqo, hqb, e0, e1⟩ := whole_yes hxo.1 hxo.2 hw
          rw [e]
          have hk2 := half_key hqw hqo hqb
          obtain ⟨g1, g2, g3⟩ := addP_ok n r q hr hl.init hqw hqo (fun y hy => by
            have := (hl.behind hy).1
            rw [e0] at this
            omega)
          refine ⟨g1, fun b => ?_, fun y hy => ?_⟩
          · rw [g2]
            have h0 := half0_has hqw hqo hqb b
            have h1 := half1_has hqw hqo hqb b
            rw [← e0] at h0
            rw [← e1] at h1
            constructor
            · rintro (⟨y, hy, z⟩ | z)
              · exact .inl ⟨y, by simp [hy], z⟩
              · cases hbit : bit b q.bits.toNat with
                | false => exact .inl ⟨x, by simp, h0.2 ⟨z, hbit⟩⟩
                | true => exact .inr (h1.2 ⟨z, hbit⟩)
            · rintro (⟨y, hy, z⟩ | z)
              · rcases List.mem_append.1 hy with c | c
                · exact .inl ⟨y, c, z⟩
                · simp at c; subst c; exact .inr (h0.1 z).1
              · exact .inr (h1.1 z).1
          · have := g3 y hy
            rw [e1]
            omega
        · rename_i hw
          refine ⟨hl.snoc hp op hk hc hw, fun b => ?_, fun y hy => ?_⟩
          · constructor
            · rintro ⟨y, hy, z⟩
              rcases List.mem_append.1 hy with c | c
              · exact .inl ⟨y, c, z⟩
              · simp at c; subst c; exact .inr z
            · rintro (⟨y, hy, z⟩ | z)
              · exact ⟨y, List.mem_append_left _ hy, z⟩
              · exact ⟨p, by simp, z⟩
          · rcases List.mem_append.1 hy with c | c
            · exact hk y c
            · simp at c; subst c; exact Int.le_refl _
/-- a row in order, each added -/
noncomputable def mergeP (s : List Px) : List Px := s.foldl addP []
theorem merge_from : ∀ (s l : List Px), Mg l → (∀ p ∈ s, p.a.Wf ∧ okP p) → s.Pairwise (fun p q => KP p ≤ KP q) → (∀ y ∈ l, ∀ p ∈ s, KP y ≤ KP p) → Mg (s.foldl addP l) ∧ ∀ b, had (s.foldl addP l) b ↔ had l b ∨ had s b
  | [], l, hl, _, _, _ => ⟨hl, fun b => by simp [had]⟩
  | p :: s, l, hl, ho, hs, hk => by
    rw [List.pairwise_cons] at hs
    have hpo := ho p (by simp)
    obtain ⟨g1, g2, g3⟩ := addP_ok l.length l p rfl hl hpo.1 hpo.2 (fun y hy => hk y hy p (by simp))
    obtain ⟨f1, f2⟩ := merge_from s (addP l p) g1 (fun q hq => ho q (by simp [hq])) hs.2 (fun y hy q hq => Int.le_trans (g3 y hy) (hs.1 q hq))
    refine ⟨f1, fun b => ?_⟩
    rw [List.foldl_cons, f2, g2]
    simp only [had, List.mem_cons, exists_eq_or_imp]
    rw [or_assoc]
theorem merge_ok (s : List Px) (ho : ∀ p ∈ s, p.a.Wf ∧ okP p) (hs : s.Pairwise (fun p q => KP p ≤ KP q)) : Mg (mergeP s) ∧ ∀ b, had (mergeP s) b ↔ had s b := by
  obtain ⟨h1, h2⟩ := merge_from s [] Mg.nil ho hs (fun y hy => by simp at hy)
  exact ⟨h1, fun b => by rw [mergeP, h2]; simp [had]⟩
theorem mg_one {l m : List Px} (hl : Mg l) (hm : Mg m) (h : ∀ b : Ad, b.Wf → (had l b ↔ had m b)) : l = m := nrm_one hl.nrm hm.nrm hl.srt hm.srt h
end Go.Proofs.YtgcdhfpbmcfedaaGreatDoor.pf
end
section
set_option linter.unusedVariables false
namespace Go.Proofs.YtgcdhfpbmcfedaaGreatDoor.rb
open Go.RowKit
theorem range_box {P : Program} {n : Nat} {g : Operand} {ps : Array Tmp} {assign body : Code} {Q : Exit → Act → World → Prop} {a : Act} {w : World}
    (h1 : 1 ≤ n) {gf : Nat} {lb : Array Value} (hg : a.eval g = .func (.func gf) #[] lb) (eg : ∀ args w, (callFunc gf args).run P w = .ok (.enter gf args) w)
    {α β : Type} {encs : α → Array Value} (hps : ∀ x, (encs x).size = ps.size) (I Ix : List α → β → World → Prop) (Ok : List α → α → Prop) (enc : β → Value) (b : Nat) (hb : b < w.heap.size)
    (hI : ∀ s t W W' row, I s t W → W.grownBy W' row → (∀ r, row = some r → w.heap.size ≤ r ∧ ∃ o : Obj, W.heap[r]? = some o ∧ o.isCells = false) → I s t W')
    (hIx : ∀ s t W W' row, Ix s t W → W.grownBy W' row → (∀ r, row = some r → w.heap.size ≤ r ∧ ∃ o : Obj, W.heap[r]? = some o ∧ o.isCells = false) → Ix s t W')
    (hset : ∀ s t t' W, I s t W → I s t' (W.setCell ⟨b, 0, none⟩ (enc t'))) (t0 : β) (h0 : I [] t0 w) (a₁ : α → Act)
    (hassign : ∀ (l : Nat) (x : α) (W : World) (K : Act → World → Prop), K (a₁ x) W →
      assign.wpIn (Fence.wide.inRound l) (n - 1 - 1) P (Exit.then K (fun _ _ _ => False)) { tmps := (ps.zip (encs x)).foldl (fun t (p, v) => t.setIfInBounds p v) a.tmps, defers := [] } W)
    (hbody : ∀ (l : Nat) (pre : List α) (t : β) (x : α) (W : World), I pre t W → Ok pre x → body.wpIn (Fence.wide.inRound l) (n - 1 - 1) P
      (fun e _ W' => KeepsFrom w.heap.size W W' ∧ (e = .normal ∧ I (pre ++ [x]) t W' ∨ e = .ret ∧ Ix (pre ++ [x]) t W')) (a₁ x) W)
    (S Sp : List α → Prop)
    (hit : ∀ (l : Nat) (J Jx : List α → β → World → Prop) (W : World), (∀ s t W, J s t W → I s t W) → (∀ s t t' W, J s t W → J s t' (W.setCell ⟨b, 0, none⟩ (enc t'))) →
      (∀ s t W W', J s t W → W.grownBy W' none → J s t W') → (∀ s t W W', Jx s t W → W.grownBy W' none → Jx s t W') →
      (∀ pre t x W1, J pre t W1 → Ok pre x → YieldAt Fence.wide (n - 1 - 1) P l (encs x) W1 fun e W' => (e = .returned (.bool true) ∧ J (pre ++ [x]) t W') ∨ (e = .returned (.bool false) ∧ Jx (pre ++ [x]) t W')) →
      J [] t0 W → CallsIn Fence.wide (n - 1) P gf (#[.func (.yield l) #[] #[]] ++ lb) W fun e W' => (∃ v, e = .returned v) ∧ ((∃ xs t, S xs ∧ J xs t W') ∨ (∃ pre t, Sp pre ∧ Jx pre t W')))
    (hdone : ∀ (D : Nat) (xs : List α) (t : β) (W : World), w.heap.size ≤ D → S xs → I xs t W → W.heap[D]? = some (.deferred (some [])) → Q .normal { a with defers := { target := .collected D, args := #[] } :: a.defers } W)
    (hstop : ∀ (D : Nat) (pre : List α) (t : β) (W : World), w.heap.size ≤ D → Sp pre → Ix pre t W → W.heap[D]? = some (.deferred (some [])) → Code.ret.wpIn Fence.wide n P Q { a with defers := { target := .collected D, args := #[] } :: a.defers } W) :
    (Code.rangeFunc g ps assign body).wpIn Fence.wide n P Q a w := by
  refine wpIn_rangeFunc fun fn hfn => ?_
  obtain ⟨rec, hrec⟩ : ∃ rec : LoopState → Option Code → Loop, rec = fun st pe => { state := st, pending := pe, fn, tmps := a.tmps, params := ps, assign, body, defers := w.heap.size } := ⟨_, rfl⟩
  obtain ⟨W1, hW1⟩ : ∃ W1, W1 = (w.alloc (.deferred (some []))).alloc (.loop (rec .ready none)) := ⟨_, rfl⟩
  obtain ⟨D, hD⟩ : ∃ D, D = w.heap.size := ⟨_, rfl⟩
  have hL1 : W1.heap[D + 1]? = some (.loop (rec .ready none)) := by
    rw [hW1, hD]
    have h := World.alloc_heap_new (w.alloc (.deferred (some []))) (.loop (rec .ready none))
    rwa [World.size_alloc] at h
  have hK1 : W1.heap[D]? = some (.deferred (some [])) := by
    rw [hW1, hD]
    exact (Below.heap_alloc _ _ _ (by simp)).trans (World.alloc_heap_new w _)
  have hI1 : I [] t0 W1 := by
    rw [hW1]
    exact hI _ _ _ _ none (hI _ _ _ _ none h0 (World.grownBy_alloc w _ none) (fun r e => by cases e)) (World.grownBy_alloc _ _ none) (fun r e => by cases e)
  rw [← hD] at hI hIx hb hbody hdone hstop
  /- the invariant with the loop's record and the block of its deferred calls beside it -/
  let L : LoopState → Option Code → World → Prop := fun st pe W => W.heap[D + 1]? = some (.loop (rec st pe)) ∧ W.heap[D]? = some (.deferred (some []))
  have hLg : ∀ st pe W W', L st pe W → W.grownBy W' none → L st pe W' := fun st pe W W' h hg' =>
    ⟨(hg'.block _ (Array.getElem?_eq_some_iff.1 h.1).1 (by simp)).trans h.1, (hg'.block _ (Array.getElem?_eq_some_iff.1 h.2).1 (by simp)).trans h.2⟩
  have put : ∀ (W : World) (o : Obj), (∃ r, W.heap[D + 1]? = some (.loop r)) → W.heap[D]? = some (.deferred (some [])) → (W.putObj (D + 1) o).heap[D + 1]? = some o ∧ (W.putObj (D + 1) o).heap[D]? = some (.deferred (some [])) := fun W o h k => by
    obtain ⟨r, h⟩ := h
    exact ⟨World.putObj_heap_same (Array.getElem?_eq_some_iff.1 h).1, (World.putObj_heap_other (by omega)).trans k⟩
  have hIp : ∀ s t W o r, I s t W → W.heap[D + 1]? = some (.loop r) → I s t (W.putObj (D + 1) o) := fun s t W o r h k => hI s t W _ (some (D + 1)) h (grownBy_putObj' W _ o) (fun q e => by cases e; exact ⟨by omega, _, k, rfl⟩)
  have hIxp : ∀ s t W o r, Ix s t W → W.heap[D + 1]? = some (.loop r) → Ix s t (W.putObj (D + 1) o) := fun s t W o r h k => hIx s t W _ (some (D + 1)) h (grownBy_putObj' W _ o) (fun q e => by cases e; exact ⟨by omega, _, k, rfl⟩)
  refine ⟨D + 1, [{ target := .collected D, args := #[] }], W1, { target := .fn (.func gf) lb, args := #[.func (.yield (D + 1)) #[] #[]] }, W1, gf, #[.func (.yield (D + 1)) #[] #[]] ++ lb, W1, ?_, ?_, ?_, ?_, fun _ => h1, ?_⟩
  · rw [hW1, hrec, hD]; exact run_enterLoop_outer _ _ _ _ _
  · simp only [resolve, hg]
    simp [go_sem]
  · intro f' _; trivial
  · simp [invoke, go_sem, eg]
  · refine (hit (D + 1) (fun s t W => I s t W ∧ L .ready none W) (fun s t W => Ix s t W ∧ L .done (some .ret) W) W1 (fun s t W h => h.1)
      (fun s t t' W h => ⟨hset s t t' W h.1, (Below.heap_setCell W _ _ _ (by show D + 1 ≠ b; omega)).trans h.2.1, (Below.heap_setCell W _ _ _ (by show D ≠ b; omega)).trans h.2.2⟩)
      (fun s t W W' h hg' => ⟨hI s t W W' none h.1 hg' (fun r e => by cases e), hLg _ _ _ _ h.2 hg'⟩)
      (fun s t W W' h hg' => ⟨hIx s t W W' none h.1 hg' (fun r e => by cases e), hLg _ _ _ _ h.2 hg'⟩) ?_ ⟨hI1, hL1, hK1⟩).mono ?_
    · rintro pre t x W ⟨hi, hl, hk⟩ hok
      have hy := run_yield (P := P) (args := encs x) hl (by rw [hrec]; exact hps x)
      rw [hrec] at hy
      refine ⟨fn, _, assign, body, hy, roundIn_of_wpIn hfn (hassign _ x W _ ⟨_, run_beginRound hl (by rw [hrec]), ?_⟩)⟩
      obtain ⟨hl2, hk2⟩ := put W (.loop { rec .ready none with state := .busy }) ⟨_, hl⟩ hk
      refine wpIn_mono (hbody _ pre t x _ (hIp _ _ _ _ _ hi hl) hok) ?_
      rintro e a3 W3 ⟨hk3, hp⟩
      have hl3 := hk3.same _ _ (by omega) hl2 rfl
      have hd3 := hk3.same _ _ (Nat.le_refl _) hk2 rfl
      rcases hp with ⟨rfl, hi3⟩ | ⟨rfl, hi3⟩
      · have he := run_endRound (P := P) none hl3
        rw [hrec] at he
        obtain ⟨hl4, hk4⟩ := put W3 (.loop (rec .ready none)) ⟨_, hl3⟩ hd3
        rw [hrec] at hl4 hk4
        exact ⟨_, _, he, .inl ⟨rfl, hIp _ _ _ _ _ hi3 hl3, by show _ ∧ _; rw [hrec]; exact ⟨hl4, hk4⟩⟩⟩
      · have he := run_endRound (P := P) (some .ret) hl3
        rw [hrec] at he
        obtain ⟨hl4, hk4⟩ := put W3 (.loop (rec .done (some .ret))) ⟨_, hl3⟩ hd3
        rw [hrec] at hl4 hk4
        exact ⟨_, _, he, .inr ⟨rfl, hIxp _ _ _ _ _ hi3 hl3, by show _ ∧ _; rw [hrec]; exact ⟨hl4, hk4⟩⟩⟩
    · rintro e W2 ⟨⟨v, rfl⟩, (⟨xs, t, hS, hi, hl, hk⟩ | ⟨pre, t, hSp, hi, hl, hk⟩)⟩
      · have he := run_endLoop (P := P) hl (by rw [hrec]; simp)
        rw [hrec] at he
        obtain ⟨_, hk4⟩ := put W2 (.loop { rec .ready none with state := .exhausted }) ⟨_, hl⟩ hk
        rw [hrec] at hk4
        exact ⟨none, _, he, hdone D xs t _ (Nat.le_refl _) hS (hIp _ _ _ _ _ hi hl) hk4⟩
      · have he := run_endLoop (P := P) hl (by rw [hrec]; simp)
        rw [hrec] at he
        obtain ⟨_, hk4⟩ := put W2 (.loop { rec .done (some .ret) with state := .exhausted }) ⟨_, hl⟩ hk
        rw [hrec] at hk4
        exact ⟨some .ret, _, he, hstop D pre t _ (Nat.le_refl _) hSp (hIxp _ _ _ _ _ hi hl) hk4⟩
end Go.Proofs.YtgcdhfpbmcfedaaGreatDoor.rb
end
section
set_option linter.unusedVariables false
set_option linter.unusedSimpArgs false
namespace Go.Proofs.YtgcdhfpbmcfedaaGreatDoor.pf
open Go.RowKit Go.Proofs.YtgcdhfpbmcfedaaGreatDoor.oc Go.Proofs.YtgcdhfpbmcfedaaGreatDoor.mz Go.Proofs.YtgcdhfpbmcfedaaGreatDoor.wh Go.Proofs.YtgcdhfpbmcfedaaGreatDoor.qk
section
variable (w : World)
set_option maxRecDepth 100000 in
set_option maxHeartbeats 1000000 in
theorem tz64_ (ht : w.cell? ⟨5, 15, none⟩ = some (.int .u8 4)) : Calls Tryz.prog 136 #[.int .u64 16] w fun e w' => e = .returned (.int .i64 4) ∧ w = w' := by
  have e1 : IntKind.u64.wrap (-16) = 18446744073709551600 := by decide
  have e2 : bits .and .u64 16 18446744073709551600 = 16 := by decide
  have e3 : IntKind.u64.wrap (16 * 285870213051353865) = 4573923408821661840 := by decide
  have e4 : (4573923408821661840 : Int) / 288230376151711744 = 15 := by decide
  go_enter Tryz.func136, Tryz.ntmps136
  go_wp2
  go_ret
  exact ⟨rfl, rfl⟩
set_option maxRecDepth 100000 in
set_option maxHeartbeats 1000000 in
theorem tz_ (ht : w.cell? ⟨5, 15, none⟩ = some (.int .u8 4)) : Calls Tryz.prog 128 #[.int .u64 16] w fun e w' => e = .returned (.int .i64 4) ∧ w = w' := by
  have H := Lib.hid (tz64_ w ht)
  go_enter Tryz.func128, Tryz.ntmps128
  go_wp2_with fail
  refine H.out.mono ?_
  rintro e w1 ⟨rfl, rfl⟩
  go_wp2
  go_ret
  exact ⟨rfl, rfl⟩
set_option maxRecDepth 100000 in
set_option maxHeartbeats 1000000 in
theorem pow2_ : Calls Tryz.prog 127 #[.int .i64 16] w fun e w' => e = .returned (.bool true) ∧ w = w' := by
  have e1 : bits .and .i64 16 15 = 0 := by decide
  go_enter Tryz.func127, Tryz.ntmps127
  go_wp2
  go_ret
  exact ⟨rfl, rfl⟩
end
end Go.Proofs.YtgcdhfpbmcfedaaGreatDoor.pf
end
section
set_option linter.unusedVariables false
set_option linter.unusedSimpArgs false
namespace Go.Proofs.YtgcdhfpbmcfedaaGreatDoor.pf
open Go.RowKit Go.Proofs.YtgcdhfpbmcfedaaGreatDoor.oc Go.Proofs.YtgcdhfpbmcfedaaGreatDoor.mz Go.Proofs.YtgcdhfpbmcfedaaGreatDoor.wh Go.Proofs.YtgcdhfpbmcfedaaGreatDoor.qk
theorem sign_at (d : Nat) (hd : d < 16) : ∀ h : d < (⟨#[48, 49, 50, 51, 52, 53, 54, 55, 56, 57, 97, 98, 99, 100, 101, 102, 103, 104, 105, 106, 107, 108, 109, 110, 111, 112, 113, 114, 115, 116, 117, 118, 119, 120, 121, 122]⟩ : ByteArray).size, ((⟨#[48, 49, 50, 51, 52, 53, 54, 55, 56, 57, 97, 98, 99, 100, 101, 102, 103, 104, 105, 106, 107, 108, 109, 110, 111, 112, 113, 114, 115, 116, 117, 118, 119, 120, 121, 122]⟩ : ByteArray)[d]'h).toNat = sign d := by
  have h : ∀ x : Fin 16, ∀ h : x.val < (⟨#[48, 49, 50, 51, 52, 53, 54, 55, 56, 57, 97, 98, 99, 100, 101, 102, 103, 104, 105, 106, 107, 108, 109, 110, 111, 112, 113, 114, 115, 116, 117, 118, 119, 120, 121, 122]⟩ : ByteArray).size, ((⟨#[48, 49, 50, 51, 52, 53, 54, 55, 56, 57, 97, 98, 99, 100, 101, 102, 103, 104, 105, 106, 107, 108, 109, 110, 111, 112, 113, 114, 115, 116, 117, 118, 119, 120, 121, 122]⟩ : ByteArray)[x.val]'h).toNat = sign x.val := by decide +kernel
  exact h ⟨d, hd⟩
theorem and15 (u : Nat) (hu : u < 65536) : bits .and .u64 (u : Int) 15 = ((u % 16 : Nat) : Int) := by
  have e := u64_and_nat u 15 (by omega) (by omega)
  rw [show (15 : Int) = ((15 : Nat) : Int) from rfl, e, show (15 : Nat) = 2 ^ 4 - 1 from rfl, Nat.and_two_pow_sub_one_eq_mod]
theorem byte_info : (Tryz.prog.info? 5).map (fun i => (i.zero, i.size, i.bytes)) = some (some (.int .u8 0), 1, 1) := by kernel_rfl
theorem hx_dig (u k : Nat) (hu : u < 65536) (hk : k ≤ 3) (h1 : u / 16 ^ k < 16) (h2 : k = 0 ∨ 16 ≤ u / 16 ^ (k - 1)) : (hx u).length = k + 1 ∧ ∀ j, j ≤ k → (hx u)[j]? = some (sign (u / 16 ^ (k - j) % 16)) := by
  rcases hx_form u hu with ⟨a1, e⟩ | ⟨a1, a2, e⟩ | ⟨a1, a2, e⟩ | ⟨a1, e⟩ <;> rw [e] <;> rcases (show k = 0 ∨ k = 1 ∨ k = 2 ∨ k = 3 by omega) with rfl | rfl | rfl | rfl <;> simp at h1 h2 <;> first
    | omega
    | (refine ⟨rfl, fun j hj => ?_⟩
       rcases (show j = 0 ∨ j = 1 ∨ j = 2 ∨ j = 3 by omega) with rfl | rfl | rfl | rfl <;> first
         | (exfalso; omega)
         | (simp; congr 1; omega)
         | simp)
/-- the digits that have been laid, from the last one on -/
structure HB (w wr : World) (B n : Nat) (sv : Value) (xs : List Value) (u k : Nat) (L : List Nat) : Prop where
  bl : Blk wr w.heap.size 157 (b8s L)
  own : wr.ownsRow B 5 1 sv n xs
  be : Below B w wr
  sz : w.heap.size < wr.heap.size
  len : L.length = 65
  dig : ∀ j, j < k → L[64 - j]? = some (sign (u / 16 ^ j % 16))
  low : k = 0 ∨ 16 ≤ u / 16 ^ (k - 1)
  kl : k ≤ 3
theorem HB.next {w wr : World} {B n : Nat} {sv : Value} {xs : List Value} {u k : Nat} {L : List Nat} (h : HB w wr B n sv xs u k L) (hB : B ≤ w.heap.size) (hs : ∀ b, sv.ownBlock = some b → b < w.heap.size) (x : Nat) (hx : x = sign (u / 16 ^ k % 16)) :
    Blk (wr.setCell ⟨w.heap.size, 64 - k, none⟩ (.int .u8 (x : Int))) w.heap.size 157 (b8s (L.set (64 - k) x)) ∧ (wr.setCell ⟨w.heap.size, 64 - k, none⟩ (.int .u8 (x : Int))).ownsRow B 5 1 sv n xs ∧ Below B w (wr.setCell ⟨w.heap.size, 64 - k, none⟩ (.int .u8 (x : Int))) ∧ w.heap.size < (wr.setCell ⟨w.heap.size, 64 - k, none⟩ (.int .u8 (x : Int))).heap.size ∧ (L.set (64 - k) x).length = 65 ∧ ∀ j, j < k + 1 → (L.set (64 - k) x)[64 - j]? = some (sign (u / 16 ^ j % 16)) := by
  have hg : wr.grownBy (wr.setCell ⟨w.heap.size, 64 - k, none⟩ (.int .u8 (x : Int))) (some w.heap.size) := grown_set _ _ _
  refine ⟨by rw [b8_set]; exact h.bl.put _ _, ?_, ?_, ?_, by simp [h.len], fun j hj => ?_⟩
  · refine h.own.kept hg (.inr fun e => ?_)
    have := hs _ e
    omega
  · exact h.be.grown hg (Nat.le_trans hB (Nat.le_of_lt h.sz)) (fun b hb => by cases hb; exact hB)
  · exact Nat.lt_of_lt_of_le h.sz hg.size
  · rw [List.getElem?_set]
    by_cases e : j = k
    · subst e
      rw [if_pos rfl, if_pos (by rw [h.len]; omega), hx]
    · have := h.kl
      rw [if_neg (by omega), h.dig j (by omega)]
section
variable (w : World)

set_option maxRecDepth 100000 in
set_option maxHeartbeats 4000000 in
theorem fbits_ (B n u : Nat) (hu : u < 65536) (sv : Value) (xs : List Value) (ht : w.cell? ⟨5, 15, none⟩ = some (.int .u8 4)) (hown : w.ownsRow B 5 1 sv n xs) (hBw : B ≤ w.heap.size) (hlim : n + 20 ≤ 140737488355328) :
    Calls Tryz.prog 110 #[sv, .int .u64 (u : Int), .int .i64 16, .bool false, .bool true] w fun e w' => ∃ v', e = .returned (.tuple #[v', .string ⟨#[]⟩]) ∧ w'.ownsRow B 5 1 v' (n + (hx u).length) (xs ++ b8s (hx u)) ∧ Below B w w' := by
  have hz : Tryz.zeroCells157 = (b8s (List.replicate 65 0)).toArray := by kernel_rfl
  have hob : ∀ b, sv.ownBlock = some b → b < w.heap.size := fun b hb => (hown.lt b hb).2
  obtain ⟨w1, hw1⟩ : ∃ w1, w1 = w.alloc (.cells Tryz.zeroCells157 157) := ⟨_, rfl⟩
  have b1 := Blk.new w 157 Tryz.zeroCells157
  rw [← hw1] at b1
  have hg : w.grownBy w1 none := by rw [hw1]; exact World.grownBy_alloc w _ none
  have ht1 : w1.cell? ⟨5, 15, none⟩ = some (.int .u8 4) := by
    rw [hw1]
    exact Keeps.cell ((Keeps.refl (fun _ => False) w).alloc _) ht (fun z => z)
  have HI := Lib.hid (show HB w w1 B n sv xs u 0 (List.replicate 65 0) from ⟨by rw [hz] at b1; exact b1, (by
    cases hsv : sv.ownBlock with
    | none => exact hown.kept hg (.inl hsv)
    | some b => exact hown.kept hg (.inr (by rw [hsv]; simp))), (Below.refl B w).grown hg hBw (fun k hk => by simp at hk), by rw [hw1, World.size_alloc]; omega, by simp, fun j hj => by omega, .inl rfl, by omega⟩)
  have HZ := Lib.hid (tz_ w1 ht1)
  have HP := Lib.hid (pow2_ w1)
  have HW := Lib.hid hw1
  have HO := Lib.hid (And.intro hBw hob)
  have hu0 : (0 : Int) ≤ (u : Int) := by omega
  clear hown ht ht1 b1 hg hw1 hz hob
  go_enter Tryz.func110, Tryz.ntmps110
  go_wp2_with (rw [← HW.out]; refine HP.out.mono ?_; rintro e w' ⟨rfl, rfl⟩)
  refine HZ.out.mono ?_
  rintro e w' ⟨rfl, rfl⟩
  go_wp2_with fail
  clear HP HZ HW
  go_loopw [1, 13] (fun i c wr => ∃ (k : Nat) (L : List Nat), i = .int .u64 ((u / 16 ^ k : Nat) : Int) ∧ c = .int .i64 ((65 - k : Nat) : Int) ∧ HB w wr B n sv xs u k L) (fun i _ _ => (intOf i).toNat)
  case atStart => exact ⟨0, _, by simp, rfl, HI.out⟩
  case round =>
    obtain ⟨k, L, rfl, rfl, hh⟩ := hrel
    obtain ⟨v, hv⟩ : ∃ v, v = u / 16 ^ k := ⟨_, rfl⟩
    rw [← hv]
    have hvu : v < 65536 := by rw [hv]; exact Nat.lt_of_le_of_lt (Nat.div_le_self _ _) hu
    have hkl := hh.kl
    obtain ⟨c, hc⟩ : ∃ c, c = 64 - k := ⟨_, rfl⟩
    have hc1 : ((65 - k : Nat) : Int) = (c : Int) + 1 := by omega
    rw [hc1]
    have hc64 : c ≤ 64 := by omega
    have hc0 : (0 : Int) ≤ (c : Int) := by omega
    have hcw : (c : Int) + 1 - 1 = (c : Int) := by omega
    have hcl : (c : Int) < 65 := by omega
    have v0 : (0 : Int) ≤ (v : Int) := by omega
    obtain ⟨z, xc⟩ : ∃ z, wr.cell? ⟨w.heap.size, c, none⟩ = some z := by
      rw [hh.bl.cell c]
      exact ⟨_, List.getElem?_eq_getElem (by rw [b8_len, hh.len]; omega)⟩
    have xf := hh.bl.frozen c
    have HH := Lib.hid hh
    have HV := Lib.hid (And.intro hv hc)
    clear hh hkl hc1 hv hc
    by_cases h16 : 16 ≤ v
    · have h16' : (16 : Int) ≤ (v : Int) := by omega
      have hand := and15 v hvu
      have hd : v % 16 < 16 := Nat.mod_lt _ (by omega)
      have hs := sign_at (v % 16) hd
      have hk2 : k ≤ 2 := by
        have := HV.out.1
        rcases Nat.lt_or_ge k 3 with q | q
        · omega
        · have : k = 3 := by have := HH.out.kl; omega
          subst this
          omega
      have hn := HH.out.next HO.out.1 HO.out.2 (sign (v % 16)) (by rw [HV.out.1])
      rw [← HV.out.2] at hn
      have HN := Lib.hid hn
      have HK := Lib.hid hk2
      obtain ⟨q, hq⟩ : ∃ q, q = v / 16 := ⟨_, rfl⟩
      have hshr : (v : Int) / 16 = (q : Int) := by omega
      have HQ := Lib.hid hq
      clear hq
      clear hn hk2 hvu hc64
      generalize hdd : v % 16 = d at *
      generalize sign d = x at *
      clear hdd
      go_wp2_with fail
      generalize hw9 : wr.setCell ⟨w.heap.size, c, none⟩ (.int .u8 (x : Int)) = w9 at *
      have hq9 : q = u / 16 ^ (k + 1) := by rw [HQ.out, HV.out.1, Nat.pow_succ, Nat.div_div_eq_div_mul]
      have hc9 : (c : Int) = ((65 - (k + 1) : Nat) : Int) := by have := HV.out.2; omega
      have hlow : 16 ≤ u / 16 ^ (k + 1 - 1) := by rw [Nat.add_sub_cancel, ← HV.out.1]; exact h16
      refine ⟨⟨k + 1, L.set c x, by rw [hq9], by rw [hc9], HN.out.1, HN.out.2.1, HN.out.2.2.1, HN.out.2.2.2.1, HN.out.2.2.2.2.1, HN.out.2.2.2.2.2, .inr hlow, by have := HK.out; omega⟩, ?_⟩
      simp [intOf]
      have := HQ.out
      omega
    · have h16' : ¬ (16 : Int) ≤ (v : Int) := by omega
      have hs := sign_at v (by omega)
      have hv36 : (v : Int) < 36 := by omega
      have hn := HH.out.next HO.out.1 HO.out.2 (sign v) (by rw [← HV.out.1, Nat.mod_eq_of_lt (by omega)])
      rw [← HV.out.2] at hn
      have HN := Lib.hid hn
      have HD := Lib.hid (hx_dig u k hu HH.out.kl (by rw [← HV.out.1]; omega) (HH.out.low))
      obtain ⟨i0, hi, hz0, hz1, hz2⟩ := info_parts byte_info
      have HI0 := Lib.hid (And.intro hi (And.intro hz0 (And.intro hz1 hz2)))
      obtain ⟨l, hl⟩ : ∃ l : Nat, l = 65 - c := ⟨_, rfl⟩
      have hlc : (65 : Int) - (c : Int) = (l : Int) := by omega
      have hlk : l = k + 1 := by have := HV.out.2; have := HH.out.kl; omega
      have HL := Lib.hid (And.intro hl hlk)
      have hc65 : (c : Int) ≤ 65 := by omega
      clear hn hvu hc64 hi hz0 hz1 hz2 hl hlk
      generalize hx9 : sign v = x at *
      clear hx9
      go_wp2_with (at_builtin; refine wpList_append_own _ rfl _ _ 68 rfl B 5 i0 (.int .u8 0) 1 1 Tryz.underlying68 HI0.out.1 HI0.out.2.1 HI0.out.2.2.1 HI0.out.2.2.2 rfl (by decide) _ _ _ rfl HN.out.2.1 ⟨w.heap.size, c, none⟩ (65 - c) (65 - c) (b8s (hx u)) rfl ?c0 ?c1 ?c2 ?c3 ?c4 ?c5 ?_)
      case c0 => rw [b8_len, HD.out.1]; have := HL.out; omega
      case c1 =>
        intro j u' hj
        have hj' : j < k + 1 := by
          have := (List.getElem?_eq_some_iff.1 hj).1
          rwa [b8_len, HD.out.1] at this
        rw [b8s, List.getElem?_map, HD.out.2 j (by omega)] at hj
        simp only [Option.map_some, Option.some.injEq] at hj
        rw [← hj]
        show World.cell? _ ⟨w.heap.size, c + j, none⟩ = _
        have := HN.out.2.2.2.2.2 (k - j) (by omega)
        rw [HN.out.1.cell, b8s, List.getElem?_map, show c + j = 64 - (k - j) from by have := HV.out.2; have := HH.out.kl; omega, this]
        rfl
      case c2 => intro u' hu'; exact b8_one _ u' hu'
      case c3 => rw [show 65 - c = k + 1 from by have := HL.out; omega]; have := HH.out.kl; unfold maxLen; omega
      case c4 => have := HL.out; have := HH.out.kl; omega
      case c5 => exact Nat.le_trans HO.out.1 (Nat.le_of_lt HH.out.sz)
      intro v2 w3 hown' hgrow _
      go_wp2
      try rw [Exit.noGoto_ret]
      go_ret2
      refine ⟨v2, rfl, ?_, ?_⟩
      · rw [HD.out.1, show n + (k + 1) = n + (65 - c) from by have := HL.out; omega]; exact hown'
      · exact HN.out.2.2.1.grown hgrow (Nat.le_trans HO.out.1 (Nat.le_of_lt HN.out.2.2.2.1)) (fun b hb => (HH.out.own.lt b hb).1)
end
end Go.Proofs.YtgcdhfpbmcfedaaGreatDoor.pf
end
section
namespace Go.Proofs
open Go.Shelf
def Tryz.laysM171_ren : Go.Shelf.Ren := ⟨fun | 171 => 54 | 243 => 70 | 246 => 85 | 283 => 107 | 284 => 108 | 285 => 109 | 286 => 110 | 129 => 105 | 317 => 125 | 318 => 126 | 319 => 127 | 320 => 128 | 337 => 135 | 338 => 136 | n => n, fun | 3 => 3 | 9 => 9 | 2 => 2 | 4 => 4 | 171 => 134 | 0 => 0 | 53 => 96 | 37 => 68 | 5 => 5 | 173 => 136 | 212 => 156 | 51 => 132 | 20 => 20 | 213 => 157 | 46 => 90 | 232 => 170 | 233 => 171 | n => n, fun | 17 => 3 | 18 => 4 | 19 => 5 | n => n⟩
theorem Tryz.laysM171 : Go.Proofs.LaysM.n171 Tryz.prog Tryz.laysM171_ren := {
  mixed := by kernel_rfl
  f129 := Tryz.func105.trans (congrArg some (by kernel_rfl))
  f171 := Tryz.func54.trans (congrArg some (by kernel_rfl))
  f243 := Tryz.func70.trans (congrArg some (by kernel_rfl))
  f246 := Tryz.func85.trans (congrArg some (by kernel_rfl))
  f283 := Tryz.func107.trans (congrArg some (by kernel_rfl))
  f284 := Tryz.func108.trans (congrArg some (by kernel_rfl))
  f285 := Tryz.func109.trans (congrArg some (by kernel_rfl))
  f286 := Tryz.func110.trans (congrArg some (by kernel_rfl))
  f317 := Tryz.func125.trans (congrArg some (by kernel_rfl))
  f318 := Tryz.func126.trans (congrArg some (by kernel_rfl))
  f319 := Tryz.func127.trans (congrArg some (by kernel_rfl))
  f320 := Tryz.func128.trans (congrArg some (by kernel_rfl))
  f337 := Tryz.func135.trans (congrArg some (by kernel_rfl))
  f338 := Tryz.func136.trans (congrArg some (by kernel_rfl))
  t0 := Tryz.underlying0
  a0 := Tryz.isAgg0
  z0 := Tryz.sizeOf0
  v0 := Tryz.zeroValue0
  t2 := Tryz.underlying2
  a2 := Tryz.isAgg2
  z2 := Tryz.sizeOf2
  v2 := Tryz.zeroValue2
  t3 := Tryz.underlying3
  a3 := Tryz.isAgg3
  z3 := Tryz.sizeOf3
  v3 := Tryz.zeroValue3
  t4 := Tryz.underlying4
  a4 := Tryz.isAgg4
  z4 := Tryz.sizeOf4
  v4 := Tryz.zeroValue4
  t5 := Tryz.underlying5
  a5 := Tryz.isAgg5
  z5 := Tryz.sizeOf5
  v5 := Tryz.zeroValue5
  t9 := Tryz.underlying9
  a9 := Tryz.isAgg9
  z9 := Tryz.sizeOf9
  v9 := Tryz.zeroValue9
  t20 := Tryz.underlying20
  a20 := Tryz.isAgg20
  z20 := Tryz.sizeOf20
  v20 := Tryz.zeroValue20
  t37 := Tryz.underlying68
  a37 := Tryz.isAgg68
  z37 := Tryz.sizeOf68
  v37 := Tryz.zeroValue68
  t46 := Tryz.underlying90
  a46 := Tryz.isAgg90
  z46 := Tryz.sizeOf90
  v46 := Tryz.zeroValue90
  t51 := Tryz.underlying132
  a51 := Tryz.isAgg132
  z51 := Tryz.sizeOf132
  v51 := Tryz.zeroValue132
  t53 := Tryz.underlying96
  a53 := Tryz.isAgg96
  z53 := Tryz.sizeOf96
  v53 := Tryz.zeroValue96
  t171 := Tryz.underlying134
  a171 := Tryz.isAgg134
  z171 := Tryz.sizeOf134
  v171 := Tryz.zeroValue134
  t173 := Tryz.underlying136
  a173 := Tryz.isAgg136
  z173 := Tryz.sizeOf136
  v173 := Tryz.zeroValue136
  t212 := Tryz.underlying156
  a212 := Tryz.isAgg156
  z212 := Tryz.sizeOf156
  v212 := Tryz.zeroValue156
  t213 := Tryz.underlying157
  a213 := Tryz.isAgg157
  z213 := Tryz.sizeOf157
  t232 := Tryz.underlying170
  a232 := Tryz.isAgg170
  z232 := Tryz.sizeOf170
  v232 := Tryz.zeroValue170
  t233 := Tryz.underlying171
  a233 := Tryz.isAgg171
  z233 := Tryz.sizeOf171
  v233 := Tryz.zeroValue171
  g17 := by kernel_rfl
  g18 := by kernel_rfl
  g19 := by kernel_rfl
  i0 := by kernel_rfl
  i2 := by kernel_rfl
  i3 := by kernel_rfl
  i4 := by kernel_rfl
  i5 := by kernel_rfl
  i9 := by kernel_rfl
  i20 := by kernel_rfl
  i37 := by kernel_rfl
  i46 := by kernel_rfl
  i51 := by kernel_rfl
  i53 := by kernel_rfl
  i171 := by kernel_rfl
  i173 := by kernel_rfl
  i212 := by kernel_rfl
  i232 := by kernel_rfl
  i233 := by kernel_rfl
  m17 := by kernel_rfl
  m18 := by kernel_rfl
  m19 := by kernel_rfl }
open Go.RowKit Go.Sort Go.Lib in
theorem Tryz.strconv_Itoa (n : Int) (h0 : -9223372036854775808 ≤ n) (h1 : n ≤ 9223372036854775807) (w : World) (htab : Lib.TabIs Tryz.prog w "internal/strconv.uint64pow10" .u64 Lib.pow10Tab) :
    Calls Tryz.prog 54 #[.int .i64 n] w fun e w' => e = .returned (.string ⟨(Lib.itoa n).toArray⟩) ∧ ∃ k os, w' = grow (w.drewN k) os := Any.strconv_Itoa Tryz.laysM171 n h0 h1 w htab
def Tryz.laysC245_ren : Go.Shelf.Ren := ⟨fun | 245 => 76 | 279 => 91 | 280 => 92 | 281 => 93 | 282 => 94 | 316 => 118 | 171 => 54 | 205 => 119 | 243 => 70 | 246 => 85 | 283 => 107 | 284 => 108 | 285 => 109 | 286 => 110 | 129 => 105 | 317 => 125 | 318 => 126 | 319 => 127 | 320 => 128 | 337 => 135 | 338 => 136 | n => n, fun | 9 => 9 | 3 => 3 | 75 => 82 | 167 => 116 | 4 => 4 | 168 => 119 | 210 => 147 | 37 => 68 | 0 => 0 | 127 => 162 | 145 => 165 | 143 => 163 | 2 => 2 | 171 => 134 | 53 => 96 | 5 => 5 | 173 => 136 | 212 => 156 | 51 => 132 | 20 => 20 | 213 => 157 | 46 => 90 | 232 => 170 | 233 => 171 | 80 => 176 | n => n, fun | 15 => 1 | 16 => 2 | 17 => 3 | 18 => 4 | 19 => 5 | n => n⟩
theorem Tryz.laysC245 : Go.Proofs.LaysC.n245 Tryz.prog Tryz.laysC245_ren := {
  mixed := by kernel_rfl
  f129 := Tryz.func105.trans (congrArg some (by kernel_rfl))
  f171 := Tryz.func54.trans (congrArg some (by kernel_rfl))
  f205 := Tryz.func119.trans (congrArg some (by kernel_rfl))
  f243 := Tryz.func70.trans (congrArg some (by kernel_rfl))
  f245 := Tryz.func76.trans (congrArg some (by kernel_rfl))
  f246 := Tryz.func85.trans (congrArg some (by kernel_rfl))
  f279 := Tryz.func91.trans (congrArg some (by kernel_rfl))
  f280 := Tryz.func92.trans (congrArg some (by kernel_rfl))
  f281 := Tryz.func93.trans (congrArg some (by kernel_rfl))
  f282 := Tryz.func94.trans (congrArg some (by kernel_rfl))
  f283 := Tryz.func107.trans (congrArg some (by kernel_rfl))
  f284 := Tryz.func108.trans (congrArg some (by kernel_rfl))
  f285 := Tryz.func109.trans (congrArg some (by kernel_rfl))
  f286 := Tryz.func110.trans (congrArg some (by kernel_rfl))
  f316 := Tryz.func118.trans (congrArg some (by kernel_rfl))
  f317 := Tryz.func125.trans (congrArg some (by kernel_rfl))
  f318 := Tryz.func126.trans (congrArg some (by kernel_rfl))
  f319 := Tryz.func127.trans (congrArg some (by kernel_rfl))
  f320 := Tryz.func128.trans (congrArg some (by kernel_rfl))
  f337 := Tryz.func135.trans (congrArg some (by kernel_rfl))
  f338 := Tryz.func136.trans (congrArg some (by kernel_rfl))
  t0 := Tryz.underlying0
  a0 := Tryz.isAgg0
  z0 := Tryz.sizeOf0
  v0 := Tryz.zeroValue0
  t2 := Tryz.underlying2
  a2 := Tryz.isAgg2
  z2 := Tryz.sizeOf2
  v2 := Tryz.zeroValue2
  t3 := Tryz.underlying3
  a3 := Tryz.isAgg3
  z3 := Tryz.sizeOf3
  v3 := Tryz.zeroValue3
  t4 := Tryz.underlying4
  a4 := Tryz.isAgg4
  z4 := Tryz.sizeOf4
  v4 := Tryz.zeroValue4
  t5 := Tryz.underlying5
  a5 := Tryz.isAgg5
  z5 := Tryz.sizeOf5
  v5 := Tryz.zeroValue5
  t9 := Tryz.underlying9
  a9 := Tryz.isAgg9
  z9 := Tryz.sizeOf9
  v9 := Tryz.zeroValue9
  t20 := Tryz.underlying20
  a20 := Tryz.isAgg20
  z20 := Tryz.sizeOf20
  v20 := Tryz.zeroValue20
  t37 := Tryz.underlying68
  a37 := Tryz.isAgg68
  z37 := Tryz.sizeOf68
  v37 := Tryz.zeroValue68
  t46 := Tryz.underlying90
  a46 := Tryz.isAgg90
  z46 := Tryz.sizeOf90
  v46 := Tryz.zeroValue90
  t51 := Tryz.underlying132
  a51 := Tryz.isAgg132
  z51 := Tryz.sizeOf132
  v51 := Tryz.zeroValue132
  t53 := Tryz.underlying96
  a53 := Tryz.isAgg96
  z53 := Tryz.sizeOf96
  v53 := Tryz.zeroValue96
  t75 := Tryz.underlying82
  a75 := Tryz.isAgg82
  z75 := Tryz.sizeOf82
  v75 := Tryz.zeroValue82
  t127 := Tryz.underlying162
  a127 := Tryz.isAgg162
  z127 := Tryz.sizeOf162
  v127 := Tryz.zeroValue162
  t143 := Tryz.underlying163
  a143 := Tryz.isAgg163
  z143 := Tryz.sizeOf163
  v143 := Tryz.zeroValue163
  t145 := Tryz.underlying165
  a145 := Tryz.isAgg165
  z145 := Tryz.sizeOf165
  v145 := Tryz.zeroValue165
  t167 := Tryz.underlying116
  a167 := Tryz.isAgg116
  z167 := Tryz.sizeOf116
  v167 := Tryz.zeroValue116
  t168 := Tryz.underlying119
  a168 := Tryz.isAgg119
  z168 := Tryz.sizeOf119
  v168 := Tryz.zeroValue119
  t171 := Tryz.underlying134
  a171 := Tryz.isAgg134
  z171 := Tryz.sizeOf134
  v171 := Tryz.zeroValue134
  t173 := Tryz.underlying136
  a173 := Tryz.isAgg136
  z173 := Tryz.sizeOf136
  v173 := Tryz.zeroValue136
  t210 := Tryz.underlying147
  a210 := Tryz.isAgg147
  z210 := Tryz.sizeOf147
  v210 := Tryz.zeroValue147
  t212 := Tryz.underlying156
  a212 := Tryz.isAgg156
  z212 := Tryz.sizeOf156
  v212 := Tryz.zeroValue156
  t213 := Tryz.underlying157
  a213 := Tryz.isAgg157
  z213 := Tryz.sizeOf157
  t232 := Tryz.underlying170
  a232 := Tryz.isAgg170
  z232 := Tryz.sizeOf170
  v232 := Tryz.zeroValue170
  t233 := Tryz.underlying171
  a233 := Tryz.isAgg171
  z233 := Tryz.sizeOf171
  v233 := Tryz.zeroValue171
  g15 := by kernel_rfl
  g16 := by kernel_rfl
  g17 := by kernel_rfl
  g18 := by kernel_rfl
  g19 := by kernel_rfl
  t80 := Tryz.underlying176
  a80 := Tryz.isAgg176
  z80 := Tryz.sizeOf176
  v80 := Tryz.zeroValue176
  i0 := by kernel_rfl
  i2 := by kernel_rfl
  i3 := by kernel_rfl
  i4 := by kernel_rfl
  i5 := by kernel_rfl
  i9 := by kernel_rfl
  i20 := by kernel_rfl
  i37 := by kernel_rfl
  i46 := by kernel_rfl
  i51 := by kernel_rfl
  i53 := by kernel_rfl
  i75 := by kernel_rfl
  i80 := by kernel_rfl
  i127 := by kernel_rfl
  i143 := by kernel_rfl
  i145 := by kernel_rfl
  i167 := by kernel_rfl
  i168 := by kernel_rfl
  i171 := by kernel_rfl
  i173 := by kernel_rfl
  i210 := by kernel_rfl
  i212 := by kernel_rfl
  i232 := by kernel_rfl
  i233 := by kernel_rfl
  m15 := by kernel_rfl
  m16 := by kernel_rfl
  m17 := by kernel_rfl
  m18 := by kernel_rfl
  m19 := by kernel_rfl
  c0 := by kernel_rfl
  c2 := by kernel_rfl
  c3 := by kernel_rfl
  c4 := by kernel_rfl
  c5 := by kernel_rfl
  c9 := by kernel_rfl
  c20 := by kernel_rfl
  c37 := by kernel_rfl
  c46 := by kernel_rfl
  c51 := by kernel_rfl
  c53 := by kernel_rfl
  c75 := by kernel_rfl
  c80 := by kernel_rfl
  c127 := by kernel_rfl
  c143 := by kernel_rfl
  c145 := by kernel_rfl
  c167 := by kernel_rfl
  c168 := by kernel_rfl
  c171 := by kernel_rfl
  c173 := by kernel_rfl
  c210 := by kernel_rfl
  c212 := by kernel_rfl
  c213 := by kernel_rfl
  c232 := by kernel_rfl
  c233 := by kernel_rfl }
open Go.RowKit in
theorem Tryz.strconv_toError_syntax (fn s : ByteArray) (base bits : Int) (ev : Value) (w : World) (hlim : s.size ≤ 281474976710656) (hv : w.cell? ⟨1, 0, none⟩ = some ev) (hev : ev = .nilIface ∨ ∃ te pe, ev = .iface te pe) :
    Calls Tryz.prog 76 #[.string fn, .string s, .int .i64 base, .int .i64 bits, .iface 116 (.int .i64 2)] w fun e w' => ∃ N, e = .returned (.iface 119 (.pointer (some ⟨N, 0, none⟩))) ∧ w.heap.size ≤ N ∧ w'.heap[N]? = some (.cells #[.string fn, .string s, ev] 147 (0, 0)) ∧ Below w.heap.size w w' := Any.strconv_toError_syntax Tryz.laysC245 fn s base bits ev w hlim hv hev
def Tryz.lays321_ren : Go.Shelf.Ren := ⟨fun | 321 => 132 | n => n, fun | 5 => 5 | n => n, fun | n => n⟩
theorem Tryz.lays321 : Go.Proofs.Lays.n321 Tryz.prog Tryz.lays321_ren := {
  mixed := by kernel_rfl
  f321 := Tryz.func132.trans (congrArg some (by kernel_rfl))
  t5 := Tryz.underlying5
  a5 := Tryz.isAgg5
  z5 := Tryz.sizeOf5
  v5 := Tryz.zeroValue5 }
open Go.RowKit in
theorem Tryz.internal_strconv_lower (c : Int) (w : World) :
    Calls Tryz.prog 132 #[.int .u8 c] w fun e w' => e = .returned (.int .u8 (bits .or .u8 c 32)) ∧ w' = w := Any.internal_strconv_lower Tryz.lays321 c w
def Tryz.lays287_ren : Go.Shelf.Ren := ⟨fun | 287 => 117 | 321 => 132 | 322 => 133 | n => n, fun | 9 => 9 | 3 => 3 | 53 => 96 | 75 => 82 | 4 => 4 | 167 => 116 | 5 => 5 | 46 => 90 | 37 => 68 | 0 => 0 | 21 => 21 | 80 => 176 | n => n, fun | n => n⟩
theorem Tryz.lays287 : Go.Proofs.Lays.n287 Tryz.prog Tryz.lays287_ren := {
  mixed := by kernel_rfl
  f287 := Tryz.func117.trans (congrArg some (by kernel_rfl))
  f321 := Tryz.func132.trans (congrArg some (by kernel_rfl))
  f322 := Tryz.func133.trans (congrArg some (by kernel_rfl))
  t0 := Tryz.underlying0
  a0 := Tryz.isAgg0
  z0 := Tryz.sizeOf0
  v0 := Tryz.zeroValue0
  t3 := Tryz.underlying3
  a3 := Tryz.isAgg3
  z3 := Tryz.sizeOf3
  v3 := Tryz.zeroValue3
  t4 := Tryz.underlying4
  a4 := Tryz.isAgg4
  z4 := Tryz.sizeOf4
  v4 := Tryz.zeroValue4
  t5 := Tryz.underlying5
  a5 := Tryz.isAgg5
  z5 := Tryz.sizeOf5
  v5 := Tryz.zeroValue5
  t9 := Tryz.underlying9
  a9 := Tryz.isAgg9
  z9 := Tryz.sizeOf9
  v9 := Tryz.zeroValue9
  t21 := Tryz.underlying21
  a21 := Tryz.isAgg21
  z21 := Tryz.sizeOf21
  v21 := Tryz.zeroValue21
  t37 := Tryz.underlying68
  a37 := Tryz.isAgg68
  z37 := Tryz.sizeOf68
  v37 := Tryz.zeroValue68
  t46 := Tryz.underlying90
  a46 := Tryz.isAgg90
  z46 := Tryz.sizeOf90
  v46 := Tryz.zeroValue90
  t53 := Tryz.underlying96
  a53 := Tryz.isAgg96
  z53 := Tryz.sizeOf96
  v53 := Tryz.zeroValue96
  t75 := Tryz.underlying82
  a75 := Tryz.isAgg82
  z75 := Tryz.sizeOf82
  v75 := Tryz.zeroValue82
  t167 := Tryz.underlying116
  a167 := Tryz.isAgg116
  z167 := Tryz.sizeOf116
  v167 := Tryz.zeroValue116 }
open Go.RowKit in
theorem Tryz.strconv_toError_range (fn s : ByteArray) (base bits : Int) (ev : Value) (w : World) (hlim : s.size ≤ 281474976710656) (hv : w.cell? ⟨2, 0, none⟩ = some ev) (hev : ev = .nilIface ∨ ∃ te pe, ev = .iface te pe) :
    Calls Tryz.prog 76 #[.string fn, .string s, .int .i64 base, .int .i64 bits, .iface 116 (.int .i64 1)] w fun e w' => ∃ N, e = .returned (.iface 119 (.pointer (some ⟨N, 0, none⟩))) ∧ w.heap.size ≤ N ∧ w'.heap[N]? = some (.cells #[.string fn, .string s, ev] 147 (0, 0)) ∧ Below w.heap.size w w' := Any.strconv_toError_range Tryz.laysC245 fn s base bits ev w hlim hv hev
def Tryz.laysC172_ren : Go.Shelf.Ren := ⟨fun | 172 => 57 | 244 => 75 | 245 => 76 | 247 => 90 | 279 => 91 | 280 => 92 | 281 => 93 | 282 => 94 | 287 => 117 | 316 => 118 | 171 => 54 | 205 => 119 | 321 => 132 | 322 => 133 | 243 => 70 | 246 => 85 | 283 => 107 | 284 => 108 | 285 => 109 | 286 => 110 | 129 => 105 | 317 => 125 | 318 => 126 | 319 => 127 | 320 => 128 | 337 => 135 | 338 => 136 | n => n, fun | 9 => 9 | 3 => 3 | 75 => 82 | 76 => 83 | 4 => 4 | 5 => 5 | 167 => 116 | 37 => 68 | 0 => 0 | 85 => 117 | 2 => 2 | 168 => 119 | 53 => 96 | 175 => 141 | 46 => 90 | 210 => 147 | 127 => 162 | 145 => 165 | 143 => 163 | 21 => 21 | 171 => 134 | 173 => 136 | 212 => 156 | 51 => 132 | 20 => 20 | 213 => 157 | 232 => 170 | 233 => 171 | 80 => 176 | n => n, fun | 15 => 1 | 16 => 2 | 17 => 3 | 18 => 4 | 19 => 5 | n => n⟩
theorem Tryz.laysC172 : Go.Proofs.LaysC.n172 Tryz.prog Tryz.laysC172_ren := {
  mixed := by kernel_rfl
  f129 := Tryz.func105.trans (congrArg some (by kernel_rfl))
  f171 := Tryz.func54.trans (congrArg some (by kernel_rfl))
  f172 := Tryz.func57.trans (congrArg some (by kernel_rfl))
  f205 := Tryz.func119.trans (congrArg some (by kernel_rfl))
  f243 := Tryz.func70.trans (congrArg some (by kernel_rfl))
  f244 := Tryz.func75.trans (congrArg some (by kernel_rfl))
  f245 := Tryz.func76.trans (congrArg some (by kernel_rfl))
  f246 := Tryz.func85.trans (congrArg some (by kernel_rfl))
  f247 := Tryz.func90.trans (congrArg some (by kernel_rfl))
  f279 := Tryz.func91.trans (congrArg some (by kernel_rfl))
  f280 := Tryz.func92.trans (congrArg some (by kernel_rfl))
  f281 := Tryz.func93.trans (congrArg some (by kernel_rfl))
  f282 := Tryz.func94.trans (congrArg some (by kernel_rfl))
  f283 := Tryz.func107.trans (congrArg some (by kernel_rfl))
  f284 := Tryz.func108.trans (congrArg some (by kernel_rfl))
  f285 := Tryz.func109.trans (congrArg some (by kernel_rfl))
  f286 := Tryz.func110.trans (congrArg some (by kernel_rfl))
  f287 := Tryz.func117.trans (congrArg some (by kernel_rfl))
  f316 := Tryz.func118.trans (congrArg some (by kernel_rfl))
  f317 := Tryz.func125.trans (congrArg some (by kernel_rfl))
  f318 := Tryz.func126.trans (congrArg some (by kernel_rfl))
  f319 := Tryz.func127.trans (congrArg some (by kernel_rfl))
  f320 := Tryz.func128.trans (congrArg some (by kernel_rfl))
  f321 := Tryz.func132.trans (congrArg some (by kernel_rfl))
  f322 := Tryz.func133.trans (congrArg some (by kernel_rfl))
  f337 := Tryz.func135.trans (congrArg some (by kernel_rfl))
  f338 := Tryz.func136.trans (congrArg some (by kernel_rfl))
  t0 := Tryz.underlying0
  a0 := Tryz.isAgg0
  z0 := Tryz.sizeOf0
  v0 := Tryz.zeroValue0
  t2 := Tryz.underlying2
  a2 := Tryz.isAgg2
  z2 := Tryz.sizeOf2
  v2 := Tryz.zeroValue2
  t3 := Tryz.underlying3
  a3 := Tryz.isAgg3
  z3 := Tryz.sizeOf3
  v3 := Tryz.zeroValue3
  t4 := Tryz.underlying4
  a4 := Tryz.isAgg4
  z4 := Tryz.sizeOf4
  v4 := Tryz.zeroValue4
  t5 := Tryz.underlying5
  a5 := Tryz.isAgg5
  z5 := Tryz.sizeOf5
  v5 := Tryz.zeroValue5
  t9 := Tryz.underlying9
  a9 := Tryz.isAgg9
  z9 := Tryz.sizeOf9
  v9 := Tryz.zeroValue9
  t20 := Tryz.underlying20
  a20 := Tryz.isAgg20
  z20 := Tryz.sizeOf20
  v20 := Tryz.zeroValue20
  t21 := Tryz.underlying21
  a21 := Tryz.isAgg21
  z21 := Tryz.sizeOf21
  v21 := Tryz.zeroValue21
  t37 := Tryz.underlying68
  a37 := Tryz.isAgg68
  z37 := Tryz.sizeOf68
  v37 := Tryz.zeroValue68
  t46 := Tryz.underlying90
  a46 := Tryz.isAgg90
  z46 := Tryz.sizeOf90
  v46 := Tryz.zeroValue90
  t51 := Tryz.underlying132
  a51 := Tryz.isAgg132
  z51 := Tryz.sizeOf132
  v51 := Tryz.zeroValue132
  t53 := Tryz.underlying96
  a53 := Tryz.isAgg96
  z53 := Tryz.sizeOf96
  v53 := Tryz.zeroValue96
  t75 := Tryz.underlying82
  a75 := Tryz.isAgg82
  z75 := Tryz.sizeOf82
  v75 := Tryz.zeroValue82
  t76 := Tryz.underlying83
  a76 := Tryz.isAgg83
  z76 := Tryz.sizeOf83
  v76 := Tryz.zeroValue83
  t85 := Tryz.underlying117
  a85 := Tryz.isAgg117
  z85 := Tryz.sizeOf117
  v85 := Tryz.zeroValue117
  t127 := Tryz.underlying162
  a127 := Tryz.isAgg162
  z127 := Tryz.sizeOf162
  v127 := Tryz.zeroValue162
  t143 := Tryz.underlying163
  a143 := Tryz.isAgg163
  z143 := Tryz.sizeOf163
  v143 := Tryz.zeroValue163
  t145 := Tryz.underlying165
  a145 := Tryz.isAgg165
  z145 := Tryz.sizeOf165
  v145 := Tryz.zeroValue165
  t167 := Tryz.underlying116
  a167 := Tryz.isAgg116
  z167 := Tryz.sizeOf116
  v167 := Tryz.zeroValue116
  t168 := Tryz.underlying119
  a168 := Tryz.isAgg119
  z168 := Tryz.sizeOf119
  v168 := Tryz.zeroValue119
  t171 := Tryz.underlying134
  a171 := Tryz.isAgg134
  z171 := Tryz.sizeOf134
  v171 := Tryz.zeroValue134
  t173 := Tryz.underlying136
  a173 := Tryz.isAgg136
  z173 := Tryz.sizeOf136
  v173 := Tryz.zeroValue136
  t175 := Tryz.underlying141
  a175 := Tryz.isAgg141
  z175 := Tryz.sizeOf141
  v175 := Tryz.zeroValue141
  t210 := Tryz.underlying147
  a210 := Tryz.isAgg147
  z210 := Tryz.sizeOf147
  v210 := Tryz.zeroValue147
  t212 := Tryz.underlying156
  a212 := Tryz.isAgg156
  z212 := Tryz.sizeOf156
  v212 := Tryz.zeroValue156
  t213 := Tryz.underlying157
  a213 := Tryz.isAgg157
  z213 := Tryz.sizeOf157
  t232 := Tryz.underlying170
  a232 := Tryz.isAgg170
  z232 := Tryz.sizeOf170
  v232 := Tryz.zeroValue170
  t233 := Tryz.underlying171
  a233 := Tryz.isAgg171
  z233 := Tryz.sizeOf171
  v233 := Tryz.zeroValue171
  g15 := by kernel_rfl
  g16 := by kernel_rfl
  g17 := by kernel_rfl
  g18 := by kernel_rfl
  g19 := by kernel_rfl
  t80 := Tryz.underlying176
  a80 := Tryz.isAgg176
  z80 := Tryz.sizeOf176
  v80 := Tryz.zeroValue176
  i0 := by kernel_rfl
  i2 := by kernel_rfl
  i3 := by kernel_rfl
  i4 := by kernel_rfl
  i5 := by kernel_rfl
  i9 := by kernel_rfl
  i20 := by kernel_rfl
  i21 := by kernel_rfl
  i37 := by kernel_rfl
  i46 := by kernel_rfl
  i51 := by kernel_rfl
  i53 := by kernel_rfl
  i75 := by kernel_rfl
  i76 := by kernel_rfl
  i80 := by kernel_rfl
  i85 := by kernel_rfl
  i127 := by kernel_rfl
  i143 := by kernel_rfl
  i145 := by kernel_rfl
  i167 := by kernel_rfl
  i168 := by kernel_rfl
  i171 := by kernel_rfl
  i173 := by kernel_rfl
  i175 := by kernel_rfl
  i210 := by kernel_rfl
  i212 := by kernel_rfl
  i232 := by kernel_rfl
  i233 := by kernel_rfl
  m15 := by kernel_rfl
  m16 := by kernel_rfl
  m17 := by kernel_rfl
  m18 := by kernel_rfl
  m19 := by kernel_rfl
  c0 := by kernel_rfl
  c2 := by kernel_rfl
  c3 := by kernel_rfl
  c4 := by kernel_rfl
  c5 := by kernel_rfl
  c9 := by kernel_rfl
  c20 := by kernel_rfl
  c21 := by kernel_rfl
  c37 := by kernel_rfl
  c46 := by kernel_rfl
  c51 := by kernel_rfl
  c53 := by kernel_rfl
  c75 := by kernel_rfl
  c76 := by kernel_rfl
  c80 := by kernel_rfl
  c85 := by kernel_rfl
  c127 := by kernel_rfl
  c143 := by kernel_rfl
  c145 := by kernel_rfl
  c167 := by kernel_rfl
  c168 := by kernel_rfl
  c171 := by kernel_rfl
  c173 := by kernel_rfl
  c175 := by kernel_rfl
  c210 := by kernel_rfl
  c212 := by kernel_rfl
  c213 := by kernel_rfl
  c232 := by kernel_rfl
  c233 := by kernel_rfl }
open Go.RowKit in
theorem Tryz.strconv_Atoi_ok (s : ByteArray) (hmax : s.size ≤ 9223372036854775806) (v : Int) (h : Lib.atoiAll s.data.toList = .ok v) (w : World) :
    Calls Tryz.prog 57 #[.string s] w fun e w' => e = .returned (.tuple #[.int .i64 v, .nilIface]) ∧ (w' = w ∨ ∃ t, w' = Lib.bytesWorld w 5 t) := Any.strconv_Atoi_ok Tryz.laysC172 s hmax v h w
open Go.RowKit in
theorem Tryz.strconv_Atoi_syntax (s : ByteArray) (hlim : s.size ≤ 281474976710656) (h : Lib.atoiAll s.data.toList = .syntax) (ev : Value) (w : World) (hv : w.cell? ⟨1, 0, none⟩ = some ev) (hev : ev = .nilIface ∨ ∃ te pe, ev = .iface te pe) :
    Calls Tryz.prog 57 #[.string s] w fun e w' => ∃ N, e = .returned (.tuple #[.int .i64 (0), .iface 119 (.pointer (some ⟨N, 0, none⟩))]) ∧ w.heap.size ≤ N ∧ w'.heap[N]? = some (.cells #[.string ⟨#[65, 116, 111, 105]⟩, .string s, ev] 147 (0, 0)) ∧ Below w.heap.size w w' := Any.strconv_Atoi_syntax Tryz.laysC172 s hlim h ev w hv hev
open Go.RowKit in
theorem Tryz.strconv_Atoi_range (s : ByteArray) (hlim : s.size ≤ 281474976710656) (h : Lib.atoiAll s.data.toList = .range) (ev : Value) (w : World) (hv : w.cell? ⟨2, 0, none⟩ = some ev) (hev : ev = .nilIface ∨ ∃ te pe, ev = .iface te pe) :
    Calls Tryz.prog 57 #[.string s] w fun e w' => ∃ N, e = .returned (.tuple #[.int .i64 (Lib.atoiSat s.data.toList), .iface 119 (.pointer (some ⟨N, 0, none⟩))]) ∧ w.heap.size ≤ N ∧ w'.heap[N]? = some (.cells #[.string ⟨#[65, 116, 111, 105]⟩, .string s, ev] 147 (0, 0)) ∧ Below w.heap.size w w' := Any.strconv_Atoi_range Tryz.laysC172 s hlim h ev w hv hev
open Go.RowKit in
theorem Tryz.internal_strconv_ParseUint_empty (base bits : Int) (w : World) :
    Calls Tryz.prog 117 #[.string ⟨#[]⟩, .int .i64 base, .int .i64 bits] w fun e w' => e = .returned (.tuple #[.int .u64 0, .iface 116 (.int .i64 2)]) ∧ w' = w := Any.internal_strconv_ParseUint_empty Tryz.lays287 base bits w
def Tryz.lays219_ren : Go.Shelf.Ren := ⟨fun | 219 => 89 | 217 => 113 | 225 => 114 | 224 => 115 | 267 => 116 | 266 => 130 | 314 => 131 | n => n, fun | 9 => 9 | 3 => 3 | 4 => 4 | 5 => 5 | 46 => 90 | 146 => 159 | 51 => 132 | n => n, fun | 1 => 0 | n => n⟩
theorem Tryz.lays219 : Go.Proofs.Lays.n219 Tryz.prog Tryz.lays219_ren := {
  mixed := by kernel_rfl
  f217 := Tryz.func113.trans (congrArg some (by kernel_rfl))
  f219 := Tryz.func89.trans (congrArg some (by kernel_rfl))
  f224 := Tryz.func115.trans (congrArg some (by kernel_rfl))
  f225 := Tryz.func114.trans (congrArg some (by kernel_rfl))
  f266 := Tryz.func130.trans (congrArg some (by kernel_rfl))
  f267 := Tryz.func116.trans (congrArg some (by kernel_rfl))
  f314 := Tryz.func131.trans (congrArg some (by kernel_rfl))
  t3 := Tryz.underlying3
  a3 := Tryz.isAgg3
  z3 := Tryz.sizeOf3
  v3 := Tryz.zeroValue3
  t4 := Tryz.underlying4
  a4 := Tryz.isAgg4
  z4 := Tryz.sizeOf4
  v4 := Tryz.zeroValue4
  t5 := Tryz.underlying5
  a5 := Tryz.isAgg5
  z5 := Tryz.sizeOf5
  v5 := Tryz.zeroValue5
  t9 := Tryz.underlying9
  a9 := Tryz.isAgg9
  z9 := Tryz.sizeOf9
  v9 := Tryz.zeroValue9
  t46 := Tryz.underlying90
  a46 := Tryz.isAgg90
  z46 := Tryz.sizeOf90
  v46 := Tryz.zeroValue90
  t51 := Tryz.underlying132
  a51 := Tryz.isAgg132
  z51 := Tryz.sizeOf132
  v51 := Tryz.zeroValue132
  t146 := Tryz.underlying159
  a146 := Tryz.isAgg159
  z146 := Tryz.sizeOf159
  v146 := Tryz.zeroValue159
  g1 := by kernel_rfl }
open Go.RowKit Go.Lib in
theorem Tryz.stringslite_Index_one (s : ByteArray) (c : UInt8) (w : World) :
    Calls Tryz.prog 89 #[.string s, .string ⟨#[c]⟩] w fun e w' => e = .returned (.int .i64 (Lib.indexByte s.data.toList c)) ∧ w' = w := Any.stringslite_Index_one Tryz.lays219 s c w
def Tryz.lays143_ren : Go.Shelf.Ren := ⟨fun | 143 => 86 | 219 => 89 | 217 => 113 | 225 => 114 | 224 => 115 | 267 => 116 | 266 => 130 | 314 => 131 | n => n, fun | 9 => 9 | 3 => 3 | 4 => 4 | 5 => 5 | 46 => 90 | 146 => 159 | 51 => 132 | n => n, fun | 1 => 0 | n => n⟩
theorem Tryz.lays143 : Go.Proofs.Lays.n143 Tryz.prog Tryz.lays143_ren := {
  mixed := by kernel_rfl
  f143 := Tryz.func86.trans (congrArg some (by kernel_rfl))
  f217 := Tryz.func113.trans (congrArg some (by kernel_rfl))
  f219 := Tryz.func89.trans (congrArg some (by kernel_rfl))
  f224 := Tryz.func115.trans (congrArg some (by kernel_rfl))
  f225 := Tryz.func114.trans (congrArg some (by kernel_rfl))
  f266 := Tryz.func130.trans (congrArg some (by kernel_rfl))
  f267 := Tryz.func116.trans (congrArg some (by kernel_rfl))
  f314 := Tryz.func131.trans (congrArg some (by kernel_rfl))
  t3 := Tryz.underlying3
  a3 := Tryz.isAgg3
  z3 := Tryz.sizeOf3
  v3 := Tryz.zeroValue3
  t4 := Tryz.underlying4
  a4 := Tryz.isAgg4
  z4 := Tryz.sizeOf4
  v4 := Tryz.zeroValue4
  t5 := Tryz.underlying5
  a5 := Tryz.isAgg5
  z5 := Tryz.sizeOf5
  v5 := Tryz.zeroValue5
  t9 := Tryz.underlying9
  a9 := Tryz.isAgg9
  z9 := Tryz.sizeOf9
  v9 := Tryz.zeroValue9
  t46 := Tryz.underlying90
  a46 := Tryz.isAgg90
  z46 := Tryz.sizeOf90
  v46 := Tryz.zeroValue90
  t51 := Tryz.underlying132
  a51 := Tryz.isAgg132
  z51 := Tryz.sizeOf132
  v51 := Tryz.zeroValue132
  t146 := Tryz.underlying159
  a146 := Tryz.isAgg159
  z146 := Tryz.sizeOf159
  v146 := Tryz.zeroValue159
  g1 := by kernel_rfl }
open Go.RowKit Go.Lib in
theorem Tryz.strings_Index_one (s : ByteArray) (c : UInt8) (w : World) :
    Calls Tryz.prog 86 #[.string s, .string ⟨#[c]⟩] w fun e w' => e = .returned (.int .i64 (Lib.indexByte s.data.toList c)) ∧ w' = w := Any.strings_Index_one Tryz.lays143 s c w
def Tryz.lays144_ren : Go.Shelf.Ren := ⟨fun | 144 => 71 | 143 => 86 | 219 => 89 | 217 => 113 | 225 => 114 | 224 => 115 | 267 => 116 | 266 => 130 | 314 => 131 | n => n, fun | 9 => 9 | 4 => 4 | 3 => 3 | 5 => 5 | 46 => 90 | 146 => 159 | 51 => 132 | n => n, fun | 1 => 0 | n => n⟩
theorem Tryz.lays144 : Go.Proofs.Lays.n144 Tryz.prog Tryz.lays144_ren := {
  mixed := by kernel_rfl
  f143 := Tryz.func86.trans (congrArg some (by kernel_rfl))
  f144 := Tryz.func71.trans (congrArg some (by kernel_rfl))
  f217 := Tryz.func113.trans (congrArg some (by kernel_rfl))
  f219 := Tryz.func89.trans (congrArg some (by kernel_rfl))
  f224 := Tryz.func115.trans (congrArg some (by kernel_rfl))
  f225 := Tryz.func114.trans (congrArg some (by kernel_rfl))
  f266 := Tryz.func130.trans (congrArg some (by kernel_rfl))
  f267 := Tryz.func116.trans (congrArg some (by kernel_rfl))
  f314 := Tryz.func131.trans (congrArg some (by kernel_rfl))
  t3 := Tryz.underlying3
  a3 := Tryz.isAgg3
  z3 := Tryz.sizeOf3
  v3 := Tryz.zeroValue3
  t4 := Tryz.underlying4
  a4 := Tryz.isAgg4
  z4 := Tryz.sizeOf4
  v4 := Tryz.zeroValue4
  t5 := Tryz.underlying5
  a5 := Tryz.isAgg5
  z5 := Tryz.sizeOf5
  v5 := Tryz.zeroValue5
  t9 := Tryz.underlying9
  a9 := Tryz.isAgg9
  z9 := Tryz.sizeOf9
  v9 := Tryz.zeroValue9
  t46 := Tryz.underlying90
  a46 := Tryz.isAgg90
  z46 := Tryz.sizeOf90
  v46 := Tryz.zeroValue90
  t51 := Tryz.underlying132
  a51 := Tryz.isAgg132
  z51 := Tryz.sizeOf132
  v51 := Tryz.zeroValue132
  t146 := Tryz.underlying159
  a146 := Tryz.isAgg159
  z146 := Tryz.sizeOf159
  v146 := Tryz.zeroValue159
  g1 := by kernel_rfl }
open Go.RowKit Go.Lib in
theorem Tryz.strings_Contains_one (s : ByteArray) (c : UInt8) (w : World) :
    Calls Tryz.prog 71 #[.string s, .string ⟨#[c]⟩] w fun e w' => e = .returned (.bool (decide (0 ≤ Lib.indexByte s.data.toList c))) ∧ w' = w := Any.strings_Contains_one Tryz.lays144 s c w
def Tryz.lays145_ren : Go.Shelf.Ren := ⟨fun | 145 => 56 | 220 => 74 | 219 => 89 | 217 => 113 | 225 => 114 | 224 => 115 | 267 => 116 | 266 => 130 | 314 => 131 | n => n, fun | 9 => 9 | 4 => 4 | 59 => 79 | 3 => 3 | 5 => 5 | 46 => 90 | 146 => 159 | 51 => 132 | n => n, fun | 1 => 0 | n => n⟩
theorem Tryz.lays145 : Go.Proofs.Lays.n145 Tryz.prog Tryz.lays145_ren := {
  mixed := by kernel_rfl
  f145 := Tryz.func56.trans (congrArg some (by kernel_rfl))
  f217 := Tryz.func113.trans (congrArg some (by kernel_rfl))
  f219 := Tryz.func89.trans (congrArg some (by kernel_rfl))
  f220 := Tryz.func74.trans (congrArg some (by kernel_rfl))
  f224 := Tryz.func115.trans (congrArg some (by kernel_rfl))
  f225 := Tryz.func114.trans (congrArg some (by kernel_rfl))
  f266 := Tryz.func130.trans (congrArg some (by kernel_rfl))
  f267 := Tryz.func116.trans (congrArg some (by kernel_rfl))
  f314 := Tryz.func131.trans (congrArg some (by kernel_rfl))
  t3 := Tryz.underlying3
  a3 := Tryz.isAgg3
  z3 := Tryz.sizeOf3
  v3 := Tryz.zeroValue3
  t4 := Tryz.underlying4
  a4 := Tryz.isAgg4
  z4 := Tryz.sizeOf4
  v4 := Tryz.zeroValue4
  t5 := Tryz.underlying5
  a5 := Tryz.isAgg5
  z5 := Tryz.sizeOf5
  v5 := Tryz.zeroValue5
  t9 := Tryz.underlying9
  a9 := Tryz.isAgg9
  z9 := Tryz.sizeOf9
  v9 := Tryz.zeroValue9
  t46 := Tryz.underlying90
  a46 := Tryz.isAgg90
  z46 := Tryz.sizeOf90
  v46 := Tryz.zeroValue90
  t51 := Tryz.underlying132
  a51 := Tryz.isAgg132
  z51 := Tryz.sizeOf132
  v51 := Tryz.zeroValue132
  t59 := Tryz.underlying79
  a59 := Tryz.isAgg79
  z59 := Tryz.sizeOf79
  v59 := Tryz.zeroValue79
  t146 := Tryz.underlying159
  a146 := Tryz.isAgg159
  z146 := Tryz.sizeOf159
  v146 := Tryz.zeroValue159
  g1 := by kernel_rfl }
open Go.RowKit Go.Lib in
theorem Tryz.strings_Cut (s sep : ByteArray) (m : Int) (w : World) (hs : s.size < 4294967281) (hm : w.cell? ⟨0, 0, none⟩ = some (.int .i64 m)) :
    Calls Tryz.prog 56 #[.string s, .string sep] w fun e w' => e = .returned (.tuple #[.string ⟨(Lib.cut s.data.toList sep.data.toList).1.toArray⟩, .string ⟨(Lib.cut s.data.toList sep.data.toList).2.1.toArray⟩, .bool (Lib.cut s.data.toList sep.data.toList).2.2]) ∧ ∃ n, w' = w.drewN n := Any.strings_Cut Tryz.lays145 s sep m w hs hm
def Tryz.laysM288_ren : Go.Shelf.Ren := ⟨fun | 288 => 106 | 283 => 107 | 284 => 108 | 285 => 109 | 286 => 110 | 129 => 105 | 317 => 125 | 318 => 126 | 319 => 127 | 320 => 128 | 337 => 135 | 338 => 136 | n => n, fun | 37 => 68 | 53 => 96 | 3 => 3 | 4 => 4 | 9 => 9 | 171 => 134 | 0 => 0 | 173 => 136 | 212 => 156 | 51 => 132 | 5 => 5 | 20 => 20 | 213 => 157 | 46 => 90 | 232 => 170 | 233 => 171 | n => n, fun | 17 => 3 | 18 => 4 | 19 => 5 | n => n⟩
theorem Tryz.laysM288 : Go.Proofs.LaysM.n288 Tryz.prog Tryz.laysM288_ren := {
  mixed := by kernel_rfl
  f129 := Tryz.func105.trans (congrArg some (by kernel_rfl))
  f283 := Tryz.func107.trans (congrArg some (by kernel_rfl))
  f284 := Tryz.func108.trans (congrArg some (by kernel_rfl))
  f285 := Tryz.func109.trans (congrArg some (by kernel_rfl))
  f286 := Tryz.func110.trans (congrArg some (by kernel_rfl))
  f288 := Tryz.func106.trans (congrArg some (by kernel_rfl))
  f317 := Tryz.func125.trans (congrArg some (by kernel_rfl))
  f318 := Tryz.func126.trans (congrArg some (by kernel_rfl))
  f319 := Tryz.func127.trans (congrArg some (by kernel_rfl))
  f320 := Tryz.func128.trans (congrArg some (by kernel_rfl))
  f337 := Tryz.func135.trans (congrArg some (by kernel_rfl))
  f338 := Tryz.func136.trans (congrArg some (by kernel_rfl))
  t0 := Tryz.underlying0
  a0 := Tryz.isAgg0
  z0 := Tryz.sizeOf0
  v0 := Tryz.zeroValue0
  t3 := Tryz.underlying3
  a3 := Tryz.isAgg3
  z3 := Tryz.sizeOf3
  v3 := Tryz.zeroValue3
  t4 := Tryz.underlying4
  a4 := Tryz.isAgg4
  z4 := Tryz.sizeOf4
  v4 := Tryz.zeroValue4
  t5 := Tryz.underlying5
  a5 := Tryz.isAgg5
  z5 := Tryz.sizeOf5
  v5 := Tryz.zeroValue5
  t9 := Tryz.underlying9
  a9 := Tryz.isAgg9
  z9 := Tryz.sizeOf9
  v9 := Tryz.zeroValue9
  t20 := Tryz.underlying20
  a20 := Tryz.isAgg20
  z20 := Tryz.sizeOf20
  v20 := Tryz.zeroValue20
  t37 := Tryz.underlying68
  a37 := Tryz.isAgg68
  z37 := Tryz.sizeOf68
  v37 := Tryz.zeroValue68
  t46 := Tryz.underlying90
  a46 := Tryz.isAgg90
  z46 := Tryz.sizeOf90
  v46 := Tryz.zeroValue90
  t51 := Tryz.underlying132
  a51 := Tryz.isAgg132
  z51 := Tryz.sizeOf132
  v51 := Tryz.zeroValue132
  t53 := Tryz.underlying96
  a53 := Tryz.isAgg96
  z53 := Tryz.sizeOf96
  v53 := Tryz.zeroValue96
  t171 := Tryz.underlying134
  a171 := Tryz.isAgg134
  z171 := Tryz.sizeOf134
  v171 := Tryz.zeroValue134
  t173 := Tryz.underlying136
  a173 := Tryz.isAgg136
  z173 := Tryz.sizeOf136
  v173 := Tryz.zeroValue136
  t212 := Tryz.underlying156
  a212 := Tryz.isAgg156
  z212 := Tryz.sizeOf156
  v212 := Tryz.zeroValue156
  t213 := Tryz.underlying157
  a213 := Tryz.isAgg157
  z213 := Tryz.sizeOf157
  t232 := Tryz.underlying170
  a232 := Tryz.isAgg170
  z232 := Tryz.sizeOf170
  v232 := Tryz.zeroValue170
  t233 := Tryz.underlying171
  a233 := Tryz.isAgg171
  z233 := Tryz.sizeOf171
  v233 := Tryz.zeroValue171
  g17 := by kernel_rfl
  g18 := by kernel_rfl
  g19 := by kernel_rfl
  i0 := by kernel_rfl
  i3 := by kernel_rfl
  i4 := by kernel_rfl
  i5 := by kernel_rfl
  i9 := by kernel_rfl
  i20 := by kernel_rfl
  i37 := by kernel_rfl
  i46 := by kernel_rfl
  i51 := by kernel_rfl
  i53 := by kernel_rfl
  i171 := by kernel_rfl
  i173 := by kernel_rfl
  i212 := by kernel_rfl
  i232 := by kernel_rfl
  i233 := by kernel_rfl
  m17 := by kernel_rfl
  m18 := by kernel_rfl
  m19 := by kernel_rfl }
open Go.RowKit Go.Sort Go.Lib in
theorem Tryz.internal_strconv_AppendUint_10 (B n u : Nat) (hu64 : u < 18446744073709551616) (sv : Value) (xs : List Value) (w : World) (hown : w.ownsRow B 5 1 sv n xs) (hBw : B ≤ w.heap.size) (hlim : n + 20 ≤ 140737488355328) (htab : Lib.TabIs Tryz.prog w "internal/strconv.uint64pow10" .u64 Lib.pow10Tab) :
    Calls Tryz.prog 106 #[sv, .int .u64 u, .int .i64 10] w fun e w' => ∃ v', e = .returned v' ∧ w'.ownsRow B 5 1 v' (n + (Lib.decDigits u).length) (xs ++ Lib.byteCells (Lib.decDigits u)) ∧ Below B w w' ∧ Lib.OthersKept 5 none w w' := Any.internal_strconv_AppendUint_10 Tryz.laysM288 B n u hu64 sv xs w hown hBw hlim htab
end Go.Proofs
end
section
set_option linter.unusedVariables false
set_option linter.unusedSimpArgs false
namespace Go.Proofs.YtgcdhfpbmcfedaaGreatDoor.pf
open Go.RowKit Go.Proofs.YtgcdhfpbmcfedaaGreatDoor.oc Go.Proofs.YtgcdhfpbmcfedaaGreatDoor.mz Go.Proofs.YtgcdhfpbmcfedaaGreatDoor.wh Go.Proofs.YtgcdhfpbmcfedaaGreatDoor.qk
/-- what a call finds of the library's variables -/
structure Env (w : World) : Prop where
  mx : ∃ m, w.cell? ⟨0, 0, none⟩ = some (.int .i64 m)
  sy : ∃ ev, w.cell? ⟨1, 0, none⟩ = some ev ∧ (ev = .nilIface ∨ ∃ te pe, ev = .iface te pe)
  rg : ∃ ev, w.cell? ⟨2, 0, none⟩ = some ev ∧ (ev = .nilIface ∨ ∃ te pe, ev = .iface te pe)
  p10 : Lib.TabIs Tryz.prog w "internal/strconv.uint64pow10" .u64 Lib.pow10Tab
  db : w.cell? ⟨5, 15, none⟩ = some (.int .u8 4)
theorem cell_lt {w : World} {a : Addr} {v : Value} (h : w.cell? a = some v) : a.block < w.heap.size := by
  rcases Nat.lt_or_ge a.block w.heap.size with q | q
  · exact q
  · simp [World.cell?, Array.getElem?_eq_none q] at h
theorem Env.below {w w' : World} (h : Env w) (hb : Below w.heap.size w w') : Env w' := by
  have c : ∀ {a : Addr} {v : Value}, w.cell? a = some v → w'.cell? a = some v := fun {a v} e => (hb.cell (cell_lt e)).trans e
  obtain ⟨m, hm⟩ := h.mx
  obtain ⟨e1, h1, k1⟩ := h.sy
  obtain ⟨e2, h2, k2⟩ := h.rg
  exact ⟨⟨m, c hm⟩, ⟨e1, c h1, k1⟩, ⟨e2, c h2, k2⟩, TabIs_below (g := 3) (by kernel_rfl) h.p10 hb, c h.db⟩
theorem Env.old {w w' : World} (h : Env w) (k : Old w w') : Env w' := h.below (Keeps.below k)
theorem Env.keeps {w w' : World} (h : Env w) (k : ∀ S, Keeps S w w') : Env w' := h.below (Keeps.below (k _))
theorem Env.at_ {B : Nat} {w w' : World} (h : Env w) (hB : w.heap.size ≤ B) (hb : Below B w w') : Env w' := h.below (hb.mono hB)
theorem of_below {w w' : World} (h : Below w.heap.size w w') : ∀ S, Keeps S w w' := fun S => ⟨h.size, fun b hb _ => h.block b hb, h.os, h.tape, h.output⟩
/-- a number's digits: to the base 16, or 10 -/
def dig (b u : Nat) : List Nat := if b = 16 then hx u else dec u
theorem dig_len (b u : Nat) : (dig b u).length ≤ 4 := by
  unfold dig
  split
  · exact dg_len 16 4 u
  · exact Nat.le_trans (dg_len 10 3 u) (by omega)
theorem dec_lib (u : Nat) (h : u < 256) : Lib.decDigits u = (dec u).map (fun x => UInt8.ofNat x) := by
  rcases dec_form u h with ⟨a1, e⟩ | ⟨a1, a2, e⟩ | ⟨a1, e⟩ <;> rw [e]
  · rw [Lib.decDigits]; simp [a1]
  · rw [Lib.decDigits, dif_neg (by omega), Lib.decDigits, dif_pos (by omega)]; rfl
  · rw [Lib.decDigits, dif_neg (by omega), Lib.decDigits, dif_neg (by omega), Lib.decDigits, dif_pos (by omega), Nat.div_div_eq_div_mul]; rfl
theorem byteCells_b8 (l : List Nat) (h : ∀ x ∈ l, x < 256) : Lib.byteCells (l.map (fun x => UInt8.ofNat x)) = b8s l := by
  unfold Lib.byteCells b8s
  rw [List.map_map]
  refine List.map_congr_left fun x hx => ?_
  simp [Nat.mod_eq_of_lt (h x hx)]
theorem dec_small (u : Nat) (h : u < 256) : ∀ x ∈ dec u, x < 256 := fun x hx => by
  rcases dec_form u h with ⟨_, e⟩ | ⟨_, _, e⟩ | ⟨_, e⟩ <;> rw [e] at hx <;> simp at hx <;> omega
theorem hx_small (u : Nat) (h : u < 65536) : ∀ x ∈ hx u, x < 256 := fun x hx => by
  have sg : ∀ d, d < 16 → sign d < 256 := fun d hd => by unfold sign; split <;> omega
  rcases hx_form u h with ⟨_, e⟩ | ⟨_, _, e⟩ | ⟨_, _, e⟩ | ⟨_, e⟩ <;> rw [e] at hx <;> simp at hx
  · subst hx; exact sg _ (by omega)
  · rcases hx with rfl | rfl <;> exact sg _ (by omega)
  · rcases hx with rfl | rfl | rfl <;> exact sg _ (by omega)
  · rcases hx with rfl | rfl | rfl | rfl <;> exact sg _ (by omega)
theorem conv_own {w : World} {B n : Nat} {v : Value} {l : List Nat} (h : w.ownsRow B 5 1 v n (b8s l)) (hl : ∀ x ∈ l, x < 256) : (convert 68 9 v).run Tryz.prog w = .ok (.string (str l)) w := by
  have hn : l.length = n := by have := h.1; rw [b8_len, Nat.mul_one] at this; exact this
  rcases h.2 with ⟨rfl, h0⟩ | ⟨g, cap, cur, rfl, _⟩
  · have : l = [] := List.eq_nil_of_length_eq_zero (by omega)
    subst this
    exact run_convert_bytes_nil w 68 5 Tryz.underlying68 Tryz.underlying5 0 0 _ Tryz.underlying9
  · have hc := h.cells (g := g) rfl
    have hr := run_convert_bytes_back (P := Tryz.prog) w 68 9 5 ⟨g, 0, none⟩ cap (l.map (fun x => UInt8.ofNat x)) Tryz.underlying68 Tryz.underlying5 Tryz.underlying9 (fun j hj => by
      have hj' : j < l.length := by simpa using hj
      refine hc j _ ?_
      rw [b8s, List.getElem?_map, List.getElem?_eq_getElem hj']
      simp [Nat.mod_eq_of_lt (hl _ (List.getElem_mem hj'))])
    rw [List.length_map, hn] at hr
    exact hr
section
variable (w : World)
set_option maxRecDepth 100000 in
set_option maxHeartbeats 1000000 in
theorem append16_ (B n u : Nat) (hu : u < 65536) (sv : Value) (l : List Nat) (henv : Env w) (hown : w.ownsRow B 5 1 sv n (b8s l)) (hBw : B ≤ w.heap.size) (hlim : n + 20 ≤ 140737488355328) :
    Calls Tryz.prog 106 #[sv, .int .u64 (u : Int), .int .i64 16] w fun e w' => ∃ v', e = .returned v' ∧ w'.ownsRow B 5 1 v' (n + (hx u).length) (b8s (l ++ hx u)) ∧ Below B w w' := by
  have H := Lib.hid (fbits_ w B n u hu sv (b8s l) henv.db hown hBw hlim)
  have HL := Lib.hid (show b8s (l ++ hx u) = b8s l ++ b8s (hx u) from by simp [b8s])
  have hu0 : (0 : Int) ≤ (u : Int) := by omega
  clear hown henv
  go_enter Tryz.func106, Tryz.ntmps106
  go_wp2_with fail
  refine H.out.mono ?_
  rintro e w1 ⟨v', rfl, h1, h2⟩
  have K := Lib.hid (And.intro h1 h2)
  clear h1 h2
  go_wp2
  go_ret
  exact ⟨v', rfl, by rw [HL.out]; exact K.out.1, K.out.2⟩
set_option maxRecDepth 100000 in
set_option maxHeartbeats 1000000 in
theorem appendu_ (b B n u : Nat) (hb : b = 16 ∧ u < 65536 ∨ b = 10 ∧ u < 256) (sv : Value) (l : List Nat) (henv : Env w) (hown : w.ownsRow B 5 1 sv n (b8s l)) (hBw : B ≤ w.heap.size) (hlim : n + 20 ≤ 140737488355328) :
    Calls Tryz.prog 84 #[sv, .int .u64 (u : Int), .int .i64 (b : Int)] w fun e w' => ∃ v', e = .returned v' ∧ w'.ownsRow B 5 1 v' (n + (dig b u).length) (b8s (l ++ dig b u)) ∧ Below B w w' := by
  have H : Hid (Calls Tryz.prog 106 #[sv, .int .u64 (u : Int), .int .i64 (b : Int)] w fun e w' => ∃ v', e = .returned v' ∧ w'.ownsRow B 5 1 v' (n + (dig b u).length) (b8s (l ++ dig b u)) ∧ Below B w w') := Lib.hid (by
    rcases hb with ⟨rfl, hu⟩ | ⟨rfl, hu⟩
    · exact append16_ w B n u hu sv l henv hown hBw hlim
    · refine (Tryz.internal_strconv_AppendUint_10 B n u (by omega) sv (b8s l) w hown hBw hlim henv.p10).mono ?_
      rintro e w' ⟨v', h1, h2, h3, _⟩
      rw [dec_lib u hu, List.length_map, byteCells_b8 _ (dec_small u hu)] at h2
      exact ⟨v', h1, by rw [show b8s (l ++ dig 10 u) = b8s l ++ b8s (dec u) from by simp [b8s, dig]]; exact h2, h3⟩)
  clear hown henv hb
  go_enter Tryz.func84, Tryz.ntmps84
  go_wp2_with fail
  refine H.out.mono ?_
  rintro e w1 ⟨v', rfl, h1, h2⟩
  have K := Lib.hid (And.intro h1 h2)
  clear h1 h2
  go_wp2
  go_ret
  exact ⟨v', rfl, K.out.1, K.out.2⟩
theorem itoa_ (k : Nat) (hk : k < 256) (henv : Env w) : Calls Tryz.prog 54 #[.int .i64 (k : Int)] w fun e w' => e = .returned (.string (str (dec k))) ∧ ∀ S, Keeps S w w' := by
  refine (Tryz.strconv_Itoa (k : Int) (by omega) (by omega) w henv.p10).mono ?_
  rintro e w' ⟨rfl, q, os, rfl⟩
  exact ⟨by rw [Lib.itoa, if_neg (by omega), Int.toNat_natCast, dec_lib k hk]; rfl, of_below (Lib.below_grow _ w (Nat.le_refl _) q os)⟩
end
end Go.Proofs.YtgcdhfpbmcfedaaGreatDoor.pf
end
section
set_option linter.unusedVariables false
set_option linter.unusedSimpArgs false
namespace Go.Proofs.YtgcdhfpbmcfedaaGreatDoor.pf
open Go.RowKit Go.Proofs.YtgcdhfpbmcfedaaGreatDoor.oc Go.Proofs.YtgcdhfpbmcfedaaGreatDoor.mz Go.Proofs.YtgcdhfpbmcfedaaGreatDoor.wh Go.Proofs.YtgcdhfpbmcfedaaGreatDoor.qk
/-- a sign's value to a base -/
def hv (b c : Nat) : Option Nat := if 48 ≤ c ∧ c ≤ 57 then some (c - 48) else if 97 ≤ c ||| 32 ∧ c ||| 32 ≤ 122 ∧ (c ||| 32) - 87 < b then some ((c ||| 32) - 87) else none
/-- a text as a number to a base, at most mx -/
def pu (b mx : Nat) : Nat → List Nat → Option Nat
  | acc, [] => some acc
  | acc, c :: r => match hv b c with
    | none => none
    | some d => if mx < acc * b + d then none else pu b mx (acc * b + d) r
def PuAns (r : Option Nat) (e : Ending) : Prop := match r with
  | some v => e = .returned (.tuple #[.int .u64 (v : Int), .nilIface])
  | none => ∃ x k : Int, (k = 1 ∨ k = 2) ∧ e = .returned (.tuple #[.int .u64 x, .iface 116 (.int .i64 k)])
theorem PuAns.some_ {r : Option Nat} {v : Nat} (h : r = some v) : PuAns r (.returned (.tuple #[.int .u64 (v : Int), .nilIface])) := by rw [h]; rfl
theorem PuAns.none_ {r : Option Nat} (h : r = none) (x k : Int) (hk : k = 1 ∨ k = 2) : PuAns r (.returned (.tuple #[.int .u64 x, .iface 116 (.int .i64 k)])) := by rw [h]; exact ⟨x, k, hk, rfl⟩
theorem low_or : ∀ x : Fin 256, bits .or .u8 ((x.val : Nat) : Int) 32 = ((x.val ||| 32 : Nat) : Int) ∧ (x.val ||| 32) < 256 := by decide +kernel
section
variable (w : World)

set_option maxRecDepth 100000 in
set_option maxHeartbeats 4000000 in
theorem iparse16_ (l : List Nat) (hl : ∀ x ∈ l, x < 256) (hn : l.length ≤ 1000000) (hne : l ≠ []) : Calls Tryz.prog 117 #[.string (str l), .int .i64 16, .int .i64 16] w fun e w' => PuAns (pu 16 65535 0 l) e ∧ ∀ S, Keeps S w w' := by
  obtain ⟨t, ht⟩ : ∃ t, t = str l := ⟨_, rfl⟩
  have hsz : t.size = l.length := by rw [ht, str_size]
  rw [← ht]
  have hemp : t.toList.isEmpty = false := by
    rw [← decide_eq_emptyBytes]
    refine decide_eq_false (fun h => hne ?_)
    have := congrArg ByteArray.size h
    rw [hsz] at this
    exact List.eq_nil_of_length_eq_zero (by rw [this]; rfl)
  have hcv := Lib.run_convert_string_bytes (P := Tryz.prog) w 9 68 5 t (u := .string) Tryz.underlying9 Tryz.underlying68 Tryz.underlying5
  have hB : ∀ (j c : Nat), l[j]? = some c → (Lib.bytesWorld w 5 t).cell? ⟨w.heap.size, j, none⟩ = some (.int .u8 (c : Int)) := fun j c hj => by
    have hjl := (List.getElem?_eq_some_iff.1 hj).1
    rw [Lib.bytesWorld_cell w 5 t j (by rw [hsz]; exact hjl), ht]
    have : (str l).data.toList = l.map (fun x => UInt8.ofNat x) := by simp [str]
    rw [this]
    simp [List.getD, hj, Nat.mod_eq_of_lt (hl c (List.mem_of_getElem? hj))]
  have KW := Lib.hid (of_below (Lib.bytesWorld_below w 5 t))
  obtain ⟨W1, hW1⟩ : ∃ W1, W1 = Lib.bytesWorld w 5 t := ⟨_, rfl⟩
  rw [← hW1] at hcv hB KW
  have hmv : IntKind.u64.wrap (IntKind.u64.wrap 65536 - 1) = 65535 := by
    rw [IntKind.wrap_u64, IntKind.wrap_u64]
    decide
  have HLT := Lib.hid hl
  have HNN := Lib.hid (And.intro hn hsz)
  have HBB := Lib.hid hB
  have hn' : t.size ≤ 1000000 := by omega
  clear hW1 hl hne ht hn hsz hB
  go_enter Tryz.func117, Tryz.ntmps117
  go_wp2
  go_loop [12, 13, 101] (fun vu vn vi => ∃ (k acc : Nat) (a : Int), vu = .bool false ∧ vn = .int .u64 a ∧ vi = .int .i64 k ∧ k ≤ t.size ∧ Hid (a = (acc : Int) ∧ acc ≤ 65535 ∧ pu 16 65535 0 l = pu 16 65535 acc (l.drop k)))
    (fun _ _ vi => t.size - (intOf vi).toNat)
  case atStart => exact ⟨0, 0, 0, rfl, rfl, rfl, by omega, rfl, by omega, rfl⟩
  case round =>
    obtain ⟨k, acc, a, rfl, rfl, rfl, hk, hh⟩ := hrel
    obtain ⟨ha, hacc, hdec⟩ := hh.out
    clear hh
    have a0 : 0 ≤ a := by omega
    have a1 : a ≤ 65535 := by omega
    by_cases hkn : k < t.size
    · obtain ⟨c, hcg⟩ : ∃ c, l[k]? = some c := ⟨_, List.getElem?_eq_getElem (by have := HNN.out.2; omega)⟩
      have hc := HBB.out k c hcg
      have hdrop : l.drop k = c :: l.drop (k + 1) := by
        have hlt := (List.getElem?_eq_some_iff.1 hcg)
        rw [List.drop_eq_getElem_cons hlt.1, hlt.2]
      rw [hdrop] at hdec
      have hc256 : c < 256 := HLT.out c (List.mem_of_getElem? hcg)
      clear hdrop hcg
      have hcut : ¬ (1152921504606846976 : Int) ≤ a := by omega
      by_cases hdig : 48 ≤ c ∧ c ≤ 57
      · obtain ⟨hd0, hd1⟩ := hdig
        have hv1 : hv 16 c = some (c - 48) := by unfold hv; rw [if_pos ⟨hd0, hd1⟩]
        by_cases hov : 65535 < acc * 16 + (c - 48)
        · have hF : pu 16 65535 0 l = none := by rw [hdec]; simp only [pu, hv1, if_pos hov]
          have iov : 65535 < a * 16 + ((c : Int) - 48) := by omega
          have HF := Lib.hid hF
          clear hacc hF hov ha hdec hv1
          go_wp2
          go_ret2
          exact ⟨PuAns.none_ HF.out _ _ (.inl rfl), KW.out⟩
        · have hF : pu 16 65535 acc (c :: l.drop (k + 1)) = pu 16 65535 (acc * 16 + (c - 48)) (l.drop (k + 1)) := by simp only [pu, hv1, if_neg hov]
          have HN : Hid (a * 16 + ((c : Int) - 48) = ((acc * 16 + (c - 48) : Nat) : Int) ∧ acc * 16 + (c - 48) ≤ 65535 ∧ pu 16 65535 0 l = pu 16 65535 (acc * 16 + (c - 48)) (l.drop (k + 1))) := Lib.hid ⟨by omega, by omega, hdec.trans hF⟩
          have iov : a * 16 + ((c : Int) - 48) ≤ 65535 := by omega
          clear hacc hF hov hdec ha hv1
          go_wp2
          refine ⟨⟨k + 1, acc * 16 + (c - 48), a * 16 + ((c : Int) - 48), rfl, (by first | rfl | (congr 1; omega)), (by first | rfl | (congr 1; omega)), by omega, HN⟩, by simp [intOf]; omega⟩
      · obtain ⟨x, hx⟩ : ∃ x, x = c ||| 32 := ⟨_, rfl⟩
        have hlo := low_or ⟨c, hc256⟩
        simp only at hlo
        rw [← hx] at hlo
        obtain ⟨hlo, hx256⟩ := hlo
        have HL := Lib.hid (fun w => Tryz.internal_strconv_lower ((c : Nat) : Int) w)
        rw [hlo] at HL
        have hu95 : bits .or .u8 95 32 = 127 := by decide
        have hdig' : ¬ (48 ≤ (c : Int) ∧ (c : Int) ≤ 57) := by omega
        have hdi2 : (48 : Int) ≤ (c : Int) → ¬ (c : Int) ≤ 57 := by omega
        by_cases hlet : 97 ≤ x ∧ x ≤ 122 ∧ x - 87 < 16
        · have hv1 : hv 16 c = some (x - 87) := by unfold hv; rw [if_neg hdig, ← hx, if_pos hlet]
          obtain ⟨q1, q2, q3⟩ := hlet
          by_cases hov : 65535 < acc * 16 + (x - 87)
          · have hF : pu 16 65535 0 l = none := by rw [hdec]; simp only [pu, hv1, if_pos hov]
            have HF := Lib.hid hF
            have iov : 65535 < a * 16 + ((x : Int) - 97 + 10) := by omega
            have x0 : (97 : Int) ≤ (x : Int) := by omega
            have x1 : (x : Int) ≤ 122 := by omega
            have x2 : (x : Int) - 97 + 10 < 16 := by omega
            have c95 : ((c : Int) == 95) = false := by
              rw [beq_eq_false_iff_ne]
              intro e
              have : c = 95 := by omega
              rw [this] at hx
              simp at hx
              omega
            clear hacc hF hov ha hdec hv1 hx hlo hx256 q1 q2 q3 hdig hu95
            go_wp2_with (go_at_call 132; refine (HL.out _).mono ?_; rintro e w' ⟨rfl, rfl⟩)
            all_goals go_ret2
            all_goals exact ⟨PuAns.none_ HF.out _ _ (.inl rfl), KW.out⟩
          · have hF : pu 16 65535 acc (c :: l.drop (k + 1)) = pu 16 65535 (acc * 16 + (x - 87)) (l.drop (k + 1)) := by simp only [pu, hv1, if_neg hov]
            have HN : Hid (a * 16 + ((x : Int) - 97 + 10) = ((acc * 16 + (x - 87) : Nat) : Int) ∧ acc * 16 + (x - 87) ≤ 65535 ∧ pu 16 65535 0 l = pu 16 65535 (acc * 16 + (x - 87)) (l.drop (k + 1))) := Lib.hid ⟨by omega, by omega, hdec.trans hF⟩
            have iov : a * 16 + ((x : Int) - 97 + 10) ≤ 65535 := by omega
            have x0 : (97 : Int) ≤ (x : Int) := by omega
            have x1 : (x : Int) ≤ 122 := by omega
            have x2 : (x : Int) - 97 + 10 < 16 := by omega
            have c95 : ((c : Int) == 95) = false := by
              rw [beq_eq_false_iff_ne]
              intro e
              have : c = 95 := by omega
              rw [this] at hx
              simp at hx
              omega
            clear hacc hF hov ha hdec hv1 hx hlo hx256 q1 q2 q3 hdig hu95
            go_wp2_with (go_at_call 132; refine (HL.out _).mono ?_; rintro e w' ⟨rfl, rfl⟩)
            all_goals refine ⟨⟨k + 1, acc * 16 + (x - 87), a * 16 + ((x : Int) - 97 + 10), rfl, (by first | rfl | (congr 1; omega)), (by first | rfl | (congr 1; omega)), by omega, HN⟩, by simp [intOf]; omega⟩
        · have hF : pu 16 65535 0 l = none := by
            have hv1 : hv 16 c = none := by unfold hv; rw [if_neg hdig, ← hx, if_neg hlet]
            rw [hdec]; simp only [pu, hv1]
          have HF := Lib.hid hF
          by_cases hin : 97 ≤ x ∧ x ≤ 122
          · obtain ⟨q1, q2⟩ := hin
            have x0 : (97 : Int) ≤ (x : Int) := by omega
            have x1 : (x : Int) ≤ 122 := by omega
            have x2 : (16 : Int) ≤ (x : Int) - 97 + 10 := by omega
            have c95 : ((c : Int) == 95) = false := by
              rw [beq_eq_false_iff_ne]
              intro e
              have : c = 95 := by omega
              rw [this] at hx
              simp at hx
              omega
            clear hacc hF ha hdec hx hlo hx256 q1 q2 hdig hlet hu95
            go_wp2_with (go_at_call 132; refine (HL.out _).mono ?_; rintro e w' ⟨rfl, rfl⟩)
            all_goals go_ret2
            all_goals exact ⟨PuAns.none_ HF.out _ _ (.inr rfl), KW.out⟩
          · clear hacc hF ha hdec hdig
            by_cases h97 : 97 ≤ x
            · have x0 : (97 : Int) ≤ (x : Int) := by omega
              have x1 : ¬ (x : Int) ≤ 122 := by omega
              clear hlet hin h97 hx256
              by_cases c95 : c = 95
              · subst c95
                have hx127 : x = 127 := by rw [hx]; decide
                subst hx127
                clear hx
                go_wp2_with (go_at_call 132; refine (HL.out _).mono ?_; rintro e w' ⟨rfl, rfl⟩)
                all_goals go_ret2
                all_goals exact ⟨PuAns.none_ HF.out _ _ (.inr rfl), KW.out⟩
              · have c95' : ((c : Int) == 95) = false := by rw [beq_eq_false_iff_ne]; omega
                clear c95 hx hlo
                go_wp2_with (go_at_call 132; refine (HL.out _).mono ?_; rintro e w' ⟨rfl, rfl⟩)
                all_goals go_ret2
                all_goals exact ⟨PuAns.none_ HF.out _ _ (.inr rfl), KW.out⟩
            · have x0 : ¬ (97 : Int) ≤ (x : Int) := by omega
              have c95' : ((c : Int) == 95) = false := by
                rw [beq_eq_false_iff_ne]
                intro e
                have : c = 95 := by omega
                rw [this] at hx
                simp at hx
                omega
              clear hlet hin h97 hx256 hx hlo
              go_wp2_with (go_at_call 132; refine (HL.out _).mono ?_; rintro e w' ⟨rfl, rfl⟩)
              all_goals go_ret2
              all_goals exact ⟨PuAns.none_ HF.out _ _ (.inr rfl), KW.out⟩
    · have hkk : k = t.size := by omega
      subst hkk
      have hF : pu 16 65535 0 l = some acc := by rw [hdec, List.drop_eq_nil_of_le (by have := HNN.out.2; omega)]; rfl
      have HF := Lib.hid hF
      have HA := Lib.hid ha
      clear hacc hF hdec ha a0 a1
      go_wp2
      go_ret2
      exact ⟨by rw [HA.out]; exact PuAns.some_ HF.out, KW.out⟩
set_option maxRecDepth 100000 in
set_option maxHeartbeats 4000000 in
theorem iparse10_ (l : List Nat) (hl : ∀ x ∈ l, x < 256) (hn : l.length ≤ 1000000) (hne : l ≠ []) : Calls Tryz.prog 117 #[.string (str l), .int .i64 10, .int .i64 8] w fun e w' => PuAns (pu 10 255 0 l) e ∧ ∀ S, Keeps S w w' := by
  obtain ⟨t, ht⟩ : ∃ t, t = str l := ⟨_, rfl⟩
  have hsz : t.size = l.length := by rw [ht, str_size]
  rw [← ht]
  have hemp : t.toList.isEmpty = false := by
    rw [← decide_eq_emptyBytes]
    refine decide_eq_false (fun h => hne ?_)
    have := congrArg ByteArray.size h
    rw [hsz] at this
    exact List.eq_nil_of_length_eq_zero (by rw [this]; rfl)
  have hcv := Lib.run_convert_string_bytes (P := Tryz.prog) w 9 68 5 t (u := .string) Tryz.underlying9 Tryz.underlying68 Tryz.underlying5
  have hB : ∀ (j c : Nat), l[j]? = some c → (Lib.bytesWorld w 5 t).cell? ⟨w.heap.size, j, none⟩ = some (.int .u8 (c : Int)) := fun j c hj => by
    have hjl := (List.getElem?_eq_some_iff.1 hj).1
    rw [Lib.bytesWorld_cell w 5 t j (by rw [hsz]; exact hjl), ht]
    have : (str l).data.toList = l.map (fun x => UInt8.ofNat x) := by simp [str]
    rw [this]
    simp [List.getD, hj, Nat.mod_eq_of_lt (hl c (List.mem_of_getElem? hj))]
  have KW := Lib.hid (of_below (Lib.bytesWorld_below w 5 t))
  obtain ⟨W1, hW1⟩ : ∃ W1, W1 = Lib.bytesWorld w 5 t := ⟨_, rfl⟩
  rw [← hW1] at hcv hB KW
  have hmv : IntKind.u64.wrap (IntKind.u64.wrap 256 - 1) = 255 := by
    rw [IntKind.wrap_u64, IntKind.wrap_u64]
    decide
  have HLT := Lib.hid hl
  have HNN := Lib.hid (And.intro hn hsz)
  have HBB := Lib.hid hB
  have hn' : t.size ≤ 1000000 := by omega
  clear hW1 hl hne ht hn hsz hB
  go_enter Tryz.func117, Tryz.ntmps117
  go_wp2
  go_loop [12, 13, 101] (fun vu vn vi => ∃ (k acc : Nat) (a : Int), vu = .bool false ∧ vn = .int .u64 a ∧ vi = .int .i64 k ∧ k ≤ t.size ∧ Hid (a = (acc : Int) ∧ acc ≤ 255 ∧ pu 10 255 0 l = pu 10 255 acc (l.drop k)))
    (fun _ _ vi => t.size - (intOf vi).toNat)
  case atStart => exact ⟨0, 0, 0, rfl, rfl, rfl, by omega, rfl, by omega, rfl⟩
  case round =>
    obtain ⟨k, acc, a, rfl, rfl, rfl, hk, hh⟩ := hrel
    obtain ⟨ha, hacc, hdec⟩ := hh.out
    clear hh
    have a0 : 0 ≤ a := by omega
    have a1 : a ≤ 255 := by omega
    by_cases hkn : k < t.size
    · obtain ⟨c, hcg⟩ : ∃ c, l[k]? = some c := ⟨_, List.getElem?_eq_getElem (by have := HNN.out.2; omega)⟩
      have hc := HBB.out k c hcg
      have hdrop : l.drop k = c :: l.drop (k + 1) := by
        have hlt := (List.getElem?_eq_some_iff.1 hcg)
        rw [List.drop_eq_getElem_cons hlt.1, hlt.2]
      rw [hdrop] at hdec
      have hc256 : c < 256 := HLT.out c (List.mem_of_getElem? hcg)
      clear hdrop hcg
      have hcut : ¬ (1844674407370955162 : Int) ≤ a := by omega
      by_cases hdig : 48 ≤ c ∧ c ≤ 57
      · obtain ⟨hd0, hd1⟩ := hdig
        have hv1 : hv 10 c = some (c - 48) := by unfold hv; rw [if_pos ⟨hd0, hd1⟩]
        by_cases hov : 255 < acc * 10 + (c - 48)
        · have hF : pu 10 255 0 l = none := by rw [hdec]; simp only [pu, hv1, if_pos hov]
          have iov : 255 < a * 10 + ((c : Int) - 48) := by omega
          have HF := Lib.hid hF
          clear hacc hF hov ha hdec hv1
          go_wp2
          go_ret2
          exact ⟨PuAns.none_ HF.out _ _ (.inl rfl), KW.out⟩
        · have hF : pu 10 255 acc (c :: l.drop (k + 1)) = pu 10 255 (acc * 10 + (c - 48)) (l.drop (k + 1)) := by simp only [pu, hv1, if_neg hov]
          have HN : Hid (a * 10 + ((c : Int) - 48) = ((acc * 10 + (c - 48) : Nat) : Int) ∧ acc * 10 + (c - 48) ≤ 255 ∧ pu 10 255 0 l = pu 10 255 (acc * 10 + (c - 48)) (l.drop (k + 1))) := Lib.hid ⟨by omega, by omega, hdec.trans hF⟩
          have iov : a * 10 + ((c : Int) - 48) ≤ 255 := by omega
          clear hacc hF hov hdec ha hv1
          go_wp2
          refine ⟨⟨k + 1, acc * 10 + (c - 48), a * 10 + ((c : Int) - 48), rfl, (by first | rfl | (congr 1; omega)), (by first | rfl | (congr 1; omega)), by omega, HN⟩, by simp [intOf]; omega⟩
      · obtain ⟨x, hx⟩ : ∃ x, x = c ||| 32 := ⟨_, rfl⟩
        have hlo := low_or ⟨c, hc256⟩
        simp only at hlo
        rw [← hx] at hlo
        obtain ⟨hlo, hx256⟩ := hlo
        have HL := Lib.hid (fun w => Tryz.internal_strconv_lower ((c : Nat) : Int) w)
        rw [hlo] at HL
        have hu95 : bits .or .u8 95 32 = 127 := by decide
        have hdig' : ¬ (48 ≤ (c : Int) ∧ (c : Int) ≤ 57) := by omega
        have hdi2 : (48 : Int) ≤ (c : Int) → ¬ (c : Int) ≤ 57 := by omega
        by_cases hlet : 97 ≤ x ∧ x ≤ 122 ∧ x - 87 < 10
        · have hv1 : hv 10 c = some (x - 87) := by unfold hv; rw [if_neg hdig, ← hx, if_pos hlet]
          obtain ⟨q1, q2, q3⟩ := hlet
          by_cases hov : 255 < acc * 10 + (x - 87)
          · have hF : pu 10 255 0 l = none := by rw [hdec]; simp only [pu, hv1, if_pos hov]
            have HF := Lib.hid hF
            have iov : 255 < a * 10 + ((x : Int) - 97 + 10) := by omega
            have x0 : (97 : Int) ≤ (x : Int) := by omega
            have x1 : (x : Int) ≤ 122 := by omega
            have x2 : (x : Int) - 97 + 10 < 10 := by omega
            have c95 : ((c : Int) == 95) = false := by
              rw [beq_eq_false_iff_ne]
              intro e
              have : c = 95 := by omega
              rw [this] at hx
              simp at hx
              omega
            clear hacc hF hov ha hdec hv1 hx hlo hx256 q1 q2 q3 hdig hu95
            go_wp2_with (go_at_call 132; refine (HL.out _).mono ?_; rintro e w' ⟨rfl, rfl⟩)
            all_goals go_ret2
            all_goals exact ⟨PuAns.none_ HF.out _ _ (.inl rfl), KW.out⟩
          · have hF : pu 10 255 acc (c :: l.drop (k + 1)) = pu 10 255 (acc * 10 + (x - 87)) (l.drop (k + 1)) := by simp only [pu, hv1, if_neg hov]
            have HN : Hid (a * 10 + ((x : Int) - 97 + 10) = ((acc * 10 + (x - 87) : Nat) : Int) ∧ acc * 10 + (x - 87) ≤ 255 ∧ pu 10 255 0 l = pu 10 255 (acc * 10 + (x - 87)) (l.drop (k + 1))) := Lib.hid ⟨by omega, by omega, hdec.trans hF⟩
            have iov : a * 10 + ((x : Int) - 97 + 10) ≤ 255 := by omega
            have x0 : (97 : Int) ≤ (x : Int) := by omega
            have x1 : (x : Int) ≤ 122 := by omega
            have x2 : (x : Int) - 97 + 10 < 10 := by omega
            have c95 : ((c : Int) == 95) = false := by
              rw [beq_eq_false_iff_ne]
              intro e
              have : c = 95 := by omega
              rw [this] at hx
              simp at hx
              omega
            clear hacc hF hov ha hdec hv1 hx hlo hx256 q1 q2 q3 hdig hu95
            go_wp2_with (go_at_call 132; refine (HL.out _).mono ?_; rintro e w' ⟨rfl, rfl⟩)
            all_goals refine ⟨⟨k + 1, acc * 10 + (x - 87), a * 10 + ((x : Int) - 97 + 10), rfl, (by first | rfl | (congr 1; omega)), (by first | rfl | (congr 1; omega)), by omega, HN⟩, by simp [intOf]; omega⟩
        · have hF : pu 10 255 0 l = none := by
            have hv1 : hv 10 c = none := by unfold hv; rw [if_neg hdig, ← hx, if_neg hlet]
            rw [hdec]; simp only [pu, hv1]
          have HF := Lib.hid hF
          by_cases hin : 97 ≤ x ∧ x ≤ 122
          · obtain ⟨q1, q2⟩ := hin
            have x0 : (97 : Int) ≤ (x : Int) := by omega
            have x1 : (x : Int) ≤ 122 := by omega
            have x2 : (10 : Int) ≤ (x : Int) - 97 + 10 := by omega
            have c95 : ((c : Int) == 95) = false := by
              rw [beq_eq_false_iff_ne]
              intro e
              have : c = 95 := by omega
              rw [this] at hx
              simp at hx
              omega
            clear hacc hF ha hdec hx hlo hx256 q1 q2 hdig hlet hu95
            go_wp2_with (go_at_call 132; refine (HL.out _).mono ?_; rintro e w' ⟨rfl, rfl⟩)
            all_goals go_ret2
            all_goals exact ⟨PuAns.none_ HF.out _ _ (.inr rfl), KW.out⟩
          · clear hacc hF ha hdec hdig
            by_cases h97 : 97 ≤ x
            · have x0 : (97 : Int) ≤ (x : Int) := by omega
              have x1 : ¬ (x : Int) ≤ 122 := by omega
              clear hlet hin h97 hx256
              by_cases c95 : c = 95
              · subst c95
                have hx127 : x = 127 := by rw [hx]; decide
                subst hx127
                clear hx
                go_wp2_with (go_at_call 132; refine (HL.out _).mono ?_; rintro e w' ⟨rfl, rfl⟩)
                all_goals go_ret2
                all_goals exact ⟨PuAns.none_ HF.out _ _ (.inr rfl), KW.out⟩
              · have c95' : ((c : Int) == 95) = false := by rw [beq_eq_false_iff_ne]; omega
                clear c95 hx hlo
                go_wp2_with (go_at_call 132; refine (HL.out _).mono ?_; rintro e w' ⟨rfl, rfl⟩)
                all_goals go_ret2
                all_goals exact ⟨PuAns.none_ HF.out _ _ (.inr rfl), KW.out⟩
            · have x0 : ¬ (97 : Int) ≤ (x : Int) := by omega
              have c95' : ((c : Int) == 95) = false := by
                rw [beq_eq_false_iff_ne]
                intro e
                have : c = 95 := by omega
                rw [this] at hx
                simp at hx
                omega
              clear hlet hin h97 hx256 hx hlo
              go_wp2_with (go_at_call 132; refine (HL.out _).mono ?_; rintro e w' ⟨rfl, rfl⟩)
              all_goals go_ret2
              all_goals exact ⟨PuAns.none_ HF.out _ _ (.inr rfl), KW.out⟩
    · have hkk : k = t.size := by omega
      subst hkk
      have hF : pu 10 255 0 l = some acc := by rw [hdec, List.drop_eq_nil_of_le (by have := HNN.out.2; omega)]; rfl
      have HF := Lib.hid hF
      have HA := Lib.hid ha
      clear hacc hF hdec ha a0 a1
      go_wp2
      go_ret2
      exact ⟨by rw [HA.out]; exact PuAns.some_ HF.out, KW.out⟩
end
end Go.Proofs.YtgcdhfpbmcfedaaGreatDoor.pf
end
section
set_option linter.unusedVariables false
set_option linter.unusedSimpArgs false
namespace Go.Proofs.YtgcdhfpbmcfedaaGreatDoor.pf
open Go.RowKit Go.Proofs.YtgcdhfpbmcfedaaGreatDoor.oc Go.Proofs.YtgcdhfpbmcfedaaGreatDoor.mz Go.Proofs.YtgcdhfpbmcfedaaGreatDoor.wh Go.Proofs.YtgcdhfpbmcfedaaGreatDoor.qk
/-- a text of numbers' part, as a number to a base -/
def part_ (b : Nat) (l : List Nat) : Option Nat := if l = [] then none else pu b (if b = 16 then 65535 else 255) 0 l
def PubAns (r : Option Nat) (e : Ending) : Prop := match r with
  | some v => e = .returned (.tuple #[.int .u64 (v : Int), .nilIface])
  | none => ∃ (x : Int) (T : TypeId) (p : Value), e = .returned (.tuple #[.int .u64 x, .iface T p])
section
variable (w : World)

set_option maxRecDepth 100000 in
set_option maxHeartbeats 2000000 in
theorem parse16_ (l : List Nat) (hl : ∀ x ∈ l, x < 256) (hn : l.length ≤ 1000000) (henv : Env w) : Calls Tryz.prog 112 #[.string (str l), .int .i64 16, .int .i64 16] w fun e w' => PubAns (part_ 16 l) e ∧ ∀ S, Keeps S w w' := by
  have H : Hid (Calls Tryz.prog 117 #[.string (str l), .int .i64 16, .int .i64 16] w fun e w' => PuAns (part_ 16 l) e ∧ ∀ S, Keeps S w w') := Lib.hid (by
    by_cases hne : l = []
    · subst hne
      refine (Tryz.internal_strconv_ParseUint_empty 16 16 w).mono ?_
      rintro e w' ⟨rfl, rfl⟩
      exact ⟨PuAns.none_ rfl _ _ (.inr rfl), fun S => Keeps.refl S w'⟩
    · have := iparse16_ w l hl hn hne
      unfold part_
      rw [if_neg hne]
      exact this)
  have hz : (str l).size ≤ 281474976710656 := by rw [str_size]; omega
  have HE := Lib.hid (And.intro henv hz)
  clear hl hn henv hz
  generalize str l = s at *
  generalize part_ 16 l = r at *
  go_enter Tryz.func112, Tryz.ntmps112
  go_wp2_with fail
  refine H.out.mono ?_
  rintro e w1 ⟨ha, k1⟩
  have K1 := Lib.hid k1
  have HE1 := Lib.hid (HE.out.1.keeps k1)
  clear k1
  cases r with
  | some v =>
    have ha : e = .returned (.tuple #[.int .u64 (v : Int), .nilIface]) := ha
    subst ha
    go_wp2
    go_ret2
    exact ⟨rfl, K1.out⟩
  | none =>
    obtain ⟨x, k, hk, rfl⟩ := ha
    rcases hk with rfl | rfl
    · obtain ⟨ev, h1, h2⟩ := HE1.out.rg
      have HT := Lib.hid (Tryz.strconv_toError_range ⟨#[80, 97, 114, 115, 101, 85, 105, 110, 116]⟩ s 16 16 ev w1 HE.out.2 h1 h2)
      clear h1 h2
      go_wp2_with fail
      refine HT.out.mono ?_
      rintro e w2 ⟨N, rfl, _, _, kb⟩
      have K2 : Hid (∀ S, Keeps S w w2) := Lib.hid (fun S => (K1.out S).trans (of_below kb S))
      clear kb
      go_wp2
      go_ret2
      exact ⟨⟨_, _, _, rfl⟩, K2.out⟩
    · obtain ⟨ev, h1, h2⟩ := HE1.out.sy
      have HT := Lib.hid (Tryz.strconv_toError_syntax ⟨#[80, 97, 114, 115, 101, 85, 105, 110, 116]⟩ s 16 16 ev w1 HE.out.2 h1 h2)
      clear h1 h2
      go_wp2_with fail
      refine HT.out.mono ?_
      rintro e w2 ⟨N, rfl, _, _, kb⟩
      have K2 : Hid (∀ S, Keeps S w w2) := Lib.hid (fun S => (K1.out S).trans (of_below kb S))
      clear kb
      go_wp2
      go_ret2
      exact ⟨⟨_, _, _, rfl⟩, K2.out⟩
set_option maxRecDepth 100000 in
set_option maxHeartbeats 2000000 in
theorem parse10_ (l : List Nat) (hl : ∀ x ∈ l, x < 256) (hn : l.length ≤ 1000000) (henv : Env w) : Calls Tryz.prog 112 #[.string (str l), .int .i64 10, .int .i64 8] w fun e w' => PubAns (part_ 10 l) e ∧ ∀ S, Keeps S w w' := by
  have H : Hid (Calls Tryz.prog 117 #[.string (str l), .int .i64 10, .int .i64 8] w fun e w' => PuAns (part_ 10 l) e ∧ ∀ S, Keeps S w w') := Lib.hid (by
    by_cases hne : l = []
    · subst hne
      refine (Tryz.internal_strconv_ParseUint_empty 10 8 w).mono ?_
      rintro e w' ⟨rfl, rfl⟩
      exact ⟨PuAns.none_ rfl _ _ (.inr rfl), fun S => Keeps.refl S w'⟩
    · have := iparse10_ w l hl hn hne
      unfold part_
      rw [if_neg hne]
      exact this)
  have hz : (str l).size ≤ 281474976710656 := by rw [str_size]; omega
  have HE := Lib.hid (And.intro henv hz)
  clear hl hn henv hz
  generalize str l = s at *
  generalize part_ 10 l = r at *
  go_enter Tryz.func112, Tryz.ntmps112
  go_wp2_with fail
  refine H.out.mono ?_
  rintro e w1 ⟨ha, k1⟩
  have K1 := Lib.hid k1
  have HE1 := Lib.hid (HE.out.1.keeps k1)
  clear k1
  cases r with
  | some v =>
    have ha : e = .returned (.tuple #[.int .u64 (v : Int), .nilIface]) := ha
    subst ha
    go_wp2
    go_ret2
    exact ⟨rfl, K1.out⟩
  | none =>
    obtain ⟨x, k, hk, rfl⟩ := ha
    rcases hk with rfl | rfl
    · obtain ⟨ev, h1, h2⟩ := HE1.out.rg
      have HT := Lib.hid (Tryz.strconv_toError_range ⟨#[80, 97, 114, 115, 101, 85, 105, 110, 116]⟩ s 10 8 ev w1 HE.out.2 h1 h2)
      clear h1 h2
      go_wp2_with fail
      refine HT.out.mono ?_
      rintro e w2 ⟨N, rfl, _, _, kb⟩
      have K2 : Hid (∀ S, Keeps S w w2) := Lib.hid (fun S => (K1.out S).trans (of_below kb S))
      clear kb
      go_wp2
      go_ret2
      exact ⟨⟨_, _, _, rfl⟩, K2.out⟩
    · obtain ⟨ev, h1, h2⟩ := HE1.out.sy
      have HT := Lib.hid (Tryz.strconv_toError_syntax ⟨#[80, 97, 114, 115, 101, 85, 105, 110, 116]⟩ s 10 8 ev w1 HE.out.2 h1 h2)
      clear h1 h2
      go_wp2_with fail
      refine HT.out.mono ?_
      rintro e w2 ⟨N, rfl, _, _, kb⟩
      have K2 : Hid (∀ S, Keeps S w w2) := Lib.hid (fun S => (K1.out S).trans (of_below kb S))
      clear kb
      go_wp2
      go_ret2
      exact ⟨⟨_, _, _, rfl⟩, K2.out⟩
end
end Go.Proofs.YtgcdhfpbmcfedaaGreatDoor.pf
end
section
set_option linter.unusedVariables false
set_option linter.unusedSimpArgs false
namespace Go.Proofs.YtgcdhfpbmcfedaaGreatDoor.pf
open Go.RowKit Go.Shelf Go.Proofs.YtgcdhfpbmcfedaaGreatDoor.oc Go.Proofs.YtgcdhfpbmcfedaaGreatDoor.mz Go.Proofs.YtgcdhfpbmcfedaaGreatDoor.wh Go.Proofs.YtgcdhfpbmcfedaaGreatDoor.qk Go.Proofs.YtgcdhfpbmcfedaaGreatDoor.rb
attribute [local go_sem] Oper.semAt_some
/-- where a sign stands first -/
def ix (c : Nat) : List Nat → Option Nat
  | [] => none
  | x :: r => if x = c then some 0 else (ix c r).map (· + 1)
/-- a text's parts between a sign -/
def spl (c : Nat) : List Nat → List (List Nat)
  | [] => [[]]
  | x :: r => if x = c then [] :: spl c r else match spl c r with
    | [] => [[x]]
    | h :: t => (x :: h) :: t
theorem spl_none (c : Nat) : ∀ l, ix c l = none → spl c l = [l]
  | [], _ => rfl
  | x :: r, h => by
    by_cases e : x = c
    · rw [ix, if_pos e] at h; cases h
    · rw [ix, if_neg e] at h
      have : ix c r = none := by cases hq : ix c r with | none => rfl | some i => rw [hq] at h; cases h
      rw [spl, if_neg e, spl_none c r this]
theorem spl_some (c : Nat) : ∀ l i, ix c l = some i → spl c l = l.take i :: spl c (l.drop (i + 1)) ∧ i < l.length
  | [], i, h => by simp [ix] at h
  | x :: r, i, h => by
    by_cases e : x = c
    · rw [ix, if_pos e] at h
      injection h with h
      subst h
      rw [spl, if_pos e]
      exact ⟨rfl, by simp⟩
    · rw [ix, if_neg e] at h
      cases hq : ix c r with
      | none => rw [hq] at h; cases h
      | some k =>
        rw [hq] at h
        simp only [Option.map_some, Option.some.injEq] at h
        subst h
        obtain ⟨h1, h2⟩ := spl_some c r k hq
        rw [spl, if_neg e, h1]
        exact ⟨by simp, by simp; omega⟩
theorem spl_pos (c : Nat) : ∀ l, 1 ≤ (spl c l).length
  | [] => by simp [spl]
  | x :: r => by
    have := spl_pos c r
    rw [spl]
    split
    · simp
    · split <;> simp
theorem spl_len (c : Nat) : ∀ l, (spl c l).length ≤ l.length + 1
  | [] => by simp [spl]
  | x :: r => by
    have := spl_len c r
    rw [spl]
    split
    · simp; omega
    · split
      · simp
      · rename_i h t e
        rw [e] at this
        simp at this ⊢
        omega
theorem ix_lib (c : Nat) (hc : c < 256) : ∀ l : List Nat, (∀ x ∈ l, x < 256) → Lib.indexByte (l.map (fun x => UInt8.ofNat x)) (UInt8.ofNat c) = match ix c l with | some i => (i : Int) | none => -1
  | [], _ => rfl
  | x :: r, h => by
    have ih := ix_lib c hc r (fun y hy => h y (List.mem_cons_of_mem _ hy))
    have hx := h x (by simp)
    have he : (UInt8.ofNat x == UInt8.ofNat c) = decide (x = c) := by
      rw [Bool.eq_iff_iff, beq_iff_eq, decide_eq_true_eq]
      constructor
      · intro e
        have := congrArg UInt8.toNat e
        simpa [Nat.mod_eq_of_lt hx, Nat.mod_eq_of_lt hc] using this
      · intro e; rw [e]
    rw [List.map_cons, Lib.indexByte, he, ih, ix]
    by_cases e : x = c
    · simp [e]
    · rw [if_neg (by simpa using e), if_neg e]
      cases ix c r with
      | none => simp
      | some i =>
        simp only [Option.map_some]
        have h1 : ((i : Int) == -1) = false := by rw [beq_eq_false_iff_ne]; omega
        rw [h1]
        simp
theorem str_list (l : List Nat) : (str l).data.toList = l.map (fun x => UInt8.ofNat x) := by simp [str]
section
set_option maxRecDepth 100000 in
set_option maxHeartbeats 4000000 in
/-- the iterator of a text's parts: s lies in the box b, the separator and the number that is kept of it in the two behind -/
theorem splititer_ (n : Nat) (hn : 1 ≤ n) (b c l : Nat) (s : List Nat) (hs : ∀ x ∈ s, x < 256) (hsl : s.length ≤ 1000000) (hc : c < 256) (J Jx : List (List Nat) → List Nat → World → Prop)
    (hJ : ∀ p t W, J p t W → W.cell? ⟨b, 0, none⟩ = some (.string (str t)) ∧ W.frozen? ⟨b, 0, none⟩ = false ∧ W.cell? ⟨b + 1, 0, none⟩ = some (.string (str [c])) ∧ W.cell? ⟨b + 2, 0, none⟩ = some (.int .i64 0))
    (hJs : ∀ p t t' W, J p t W → J p t' (W.setCell ⟨b, 0, none⟩ (.string (str t'))))
    (hY : ∀ p t x W1, J p t W1 → ((∀ y ∈ x, y < 256) ∧ x.length ≤ 1000000 ∧ p.length ≤ 1000000) → YieldAt Fence.wide (n - 1) Tryz.prog l #[.string (str x)] W1 fun e W' => (e = .returned (.bool true) ∧ J (p ++ [x]) t W') ∨ (e = .returned (.bool false) ∧ Jx (p ++ [x]) t W'))
    (W : World) (h0 : J [] s W) :
    CallsIn Fence.wide n Tryz.prog 137 #[.func (.yield l) #[] #[], .pointer (some ⟨b + 1, 0, none⟩), .pointer (some ⟨b, 0, none⟩), .pointer (some ⟨b + 2, 0, none⟩)] W fun e W' => (∃ v, e = .returned v) ∧ ((∃ xs t, xs = spl c s ∧ J xs t W') ∨ (∃ p t, (∃ r, p ++ r = spl c s) ∧ Jx p t W')) := by
  have HSC := fun (t : List Nat) (ht : ∀ x ∈ t, x < 256) (W9 : World) => Lib.hid (by
    have := Tryz.strings_Index_one (str t) (UInt8.ofNat c) W9
    rw [str_list, ix_lib c hc t ht] at this
    exact this)
  have hsc1 : (str [c]).size = 1 := by rw [str_size]; rfl
  refine callsIn_of_wp Tryz.func137 rfl trivial ?_ rfl
  simp only [Tryz.ntmps137, List.size_toArray, List.length_cons, List.length_nil, Nat.reduceAdd, Nat.reduceSub, Array.replicate_succ, Array.replicate_zero, List.push_toArray, List.append_toArray, List.nil_append, List.cons_append]
  obtain ⟨xb, xf, xs, xk⟩ := hJ _ _ _ h0
  have hne : ¬ (str [c]).size = 0 := by omega
  gi_wp2
  clear xb xf xs xk
  gi_loopw [7] (fun _ wr => ∃ (p : List (List Nat)) (t : List Nat), J p t wr ∧ Hid (p ++ spl c t = spl c s ∧ (∀ x ∈ t, x < 256) ∧ t.length ≤ 1000000)) (fun _ wr => match wr.cell? ⟨b, 0, none⟩ with | some (.string q) => q.size | _ => 0)
  case atStart => exact ⟨[], s, h0, Lib.hid ⟨rfl, hs, hsl⟩⟩
  case round =>
    obtain ⟨p, t, hj, hh⟩ := hrel
    obtain ⟨xb, xf, xs, xk⟩ := hJ _ _ _ hj
    have hpl : p.length ≤ 1000000 := by
      have e := congrArg List.length hh.out.1
      have q1 := spl_len c s
      have q2 := spl_pos c t
      rw [List.length_append] at e
      omega
    have HT := HSC t hh.out.2.1 wr
    cases hix : ix c t with
    | none =>
      rw [hix] at HT
      have hsp := spl_none c t hix
      obtain ⟨fn, tmps, assign, body, hy, hR⟩ := hY _ _ t wr hj ⟨hh.out.2.1, hh.out.2.2, hpl⟩
      have HY := Lib.hid hR
      have HSP := Lib.hid hsp
      clear hsp hix hR
      gi_wp2
      refine ⟨trivial, ?_⟩
      refine (callsIn_wide.2 HT.out).mono ?_
      rintro e w' ⟨rfl, rfl⟩
      gi_wp2
      refine HY.out.mono ?_
      rintro e W3 (⟨rfl, hJ3⟩ | ⟨rfl, hJ3⟩)
      all_goals
        gi_wp2
        go_end0
      · exact ⟨⟨_, rfl⟩, .inl ⟨_, _, by rw [← hh.out.1, HSP.out], hJ3⟩⟩
      · exact ⟨⟨_, rfl⟩, .inr ⟨_, _, ⟨[], by rw [List.append_nil, ← hh.out.1, HSP.out]⟩, hJ3⟩⟩
    | some i =>
      rw [hix] at HT
      obtain ⟨hsp, hil⟩ := spl_some c t i hix
      have hst : (str t).extract 0 i = str (t.take i) := by rw [str_extract]; simp
      obtain ⟨fn, tmps, assign, body, hy, hR⟩ := hY _ _ (t.take i) wr hj ⟨fun y hy => hh.out.2.1 y (List.mem_of_mem_take hy), by have := hh.out.2.2; rw [List.length_take]; omega, hpl⟩
      rw [← hst] at hy
      have HY := Lib.hid hR
      have HSP := Lib.hid (And.intro hsp (And.intro hil hst))
      have hil' : (i : Int) ≤ ((str t).size : Int) := by rw [str_size]; omega
      have i0 : (0 : Int) ≤ (i : Int) := by omega
      have i1 : ¬ (i : Int) < 0 := by omega
      have hw0 : wrap64 (i : Int) = (i : Int) := w64s (by omega) (by have := hh.out.2.2; omega)
      have hw1 : wrap64 ((i : Int) + 1) = (i : Int) + 1 := w64s (by omega) (by have := hh.out.2.2; omega)
      have hil2 : (i : Int) + 1 ≤ ((str t).size : Int) := by rw [str_size]; omega
      have i2 : (0 : Int) ≤ (i : Int) + 1 := by omega
      have hst2 : (str t).extract (i + 1) (str t).size = str (t.drop (i + 1)) := by rw [str_extract, str_size]; congr 1; rw [List.take_of_length_le (by simp)]
      have HST := Lib.hid hst2
      clear hsp hix hR hst hst2
      gi_wp2
      refine ⟨trivial, ?_⟩
      refine (callsIn_wide.2 HT.out).mono ?_
      rintro e w' ⟨rfl, rfl⟩
      gi_wp2
      refine HY.out.mono ?_
      rintro e W3 (⟨rfl, hJ3⟩ | ⟨rfl, hJ3⟩)
      · obtain ⟨yb, yf, ys, yk⟩ := hJ _ _ _ hJ3
        have hj9 := hJs _ _ (t.drop (i + 1)) _ hJ3
        have hc9 := (hJ _ _ _ hj9).1
        gi_wp2
        rw [HST.out]
        refine ⟨⟨_, _, hj9, Lib.hid ⟨by rw [List.append_assoc, ← hh.out.1, HSP.out.1]; rfl, fun x hx => hh.out.2.1 x (List.mem_of_mem_drop hx), by have := hh.out.2.2; rw [List.length_drop]; omega⟩⟩, ?_⟩
        rw [hc9, xb]
        simp only [str_size, List.length_drop]
        have := HSP.out.2.1
        omega
      · gi_wp2
        refine bodyPost_ret (results_none rfl _ _ _) rfl ?_
        exact ⟨⟨_, rfl⟩, .inr ⟨_, _, ⟨_, by rw [List.append_assoc, ← hh.out.1, HSP.out.1]; rfl⟩, hJ3⟩⟩
end
end Go.Proofs.YtgcdhfpbmcfedaaGreatDoor.pf
end
section
set_option linter.unusedVariables false
set_option linter.unusedSimpArgs false
namespace Go.Proofs.YtgcdhfpbmcfedaaGreatDoor.pf
open Go.RowKit Go.Proofs.YtgcdhfpbmcfedaaGreatDoor.oc Go.Proofs.YtgcdhfpbmcfedaaGreatDoor.mz Go.Proofs.YtgcdhfpbmcfedaaGreatDoor.wh Go.Proofs.YtgcdhfpbmcfedaaGreatDoor.qk
/-- numbers to a base, a sign between -/
def jnb (b c : Nat) : List Nat → List Nat
  | [] => []
  | [n] => dig b n
  | n :: m :: r => dig b n ++ c :: jnb b c (m :: r)
theorem jnb_cons (b c n : Nat) (r : List Nat) : jnb b c (n :: r) = dig b n ++ (if r = [] then [] else c :: jnb b c r) := by
  cases r with
  | nil => simp [jnb]
  | cons m r => rw [jnb]; simp
theorem jnb_snoc (b c : Nat) : ∀ (l : List Nat) (n : Nat), jnb b c (l ++ [n]) = jnb b c l ++ (if l = [] then [] else [c]) ++ dig b n
  | [], n => by simp [jnb]
  | m :: r, n => by
    rw [List.cons_append, jnb_cons, jnb_snoc b c r n, jnb_cons]
    cases r with
    | nil => simp [jnb]
    | cons x y => simp
theorem jnb_jn : ∀ l : List Nat, jnb 16 58 l = jn l
  | [] => rfl
  | [n] => rfl
  | n :: m :: r => by rw [jnb, jn, jnb_jn (m :: r)]; rfl
def okDig (b : Nat) (x : Nat) : Prop := b = 16 ∧ x < 65536 ∨ b = 10 ∧ x < 256
theorem dig_small {b x : Nat} (h : okDig b x) : ∀ y ∈ dig b x, y < 256 := by
  rcases h with ⟨rfl, h⟩ | ⟨rfl, h⟩
  · exact hx_small x h
  · exact dec_small x h
theorem jnb_small (b c : Nat) (hc : c < 256) : ∀ l : List Nat, (∀ x ∈ l, okDig b x) → ∀ y ∈ jnb b c l, y < 256
  | [], _ => by intro y hy; simp [jnb] at hy
  | n :: r, h => by
    intro y hy
    rw [jnb_cons] at hy
    rcases List.mem_append.1 hy with q | q
    · exact dig_small (h n (by simp)) y q
    · split at q
      · simp at q
      · rcases List.mem_cons.1 q with rfl | q
        · exact hc
        · exact jnb_small b c hc r (fun x hx => h x (List.mem_cons_of_mem _ hx)) y q
theorem jnb_len (b c : Nat) : ∀ l : List Nat, (jnb b c l).length ≤ 5 * l.length
  | [] => by simp [jnb]
  | n :: r => by
    have := jnb_len b c r
    have := dig_len b n
    rw [jnb_cons]
    split <;> simp <;> omega
theorem str_cells (l : List Nat) (h : ∀ x ∈ l, x < 256) : Lib.strCells (str l) = b8s l := by
  unfold Lib.strCells str b8s
  simp only [List.map_map]
  refine List.map_congr_left fun x hx => ?_
  simp [Nat.mod_eq_of_lt (h x hx)]
structure JB (w wr : World) (b c : Nat) (ns : List Nat) (k : Nat) (v : Value) : Prop where
  km : k ≤ ns.length
  own : wr.ownsRow w.heap.size 5 1 v (jnb b c (ns.take k)).length (b8s (jnb b c (ns.take k)))
  be : Below w.heap.size w wr
theorem take_snoc {ns : List Nat} {k x : Nat} (h : ns[k]? = some x) : ns.take (k + 1) = ns.take k ++ [x] := by
  rw [List.take_add_one, h]; rfl
section
variable (w : World)
set_option maxRecDepth 100000 in
set_option maxHeartbeats 4000000 in
theorem joined_ (b c : Nat) (ns : List Nat) (A : Option Addr) (cap : Nat) (s : ByteArray) (hs : s = str [c]) (hb : ∀ x ∈ ns, okDig b x) (hc : c < 256) (hl : ns.length ≤ 8)
    (hA : ∀ k x, ns[k]? = some x → ∃ g o, A = some ⟨g, o, none⟩ ∧ w.cell? ⟨g, o + k, none⟩ = some (.int .u64 ((x : Nat) : Int))) (henv : Env w) :
    Calls Tryz.prog 69 #[.slice A ns.length cap, .string s, .int .i64 (b : Int)] w fun e w' => e = .returned (.string (str (jnb b c ns))) ∧ ∀ S, Keeps S w w' := by
  have HI := Lib.hid (show JB w w b c ns 0 (.slice none 0 0) from ⟨by omega, ⟨rfl, .inl ⟨rfl, rfl⟩⟩, Below.refl _ w⟩)
  have HA := Lib.hid hA
  have HB := Lib.hid hb
  have HE := Lib.hid henv
  have HS := Lib.hid hs
  have HC := Lib.hid (And.intro hc hl)
  obtain ⟨m, hm⟩ : ∃ m, m = ns.length := ⟨_, rfl⟩
  have HM := Lib.hid hm
  rw [← hm]
  obtain ⟨i0, hi, hz0, hz1, hz2⟩ := info_parts byte_info
  have HI0 := Lib.hid (And.intro hi (And.intro hz0 (And.intro hz1 hz2)))
  clear hA hb henv hs hc hl hm hi hz0 hz1 hz2
  go_enter Tryz.func69, Tryz.ntmps69
  go_wp2_with fail
  go_loopw [7, 12] (fun v i wr => ∃ (k : Nat) (vv : Value), vv = v ∧ i = .int .i64 (k : Int) ∧ JB w wr b c ns k vv) (fun _ i _ => 20 - (intOf i).toNat)
  case atStart => exact ⟨0, _, rfl, rfl, HI.out⟩
  case round =>
    obtain ⟨k, v, hv, rfl, hj⟩ := hrel
    subst hv
    have k0 : (0 : Int) ≤ (k : Int) := by omega
    have HJ := Lib.hid hj
    have k8 : (k : Int) ≤ 8 := by have := hj.km; have := HC.out.2; omega
    by_cases hlt : k < m
    · have hlt' : (k : Int) < (m : Int) := by omega
      obtain ⟨x, hx⟩ : ∃ x, ns[k]? = some x := ⟨_, List.getElem?_eq_getElem (by rw [← HM.out]; exact hlt)⟩
      obtain ⟨g, o, hAe, hcell⟩ := HA.out k x hx
      have xk : wr.cell? ⟨g, o + k, none⟩ = some (.int .u64 (x : Int)) := (hj.be.cell (cell_lt hcell)).trans hcell
      subst hAe
      have HX := Lib.hid hx
      have hap := fun (l : List Nat) (w9 : World) (n9 : Nat) (v9 : Value) (h9 : w9.ownsRow w.heap.size 5 1 v9 n9 (b8s l)) (hb9 : Below w.heap.size w w9) (hn : n9 ≤ 100) => Lib.hid (appendu_ w9 b w.heap.size n9 x (HB.out x (List.mem_of_getElem? hx)) v9 l (HE.out.below hb9) h9 hb9.size (by omega))
      clear hj hx hcell
      have hlen : (jnb b c (ns.take k)).length ≤ 40 := by
        have q1 := jnb_len b c (ns.take k)
        have q2 := HC.out.2
        rw [List.length_take] at q1
        omega
      have hsn := jnb_snoc b c (ns.take k) x
      rw [← take_snoc HX.out] at hsn
      by_cases h0 : k = 0
      · have hnil : ns.take k = [] := by rw [h0]; rfl
        rw [hnil] at hsn
        have h0' : ¬ (0 : Int) < (k : Int) := by omega
        have HN := Lib.hid (And.intro hsn hnil)
        have HQ := Lib.hid (hap (jnb b c (ns.take k)) wr _ v HJ.out.own HJ.out.be (by omega)).out
        clear hsn hnil hap hlen
        generalize hd : dig b x = D at *
        have HD := Lib.hid hd
        clear hd h0
        go_wp2_with fail
        refine HQ.out.mono ?_
        rintro e w2 ⟨v2, rfl, h1, h2⟩
        have hj2 : JB w w2 b c ns (k + 1) v2 := ⟨by have := HM.out; omega, by rw [HN.out.1, HN.out.2] at *; simpa [jnb, HD.out] using h1, HJ.out.be.trans h2⟩
        clear h1 h2
        go_wp2_with fail
        go_roundw
        case rel => exact ⟨k + 1, _, rfl, by go_num, hj2⟩
        case measure => simp [intOf]; omega
      · have hne : ¬ ns.take k = [] := by
          intro e
          have q1 := congrArg List.length e
          have q2 := HM.out
          rw [List.length_take, List.length_nil] at q1
          omega
        rw [if_neg hne] at hsn
        have h0' : (0 : Int) < (k : Int) := by omega
        have HN := Lib.hid hsn
        have HQ := fun w9 v9 h9 hb9 => Lib.hid (hap (jnb b c (ns.take k) ++ [c]) w9 ((jnb b c (ns.take k)).length + 1) v9 h9 hb9 (by omega)).out
        have HT := Lib.hid (show s.size = 1 ∧ Lib.strCells s = b8s [c] from by rw [HS.out]; exact ⟨by rw [str_size]; rfl, str_cells [c] (fun y hy => by simp at hy; rw [hy]; exact HC.out.1)⟩)
        have HLN := Lib.hid hlen
        clear hsn hne hap hlen h0
        go_wp2_with (at_builtin; refine Lib.wpList_append_own_string _ rfl _ _ 68 9 rfl w.heap.size 5 i0 Tryz.underlying68 Tryz.underlying9 HI0.out.1 HI0.out.2.1 HI0.out.2.2.1 HI0.out.2.2.2 v _ _ rfl HJ.out.own s rfl (by rw [HT.out.1]; have := HLN.out; unfold maxLen; omega) (by rw [HT.out.1]; have := HLN.out; omega) HJ.out.be.size ?_)
        intro v1 w1 hown1 hg1 _
        have hb1 : Below w.heap.size w w1 := HJ.out.be.grown hg1 HJ.out.be.size (fun q hq => (HJ.out.own.lt q hq).1)
        rw [HT.out.1, HT.out.2, show b8s (jnb b c (ns.take k)) ++ b8s [c] = b8s (jnb b c (ns.take k) ++ [c]) from by simp [b8s]] at hown1
        have HQ1 := Lib.hid (HQ w1 v1 hown1 hb1).out
        have HB1 := Lib.hid hb1
        clear hown1 hg1 hb1 HQ
        go_wp2_with fail
        refine HQ1.out.mono ?_
        rintro e w2 ⟨v2, rfl, h1, h2⟩
        have hj2 : JB w w2 b c ns (k + 1) v2 := ⟨by have := HM.out; omega, by rw [HN.out]; simpa [Nat.add_assoc, Nat.add_comm 1] using h1, HB1.out.trans h2⟩
        clear h1 h2
        go_wp2_with fail
        go_roundw
        case rel => exact ⟨k + 1, _, rfl, by go_num, hj2⟩
        case measure => simp [intOf]; omega
    · have hkm : k = m := by have := HJ.out.km; have := HM.out; omega
      have ho := HJ.out.own
      rw [hkm, HM.out, List.take_length] at ho
      have hcv : ∀ w9 : World, w9 = wr → (convert 68 9 v).run Tryz.prog w9 = .ok (.string (str (jnb b c ns))) w9 := fun w9 e => by rw [e]; exact conv_own ho (jnb_small b c HC.out.1 ns HB.out)
      have hcw := hcv wr rfl
      have HK := Lib.hid (of_below HJ.out.be)
      have hlt' : ¬ (k : Int) < (m : Int) := by omega
      clear ho hcv hj hlt
      generalize hR : str (jnb b c ns) = R at *
      have HR := Lib.hid hR
      clear hR
      go_wp2
      go_ret
      exact ⟨by rw [HR.out]; rfl, HK.out⟩
end
end Go.Proofs.YtgcdhfpbmcfedaaGreatDoor.pf
end
section
set_option linter.unusedVariables false
set_option linter.unusedSimpArgs false
namespace Go.Proofs.YtgcdhfpbmcfedaaGreatDoor.pf
open Go.RowKit Go.Proofs.YtgcdhfpbmcfedaaGreatDoor.oc Go.Proofs.YtgcdhfpbmcfedaaGreatDoor.mz Go.Proofs.YtgcdhfpbmcfedaaGreatDoor.wh Go.Proofs.YtgcdhfpbmcfedaaGreatDoor.qk
/-- rows of noughts, looked for in one walk: the row that goes on, where the longest began, how long it is -/
def lrow (nm : Nat → Nat) : Nat → Nat × Nat × Nat
  | 0 => (0, 0, 0)
  | k + 1 =>
    let p := lrow nm k
    let r := if nm k = 0 then p.1 + 1 else 0
    if max p.2.2 1 < r then (r, k + 1 - r, r) else (r, p.2.1, p.2.2)
theorem lrow_le (nm : Nat → Nat) : ∀ k, (lrow nm k).1 ≤ k ∧ (lrow nm k).2.1 + (lrow nm k).2.2 ≤ k
  | 0 => by simp [lrow]
  | k + 1 => by
    have ih := lrow_le nm k
    simp only [lrow]
    by_cases h0 : nm k = 0
    · simp only [if_pos h0]
      split
      · constructor <;> (try simp only) <;> omega
      · constructor <;> (try simp only) <;> omega
    · simp only [if_neg h0]
      split
      · omega
      · constructor <;> (try simp only) <;> omega
theorem lrow_congr {f g : Nat → Nat} : ∀ k, (∀ i, i < k → (f i = 0 ↔ g i = 0)) → lrow f k = lrow g k
  | 0, _ => rfl
  | k + 1, h => by
    have ih := lrow_congr k (fun i hi => h i (by omega))
    have hk := h k (by omega)
    simp only [lrow, ih]
    by_cases h0 : f k = 0
    · rw [if_pos h0, if_pos (hk.1 h0)]
    · rw [if_neg h0, if_neg (fun z => h0 (hk.2 z))]
theorem zr_congr {f g : Nat → Nat} : ∀ n i, (∀ j, i ≤ j → j < i + n → (f j = 0 ↔ g j = 0)) → zr f n i = zr g n i
  | 0, _, _ => rfl
  | n + 1, i, h => by
    have ih := zr_congr n (i + 1) (fun j h1 h2 => h j (by omega) (by omega))
    have hi := h i (by omega) (by omega)
    simp only [zr, ih]
    by_cases h0 : f i = 0
    · rw [if_pos h0, if_pos (hi.1 h0)]
    · rw [if_neg h0, if_neg (fun z => h0 (hi.2 z))]
theorem rowUp_congr {f g : Nat → Nat} (h : ∀ i, i < 8 → (f i = 0 ↔ g i = 0)) : ∀ k, k ≤ 8 → rowUp f k = rowUp g k
  | 0, _ => rfl
  | k + 1, hk => by
    have ih := rowUp_congr h k (by omega)
    have hz : zrun f k = zrun g k := zr_congr _ _ (fun j h1 h2 => h j (by omega))
    simp only [rowUp, ih, hz]
def pat (m i : Nat) : Nat := m / 2 ^ i % 2
theorem rows_pat : ∀ m : Fin 256, (lrow (pat m.val) 8).2 = if 1 < (rowUp (pat m.val) 8).2 then rowUp (pat m.val) 8 else (0, 0) := by decide +kernel
theorem pat_of (f : Nat → Nat) : ∃ m : Fin 256, ∀ i, i < 8 → (f i = 0 ↔ pat m.val i = 0) := by
  obtain ⟨b, hb, hz⟩ : ∃ b : Nat → Nat, (∀ i, b i < 2) ∧ ∀ i, (f i = 0 ↔ b i = 0) := ⟨fun i => if f i = 0 then 0 else 1, fun i => by show (if f i = 0 then 0 else 1) < 2; split <;> omega, fun i => by show (f i = 0 ↔ (if f i = 0 then 0 else 1) = 0); split <;> simp_all⟩
  have h0 := hb 0; have h1 := hb 1; have h2 := hb 2; have h3 := hb 3; have h4 := hb 4; have h5 := hb 5; have h6 := hb 6; have h7 := hb 7
  refine ⟨⟨b 0 + 2 * b 1 + 4 * b 2 + 8 * b 3 + 16 * b 4 + 32 * b 5 + 64 * b 6 + 128 * b 7, by omega⟩, fun i hi => ?_⟩
  rw [hz i]
  unfold pat
  simp only
  clear hz hb
  rcases (show i = 0 ∨ i = 1 ∨ i = 2 ∨ i = 3 ∨ i = 4 ∨ i = 5 ∨ i = 6 ∨ i = 7 by omega) with rfl | rfl | rfl | rfl | rfl | rfl | rfl | rfl <;> simp only [Nat.reducePow] <;> omega
/-- both ways of looking find the same -/
theorem rows_same (f : Nat → Nat) : (lrow f 8).2 = if 1 < (rowUp f 8).2 then rowUp f 8 else (0, 0) := by
  obtain ⟨m, hm⟩ := pat_of f
  rw [lrow_congr 8 hm, rowUp_congr hm 8 (Nat.le_refl _)]
  exact rows_pat m
section
variable (w : World)
set_option maxRecDepth 100000 in
set_option maxHeartbeats 4000000 in
theorem longestrow_ (ns : List Nat) (A : Option Addr) (cap : Nat) (hl : ns.length ≤ 8)
    (hA : ∀ k x, ns[k]? = some x → ∃ g o, A = some ⟨g, o, none⟩ ∧ w.cell? ⟨g, o + k, none⟩ = some (.int .u64 ((x : Nat) : Int))) :
    Calls Tryz.prog 68 #[.slice A ns.length cap] w fun e w' => e = .returned (.tuple #[.int .i64 (((lrow (fun i => ns[i]?.getD 0) ns.length).2.1 : Nat) : Int), .int .i64 (((lrow (fun i => ns[i]?.getD 0) ns.length).2.2 : Nat) : Int)]) ∧ w = w' := by
  obtain ⟨nm, hnm⟩ : ∃ nm : Nat → Nat, nm = fun i => ns[i]?.getD 0 := ⟨_, rfl⟩
  rw [← hnm]
  have HA := Lib.hid (show ∀ k, k < ns.length → ∃ g o, A = some ⟨g, o, none⟩ ∧ w.cell? ⟨g, o + k, none⟩ = some (.int .u64 ((nm k : Nat) : Int)) from fun k hk => by
    obtain ⟨g, o, h1, h2⟩ := hA k _ (List.getElem?_eq_getElem hk)
    exact ⟨g, o, h1, by rw [hnm, h2]; simp [hk]⟩)
  generalize ns.length = m at *
  clear hnm hA
  go_enter Tryz.func68, Tryz.ntmps68
  go_wp2_with fail
  go_loopw [2, 3, 4, 9] (fun fr n row i wr => ∃ (k : Nat), k ≤ m ∧ i = .int .i64 (k : Int) ∧ fr = .int .i64 (((lrow nm k).2.1 : Nat) : Int) ∧ n = .int .i64 (((lrow nm k).2.2 : Nat) : Int) ∧ row = .int .i64 (((lrow nm k).1 : Nat) : Int) ∧ w = wr) (fun _ _ _ i _ => 20 - (intOf i).toNat)
  case atStart => exact ⟨0, by omega, rfl, rfl, rfl, rfl, rfl⟩
  case round =>
    obtain ⟨k, hkm, rfl, rfl, rfl, rfl, rfl⟩ := hrel
    have hle := lrow_le nm k
    obtain ⟨r, hr⟩ : ∃ r, r = (lrow nm k).1 := ⟨_, rfl⟩
    obtain ⟨f, hf⟩ : ∃ f, f = (lrow nm k).2.1 := ⟨_, rfl⟩
    obtain ⟨n, hn⟩ : ∃ n, n = (lrow nm k).2.2 := ⟨_, rfl⟩
    rw [← hr, ← hf, ← hn]
    rw [← hr, ← hf, ← hn] at hle
    have hst : lrow nm (k + 1) = if max n 1 < (if nm k = 0 then r + 1 else 0) then ((if nm k = 0 then r + 1 else 0), k + 1 - (if nm k = 0 then r + 1 else 0), (if nm k = 0 then r + 1 else 0)) else ((if nm k = 0 then r + 1 else 0), f, n) := by rw [hr, hf, hn]; rfl
    have HST := Lib.hid hst
    have HR := Lib.hid (And.intro hr (And.intro hf hn))
    clear hst hr hf hn
    have k0 : (0 : Int) ≤ (k : Int) := by omega
    have k8 : (k : Int) ≤ 8 := by omega
    have r0 : (0 : Int) ≤ (r : Int) := by omega
    have r8 : (r : Int) ≤ 8 := by omega
    have n0 : (0 : Int) ≤ (n : Int) := by omega
    have f0 : (0 : Int) ≤ (f : Int) := by omega
    have HLE := Lib.hid (And.intro hle hl)
    clear hle
    by_cases hlt : k < m
    · have hlt' : (k : Int) < (m : Int) := by omega
      obtain ⟨g, o, rfl, xk⟩ := HA.out k hlt
      obtain ⟨mx, hmx⟩ : ∃ mx, mx = max n 1 := ⟨_, rfl⟩
      have hmax : (if (n : Int) < 1 then 1 else (n : Int)) = (mx : Int) := by split <;> omega
      have HMX := Lib.hid hmx
      clear hmx
      by_cases h0 : nm k = 0
      · rw [h0] at xk
        have HZ := Lib.hid h0
        clear h0
        by_cases hgt : mx < r + 1
        · have hgt' : (mx : Int) < (r : Int) + 1 := by omega
          have HG := Lib.hid hgt
          clear hgt
          go_wp2_with fail
          go_roundw
          case rel =>
            refine ⟨k + 1, by omega, by go_num, ?_, ?_, ?_, trivial⟩ <;> (rw [HST.out, if_pos HZ.out, if_pos (by rw [← HMX.out]; exact HG.out)]; try (have := HLE.out; go_num))
          case measure => simp [intOf]; omega
        · have hgt' : ¬ (mx : Int) < (r : Int) + 1 := by omega
          have HG := Lib.hid hgt
          clear hgt
          go_wp2_with fail
          go_roundw
          case rel =>
            refine ⟨k + 1, by omega, by go_num, ?_, ?_, ?_, trivial⟩ <;> (rw [HST.out, if_pos HZ.out, if_neg (by rw [← HMX.out]; exact HG.out)]; try (have := HLE.out; go_num))
          case measure => simp [intOf]; omega
      · have hne : ¬ ((nm k : Nat) : Int) = 0 := by omega
        have hz1 : ((nm k : Nat) : Int) ≠ 0 := hne
        have HZ := Lib.hid h0
        have hgt' : ¬ (mx : Int) < 0 := by omega
        clear h0
        generalize nm k = x at *
        go_wp2_with fail
        go_roundw
        case rel =>
          refine ⟨k + 1, by omega, by go_num, ?_, ?_, ?_, trivial⟩ <;> (rw [HST.out, if_neg HZ.out, if_neg (by omega)]; try go_num)
        case measure => simp [intOf]; omega
    · have hkm2 : k = m := by omega
      subst hkm2
      have hlt' : ¬ (k : Int) < (k : Int) := by omega
      go_wp2
      go_ret2
      exact ⟨by rw [HR.out.2.1, HR.out.2.2]; rfl, rfl⟩
end
end Go.Proofs.YtgcdhfpbmcfedaaGreatDoor.pf
end
section
namespace Go.Proofs.YtgcdhfpbmcfedaaGreatDoor.oc
/-- bytes as a number, the highest first -/
def num (bs : List Nat) : Nat := bs.foldl (fun v x => v * 256 + x) 0
theorem num_snoc (bs : List Nat) (x : Nat) : num (bs ++ [x]) = num bs * 256 + x := by simp [num]
theorem num_go (bs : List Nat) (h : Small bs) (v : Nat) : bs.foldl (fun v x => v * 256 + x) v < (v + 1) * 256 ^ bs.length := by
  induction bs generalizing v with
  | nil => simp
  | cons x r ih =>
    have h1 := ih (fun y hy => h y (List.mem_cons_of_mem _ hy)) (v * 256 + x)
    have h2 := h x (by simp)
    rw [List.foldl_cons, List.length_cons, Nat.pow_succ]
    have h3 : (v * 256 + x + 1) * 256 ^ r.length ≤ ((v + 1) * 256) * 256 ^ r.length := Nat.mul_le_mul_right _ (by omega)
    rw [Nat.mul_comm (256 ^ r.length) 256, ← Nat.mul_assoc]
    omega
theorem num_lt (bs : List Nat) (h : Small bs) : num bs < 256 ^ bs.length := by
  have := num_go bs h 0
  simpa [num] using this
theorem num_lt8 (bs : List Nat) (h : Small bs) (hl : bs.length ≤ 8) : num bs < 18446744073709551616 := by
  have h1 := num_lt bs h
  have h2 : 256 ^ bs.length ≤ 256 ^ 8 := Nat.pow_le_pow_right (by omega) hl
  omega

/-- the k lowest bytes of a number, the highest of them first -/
def be : Nat → Nat → List Nat
  | 0, _ => []
  | k + 1, v => (v / 256 ^ k % 256) :: be k v
/-- one byte more is laid ahead of those that lie -/
theorem put_step (bs : List Nat) (n j k v : Nat) (hn : bs.length = n) :
    (by_ bs ++ List.replicate (j + 1) (Value.int .u8 0) ++ by_ (be k v)).set (n + j) (.int .u8 ((v / 256 ^ k % 256 : Nat) : Int)) =
      by_ bs ++ List.replicate j (Value.int .u8 0) ++ by_ (be (k + 1) v) := by
  subst hn
  rw [List.replicate_succ', ← List.append_assoc, List.append_assoc _ [_] _]
  rw [List.set_append_right _ _ (by simp [by_length])]
  simp [by_, be]
theorem put_at (bs : List Nat) (n j k v : Nat) (hn : bs.length = n) :
    (by_ bs ++ List.replicate (j + 1) (Value.int .u8 0) ++ by_ (be k v))[n + j]? = some (.int .u8 0) := by
  subst hn
  rw [List.append_assoc, List.getElem?_append_right (by simp [by_length])]
  rw [List.getElem?_append_left (by simp [by_length])]
  simp [by_length]
theorem put_start {w : World} {g n m : Nat} {t : TypeId} {bs : List Nat} {v : Nat} (h : w.heap[g]? = some (.cells (splice (List.replicate (n + m) (Value.int .u8 0)) 0 (by_ bs)).toArray t (0, 0))) (hn : bs.length = n) :
    Blk w g t (by_ bs ++ List.replicate m (Value.int .u8 0) ++ by_ (be 0 v)) := by
  subst hn
  unfold Blk
  rw [h]
  simp [splice, be, by_]
theorem div_step (v k : Nat) : v / 256 ^ k / 256 = v / 256 ^ (k + 1) := by rw [Nat.div_div_eq_div_mul, Nat.pow_succ]
end Go.Proofs.YtgcdhfpbmcfedaaGreatDoor.oc
end
