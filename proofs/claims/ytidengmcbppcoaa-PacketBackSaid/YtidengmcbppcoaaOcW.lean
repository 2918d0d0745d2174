/-
  Words for memory: a slice whose cells are known ('Rd'), bytes ('by_'), and what keeps them. Nothing of the program's functions.
-/
import Derived.WalkKit
import Derived.Laws.OwnMore
import Derived.Deep.Draws
import Derived.Deep.AppendLies
namespace Go.Proofs.Ytidengmcbppcoaa.oc
open Go.RowKit

theorem ret_int {k : IntKind} {a b : Int} (h : a = b) : Ending.returned (.int k a) = Ending.returned (.int k b) := by rw [h]
theorem ret_bool {a b : Bool} (h : a = b) : Ending.returned (.bool a) = Ending.returned (.bool b) := by rw [h]
/-- the slice's address A shows the cells xs, in blocks below B -/
def Rd (w : World) (B : Nat) (A : Option Addr) (xs : List Value) : Prop :=
  ∀ k v, xs[k]? = some v → ∃ b o, A = some ⟨b, o, none⟩ ∧ b < B ∧ w.cell? ⟨b, o + k, none⟩ = some v

/-- bytes as cells -/
def by_ (bs : List Nat) : List Value := bs.map (fun x : Nat => Value.int .u8 (x : Int))
/-- all below 256 -/
def Small (bs : List Nat) : Prop := ∀ x, x ∈ bs → x < 256

theorem by_length (bs : List Nat) : (by_ bs).length = bs.length := by simp [by_]
theorem by_at {bs : List Nat} {k x : Nat} (h : bs[k]? = some x) : (by_ bs)[k]? = some (.int .u8 (x : Int)) := by simp [by_, h]
theorem by_append (a b : List Nat) : by_ (a ++ b) = by_ a ++ by_ b := by simp [by_]
theorem by_one (bs : List Nat) : ∀ u ∈ by_ bs, u.oneCell' = true := by
  intro u hu
  simp only [by_, List.mem_map] at hu
  obtain ⟨x, _, rfl⟩ := hu
  rfl
theorem Small.at_ {bs : List Nat} (h : Small bs) {k x : Nat} (hx : bs[k]? = some x) : x < 256 := h x (List.mem_of_getElem? hx)
theorem Small.append {a b : List Nat} (ha : Small a) (hb : Small b) : Small (a ++ b) := by
  intro x hx
  rcases List.mem_append.1 hx with h | h
  · exact ha x h
  · exact hb x h
theorem Small.take {a : List Nat} (ha : Small a) (n : Nat) : Small (a.take n) := fun x hx => ha x (List.mem_of_mem_take hx)
theorem Small.drop {a : List Nat} (ha : Small a) (n : Nat) : Small (a.drop n) := fun x hx => ha x (List.mem_of_mem_drop hx)
theorem Small.nil : Small [] := fun x hx => by cases hx
theorem Small.one {x : Nat} (h : x < 256) : Small [x] := fun y hy => by simp at hy; omega

theorem getq {bs : List Nat} {k : Nat} (h : k < bs.length) : bs[k]? = some (bs.getD k 0) := by
  rw [List.getElem?_eq_getElem h]; simp [List.getD, List.getElem?_eq_getElem h]
theorem getp {ps : List (List Nat)} {k : Nat} (h : k < ps.length) : ps[k]? = some (ps.getD k []) := by
  rw [List.getElem?_eq_getElem h]; simp [List.getD, List.getElem?_eq_getElem h]
theorem flat_snoc {ps : List (List Nat)} {k : Nat} {bs : List Nat} (h : ps[k]? = some bs) : (ps.take (k + 1)).flatten = (ps.take k).flatten ++ bs := by
  rw [List.take_add_one, h]; simp
theorem flat_le (ps : List (List Nat)) (k : Nat) : (ps.take k).flatten.length ≤ ps.flatten.length := by
  have h : ps.flatten.length = (ps.take k).flatten.length + (ps.drop k).flatten.length := by
    rw [← List.length_append, ← List.flatten_append, List.take_append_drop]
  omega
theorem take_snoc {bs : List Nat} {k x : Nat} (h : bs[k]? = some x) : bs.take (k + 1) = bs.take k ++ [x] := by
  rw [List.take_add_one, h]; rfl

section
variable {w w' : World} {B B' : Nat} {A : Option Addr} {xs : List Value}
theorem Rd.nil_ : Rd w B A [] := fun k v h => by simp at h
theorem Rd.byte {bs : List Nat} (h : Rd w B A (by_ bs)) {k x : Nat} (hx : bs[k]? = some x) : ∃ b o, A = some ⟨b, o, none⟩ ∧ b < B ∧ w.cell? ⟨b, o + k, none⟩ = some (.int .u8 (x : Int)) :=
  h k _ (by_at hx)
theorem Rd.keep (h : Rd w B A xs) (hk : ∀ p : Addr, p.block < B → w'.cell? p = w.cell? p) : Rd w' B A xs := fun k v hv => by
  obtain ⟨b, o, e, hb, hc⟩ := h k v hv
  exact ⟨b, o, e, hb, (hk ⟨b, o + k, none⟩ hb).trans hc⟩
theorem Rd.more (h : Rd w B A xs) (hB : B ≤ B') : Rd w B' A xs := fun k v hv => by
  obtain ⟨b, o, e, hb, hc⟩ := h k v hv
  exact ⟨b, o, e, by omega, hc⟩
theorem Rd.below (h : Rd w B A xs) (hb : Below B w w') : Rd w' B A xs := h.keep fun _ hp => hb.cell hp
theorem Rd.drew (h : Rd w B A xs) : Rd w.drew B A xs := h
theorem Rd.drewN (h : Rd w B A xs) (k : Nat) : Rd (w.drewN k) B A xs := h
theorem Rd.alloc (h : Rd w B A xs) (hB : B ≤ w.heap.size) (o : Obj) : Rd (w.alloc o) B A xs := h.keep fun p hp => World.cell?_alloc_lt w o p (by omega)
theorem Rd.setCell (h : Rd w B A xs) {p : Addr} (hB : B ≤ p.block) (u : Value) : Rd (w.setCell p u) B A xs :=
  h.keep fun q hq => World.cell?_setCell_other w p q u (fun e => by subst e; omega)
theorem Rd.grown (h : Rd w B A xs) {row : Option Nat} (hg : w.grownBy w' row) (hB : B ≤ w.heap.size) (hr : ∀ g, row = some g → B ≤ g) : Rd w' B A xs :=
  h.keep fun p hp => World.cell?_of_block (hg.block p.block (by omega) (fun e => by have := hr _ e.symm; omega))
theorem Rd.take (h : Rd w B A xs) (n : Nat) : Rd w B A (xs.take n) := fun k v hv => h k v (by
  rw [List.getElem?_take] at hv
  split at hv
  · exact hv
  · cases hv)
/-- a cut from k on, as the model writes its address -/
theorem Rd.cut (h : Rd w B A xs) {k cap : Nat} (hc : xs.length ≤ cap) : Rd w B (if cap = k then A else A.map (·.add k)) (xs.drop k) := fun j v hv => by
  rw [List.getElem?_drop] at hv
  have hl : k + j < xs.length := (List.getElem?_eq_some_iff.1 hv).1
  obtain ⟨b, o, rfl, hb, hcell⟩ := h _ _ hv
  rw [if_neg (by omega)]
  refine ⟨b, o + k, by simp [Addr.add_lit], hb, ?_⟩
  rw [Nat.add_assoc]
  exact hcell
theorem Rd.own {base n : Nat} {e : TypeId} {c : Nat} (h : w.ownsRow base e 1 (.slice A n c) n xs) : Rd w w.heap.size A xs := fun k v hv => by
  have hn : 0 < n := by
    have h1 := h.1
    have hl := (List.getElem?_eq_some_iff.1 hv).1
    omega
  obtain ⟨g, cap, hv', _, hlt⟩ := h.form hn
  have hA : A = some ⟨g, 0, none⟩ := by injection hv'
  subst hA
  exact ⟨g, 0, rfl, hlt, by have := h.cells (g := g) rfl k v hv; rwa [Addr.add_lit] at this⟩
/-- a slice of slices of bytes: its address P shows the slices of bytes ps -/
def Pt (w : World) (B : Nat) (P : Option Addr) (ps : List (List Nat)) : Prop :=
  ∀ k bs, ps[k]? = some bs → ∃ b o A c, P = some ⟨b, o, none⟩ ∧ b < B ∧ w.cell? ⟨b, o + k, none⟩ = some (.slice A bs.length c) ∧ Rd w B A (by_ bs)
theorem Pt.keep {P : Option Addr} {ps : List (List Nat)} (h : Pt w B P ps) (hk : ∀ p : Addr, p.block < B → w'.cell? p = w.cell? p) : Pt w' B P ps := fun k bs hv => by
  obtain ⟨b, o, A, c, e, hb, hc, hr⟩ := h k bs hv
  exact ⟨b, o, A, c, e, hb, (hk ⟨b, o + k, none⟩ hb).trans hc, hr.keep hk⟩
theorem Pt.more {P : Option Addr} {ps : List (List Nat)} (h : Pt w B P ps) (hB : B ≤ B') : Pt w B' P ps := fun k bs hv => by
  obtain ⟨b, o, A, c, e, hb, hc, hr⟩ := h k bs hv
  exact ⟨b, o, A, c, e, by omega, hc, hr.more hB⟩
theorem Pt.below {P : Option Addr} {ps : List (List Nat)} (h : Pt w B P ps) (hb : Below B w w') : Pt w' B P ps := h.keep fun _ hp => hb.cell hp
/-- the source of a copy or of an append -/
theorem Rd.src (h : Rd w B A xs) (hx : 0 < xs.length) : ∃ ad, A = some ad ∧ ∀ j v, xs[j]? = some v → w.cell? (ad.add j) = some v := by
  obtain ⟨b, o, rfl, hb, hc⟩ := h 0 _ (List.getElem?_eq_getElem hx)
  refine ⟨_, rfl, fun j v hj => ?_⟩
  obtain ⟨b', o', e, _, hc'⟩ := h j v hj
  injection e with e
  injection e with e1 e2
  subst e1
  subst e2
  rw [Addr.add_lit]
  exact hc'
/-- a block known whole -/
def Blk (w : World) (g : Nat) (t : TypeId) (cs : List Value) : Prop := w.heap[g]? = some (.cells cs.toArray t (0, 0))
section
variable {g : Nat} {t : TypeId} {cs : List Value}
theorem Blk.lt (h : Blk w g t cs) : g < w.heap.size := (Array.getElem?_eq_some_iff.1 h).1
theorem Blk.cell (h : Blk w g t cs) (i : Nat) : w.cell? ⟨g, i, none⟩ = cs[i]? := by
  rw [cell_of_row w g i cs.toArray t (0, 0) h]; simp
theorem Blk.frozen (h : Blk w g t cs) (i : Nat) : w.frozen? ⟨g, i, none⟩ = false := by
  unfold Blk at h
  simp [World.frozen?, h]
theorem Blk.new (w : World) (t : TypeId) (cs : Array Value) : Blk (w.alloc (.cells cs t)) w.heap.size t cs.toList := by
  have h := heap_alloc_new w (.cells cs t)
  unfold Blk
  simpa using h
theorem Blk.drew (h : Blk w g t cs) : Blk w.drew g t cs := h
theorem Blk.drewN (h : Blk w g t cs) (n : Nat) : Blk (w.drewN n) g t cs := h
theorem Blk.alloc (h : Blk w g t cs) (o : Obj) : Blk (w.alloc o) g t cs := (Below.heap_alloc w o g h.lt).trans h
theorem Blk.put (h : Blk w g t cs) (i : Nat) (u : Value) : Blk (w.setCell ⟨g, i, none⟩ u) g t (cs.set i u) := by
  unfold Blk at h ⊢
  simp [World.setCell, Array.getElem?_modify, h]
theorem Blk.far (h : Blk w g t cs) {p : Addr} (hp : g ≠ p.block) (u : Value) : Blk (w.setCell p u) g t cs := (Below.heap_setCell w p u g hp).trans h
theorem Blk.below {B : Nat} (h : Blk w g t cs) (hb : Below B w w') (hg : g < B) : Blk w' g t cs := (hb.block g hg).trans h
theorem Blk.grown {row : Option Nat} (h : Blk w g t cs) (hb : w.grownBy w' row) (hg : some g ≠ row) : Blk w' g t cs := (hb.block g h.lt hg).trans h
theorem Blk.rd (h : Blk w g t cs) : Rd w (g + 1) (some ⟨g, 0, none⟩) cs := fun k v hv => ⟨g, 0, rfl, by omega, by rw [Nat.zero_add, h.cell, hv]⟩
theorem Blk.rdAt (h : Blk w g t cs) (o : Nat) : Rd w (g + 1) (some ⟨g, o, none⟩) (cs.drop o) := fun k v hv => ⟨g, o, rfl, by omega, by rw [h.cell, ← hv, List.getElem?_drop]⟩
end
end
end Go.Proofs.Ytidengmcbppcoaa.oc
