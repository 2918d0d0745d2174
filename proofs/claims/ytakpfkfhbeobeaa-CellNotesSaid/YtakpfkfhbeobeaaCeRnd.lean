/-
  A round of CellNotes: what the loops' heads find.
-/
import Derived.Test.YtakpfkfhbeobeaaCeWk
import Derived.Test.YtakpfkfhbeobeaaRf3d
import Derived.Test.YtakpfkfhbeobeaaRf3w
import Derived.Test.YtakpfkfhbeobeaaMzSame
set_option linter.unusedVariables false
namespace Go.Proofs.Ytakpfkfhbeobeaa.ce
open Go.RowKit Go.Proofs.Ytakpfkfhbeobeaa.oc Go.Proofs.Ytakpfkfhbeobeaa.mz Go.Proofs.Ytakpfkfhbeobeaa.rf3
structure Rnd (w wr : World) (arg : List Value) (C L B P PX X : Nat) (c x v n : Nat) (wv lv : Value) (m q : Nat) : Prop where
  cl : ∃ E, Cl wr C L B E c x v n
  arg : Blk wr P 26 arg
  obj : Blk wr PX 31 [.pointer (some ⟨C, 0, none⟩), .pointer (some ⟨L, 0, none⟩), .pointer (some ⟨B, 0, none⟩)]
  world : Blk wr X 36 [wv, lv]
  read : ∀ w'', Keeps (fun b => b = C ∨ b = L ∨ b = B ∨ b = X) wr w'' → IsWords w'' w''.heap.size wv [[c], [x], [box n v]] ∧ IsLists w'' w''.heap.size lv m
  small : m < 1000000
  fit : c < 18446744073709551616 ∧ x < 2 ∧ v < 4294967296 ∧ n ≤ q
  new : w.heap.size ≤ C ∧ w.heap.size ≤ L ∧ w.heap.size ≤ B ∧ w.heap.size ≤ X
  keep : Keeps (fun b => w.heap.size ≤ b) w wr
section
variable {w wr : World} {arg : List Value} {C L B P PX X c x v n m q : Nat} {wv lv : Value}
theorem Rnd.more {q' : Nat} (h : Rnd w wr arg C L B P PX X c x v n wv lv m q) (hq : q ≤ q') : Rnd w wr arg C L B P PX X c x v n wv lv m q' :=
  ⟨h.cl, h.arg, h.obj, h.world, h.read, h.small, ⟨h.fit.1, h.fit.2.1, h.fit.2.2.1, by have := h.fit.2.2.2; omega⟩, h.new, h.keep⟩
theorem Rnd.lt (h : Rnd w wr arg C L B P PX X c x v n wv lv m q) : C < wr.heap.size ∧ L < wr.heap.size ∧ B < wr.heap.size ∧ X < wr.heap.size ∧ P < wr.heap.size ∧ PX < wr.heap.size := by
  obtain ⟨E, h1⟩ := h.cl
  exact ⟨h1.lt.1, h1.lt.2.1, h1.lt.2.2.1, h.world.lt, h.arg.lt, h.obj.lt⟩
theorem Rnd.apart (h : Rnd w wr arg C L B P PX X c x v n wv lv m q) : (X ≠ C ∧ X ≠ L ∧ X ≠ B) ∧ (P ≠ C ∧ P ≠ L ∧ P ≠ B ∧ P ≠ X) ∧ (PX ≠ C ∧ PX ≠ L ∧ PX ≠ B ∧ PX ≠ X) := by
  obtain ⟨E, h1⟩ := h.cl
  exact ⟨⟨blk_ne h.world h1.cnt.1 (by decide), blk_ne h.world h1.flg (by decide), blk_ne h.world h1.box.1 (by decide)⟩, ⟨blk_ne h.arg h1.cnt.1 (by decide), blk_ne h.arg h1.flg (by decide), blk_ne h.arg h1.box.1 (by decide), blk_ne h.arg h.world (by decide)⟩,
    ⟨blk_ne h.obj h1.cnt.1 (by decide), blk_ne h.obj h1.flg (by decide), blk_ne h.obj h1.box.1 (by decide), blk_ne h.obj h.world (by decide)⟩⟩
theorem round_end {wa wz wk : World} {E' c' x' v' n' m' : Nat} {s1 s2 : Value} (HR : Rnd w wr arg C L B P PX X c x v n wv lv m q) (hr : Cl wa C L B E' c' x' v' n') (kra : Keeps (fun b => b = C ∨ b = L ∨ b = B) wr wa) (kaz : ∀ S, Keeps S wa wz) (kzk : ∀ S, Keeps S wz wk) (hb : Blk wk X 36 [wv, lv])
    (hz : ∀ w'', Keeps (fun b => b < wr.heap.size) wz w'' → IsWords w'' w''.heap.size s1 [[c'], [x'], [box n' v']] ∧ IsLists w'' w''.heap.size s2 m') (hm : m' < 1000000) (hf : c' < 18446744073709551616 ∧ x' < 2 ∧ v' < 4294967296 ∧ n' ≤ n + 1) :
    Rnd w ((wk.setCell ⟨X, 0, none⟩ s1).setCell ⟨X, 1, none⟩ s2) arg C L B P PX X c' x' v' n' s1 s2 m' (q + 1) := by
  have hn := HR.new
  have hlt := HR.lt
  have hap := HR.apart
  have kak : Keeps (fun _ => False) wa wk := (kaz _).trans (kzk _)
  have clk := hr.keeps kak id id id id
  have hE : E' ≠ X := blk_ne clk.box.2.1 hb (by decide)
  have kf : Keeps (· = X) wk ((wk.setCell ⟨X, 0, none⟩ s1).setCell ⟨X, 1, none⟩ s2) := (Keeps.here s1).trans (Keeps.here s2)
  have bw : Blk ((wk.setCell ⟨X, 0, none⟩ s1).setCell ⟨X, 1, none⟩ s2) X 36 [s1, s2] := by simpa using (hb.put 0 s1).put 1 s2
  generalize (wk.setCell ⟨X, 0, none⟩ s1).setCell ⟨X, 1, none⟩ s2 = wf at *
  have kall : Keeps (fun b => b = C ∨ b = L ∨ b = B ∨ b = X) wr wf := ((kra.mono (fun b _ z => by omega)).trans (kak.mono (fun _ _ z => z.elim))).trans (kf.mono (fun b _ z => by omega))
  exact ⟨⟨E', clk.keeps kf hap.1.1.symm hap.1.2.1.symm hap.1.2.2.symm hE⟩, Blk.keeps HR.arg kall (by omega), Blk.keeps HR.obj kall (by omega), bw, fun w'' kk => hz w'' (((kzk _).trans (kf.mono (fun b _ z => by omega))).trans (kk.mono (fun b _ z => by omega))), hm, ⟨hf.1, hf.2.1, hf.2.2.1, by have := HR.fit.2.2.2; omega⟩, hn, HR.keep.trans (kall.mono (fun b _ z => by omega))⟩
end
theorem lit3 (w : World) (c f y : Nat) : ∀ (i z : Nat), [c, f, y][i]? = some z → (w.alloc (.cells #[.int .u64 (c : Int), .int .u64 (f : Int), .int .u64 (y : Int)] 22)).cell? ⟨w.heap.size, i, none⟩ = some (.int .u64 (z : Int)) := fun i z h => by
  rw [(Blk.new w 22 #[.int .u64 (c : Int), .int .u64 (f : Int), .int .u64 (y : Int)]).cell]
  match i, h with
  | 0, h => simp at h; subst h; rfl
  | 1, h => simp at h; subst h; rfl
  | 2, h => simp at h; subst h; rfl
  | i + 3, h => simp at h
end Go.Proofs.Ytakpfkfhbeobeaa.ce
