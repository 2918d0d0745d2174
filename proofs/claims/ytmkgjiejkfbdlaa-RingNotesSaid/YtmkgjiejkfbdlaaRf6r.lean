/-
  A round of RingNotes: what the loop's head finds.
-/
import Derived.Test.YtmkgjiejkfbdlaaRf6e
set_option linter.unusedVariables false
namespace Go.Proofs.Ytmkgjiejkfbdlaa.rf6
open Go.RowKit Go.Proofs.Ytmkgjiejkfbdlaa.oc Go.Proofs.Ytmkgjiejkfbdlaa.mz Go.Proofs.Ytmkgjiejkfbdlaa.at_ Go.Proofs.Ytmkgjiejkfbdlaa.gt Go.Proofs.Ytmkgjiejkfbdlaa.rg
structure Rnd (w wr : World) (R W n X : Nat) (ws : List Nat) (wv lv : Value) (m : Nat) : Prop where
  ring : Rg wr R W n ws
  world : Blk wr X 46 [wv, lv]
  read : ∀ w'', Keeps (fun b => b = W ∨ b = X) wr w'' → IsWords w'' w''.heap.size wv [ws] ∧ IsLists w'' w''.heap.size lv m
  small : m < 1000000
  ne : R ≠ X ∧ W ≠ X
  new : w.heap.size ≤ R ∧ w.heap.size ≤ W ∧ w.heap.size ≤ X
  keep : Keeps (fun b => w.heap.size ≤ b) w wr
theorem begins {w w1 ww : World} {R W n : Nat} {ws : List Nat} {wv lv : Value} (h : Rg w1 R W n ws) (hR : w.heap.size ≤ R) (hW : w.heap.size ≤ W) (k1 : Keeps (fun b => w.heap.size ≤ b) w w1)
    (hr : ∀ w'', Keeps (fun b => b < w1.heap.size ∨ ww.heap.size ≤ b) ww w'' → IsWords w'' w''.heap.size wv [ws] ∧ IsLists w'' w''.heap.size lv 1) (kw : ∀ S, Keeps S w1 ww) :
    Rnd w (ww.alloc (.cells #[wv, lv] 46)) R W n ww.heap.size ws wv lv 1 := by
  have z1 := h.ltR
  have z2 := h.ltW
  have z3 := (kw (fun _ => False)).size
  have z4 := k1.size
  have ka : ∀ S, Keeps S ww (ww.alloc (.cells #[wv, lv] 46)) := fun S => (Keeps.refl S ww).alloc _
  exact ⟨h.keeps ((kw (fun _ => False)).trans (ka _)) (fun z => z) (fun z => z), Blk.new ww _ _, fun w'' kk => hr w'' ((ka _).trans (kk.mono (fun b _ z => by omega))), by omega, ⟨by omega, by omega⟩, ⟨hR, hW, by omega⟩, (k1.trans (kw _)).trans (ka _)⟩
theorem round_end {w wr wa wz wk : World} {R W n X m m' : Nat} {ws ws' : List Nat} {wv lv s1 s2 : Value} (HR : Rnd w wr R W n X ws wv lv m) (hr : Rg wa R W n ws') (kra : Keeps (fun b => b = W) wr wa) (kaz : ∀ S, Keeps S wa wz) (kzk : ∀ S, Keeps S wz wk) (hb : Blk wk X 46 [wv, lv])
    (hz : ∀ w'', Keeps (fun b => b < wr.heap.size) wz w'' → IsWords w'' w''.heap.size s1 [ws'] ∧ IsLists w'' w''.heap.size s2 m') (hm : m' < 1000000) :
    Rnd w ((wk.setCell ⟨X, 0, none⟩ s1).setCell ⟨X, 1, none⟩ s2) R W n X ws' s1 s2 m' := by
  have hn := HR.new
  have hX := HR.world.lt
  have hW := HR.ring.ltW
  have kf : Keeps (· = X) wk ((wk.setCell ⟨X, 0, none⟩ s1).setCell ⟨X, 1, none⟩ s2) := (Keeps.here s1).trans (Keeps.here s2)
  have bw : Blk ((wk.setCell ⟨X, 0, none⟩ s1).setCell ⟨X, 1, none⟩ s2) X 46 [s1, s2] := by simpa using (hb.put 0 s1).put 1 s2
  generalize (wk.setCell ⟨X, 0, none⟩ s1).setCell ⟨X, 1, none⟩ s2 = wf at *
  have kaf : Keeps (· = X) wa wf := ((kaz _).trans (kzk _)).trans kf
  refine ⟨hr.keeps kaf HR.ne.1 HR.ne.2, bw, fun w'' kk => hz w'' (((kzk _).trans (kf.mono (fun b _ z => by omega))).trans (kk.mono (fun b _ z => by omega))), hm, HR.ne, hn, (HR.keep.trans (kra.mono (fun b _ z => by omega))).trans (kaf.mono (fun b _ z => by omega))⟩
theorem marks_few (n r : Nat) (ws : List Nat) : (marksOf n r ws).length ≤ 100 ∧ marksOf n r ws ≠ [] := by unfold marksOf; (repeat' split) <;> simp
theorem told_few (n r : Nat) (ws : List Nat) : (toldOf n r ws).length ≤ 100 := by unfold toldOf; (repeat' split) <;> simp
end Go.Proofs.Ytmkgjiejkfbdlaa.rf6
