/-
  A gate: none, or notes, its frame told exactly; gates.Tell under it.
-/
import Derived.Test.YtadnkidbglhdlaaGt
set_option linter.unusedVariables false
namespace Go.Proofs.Ytadnkidbglhdlaa.gw
open Go.RowKit Go.Proofs.Ytadnkidbglhdlaa.oc Go.Proofs.Ytadnkidbglhdlaa.mz Go.Proofs.Ytadnkidbglhdlaa.gt
/-- a gate: none, or the notes at N, told ms, that may write in F alone -/
def GF (w : World) (gv : Value) (N : Nat) (ms : List (Nat × Nat)) (F : Nat → Prop) : Prop := gv = .nilIface ∨ (gv = .iface 31 (.pointer (some ⟨N, 0, none⟩)) ∧ NInv w N ms F)
theorem GF.keeps {w w' : World} {gv : Value} {N : Nat} {ms : List (Nat × Nat)} {F S : Nat → Prop} (h : GF w gv N ms F) (k : Keeps S w w') (hs : ∀ b, F b → ¬ S b) : GF w' gv N ms F := by
  rcases h with h | ⟨e, h⟩
  · exact .inl h
  · exact .inr ⟨e, h.keeps k hs⟩
theorem GF.nil_ (w : World) (N : Nat) (ms : List (Nat × Nat)) (F : Nat → Prop) : GF w .nilIface N ms F := .inl rfl
theorem GF.gate {w : World} {gv : Value} {N : Nat} {ms : List (Nat × Nat)} {F : Nat → Prop} (h : GF w gv N ms F) : Gate w gv N ms := by
  rcases h with h | ⟨e, h⟩
  · exact .inl h
  · exact .inr ⟨e, F, h⟩
theorem gate_gf {w : World} {gv : Value} {N : Nat} {ms : List (Nat × Nat)} (h : Gate w gv N ms) : ∃ F, GF w gv N ms F ∧ ∀ b, F b → N ≤ b ∧ b < w.heap.size := by
  rcases h with h | ⟨e, F, h⟩
  · exact ⟨fun _ => False, .inl h, fun b z => z.elim⟩
  · exact ⟨F, .inr ⟨e, h⟩, h.above⟩
theorem grown_twice {w w1 w2 : World} {F : Nat → Prop} (h1 : w.heap.size ≤ w1.heap.size) (h2 : w1.heap.size ≤ w2.heap.size) : Grown w1 w2 (Grown w w1 F) = Grown w w2 F := by
  funext b
  unfold mz.Grown
  apply propext
  constructor
  · rintro ((h | h) | h)
    · exact .inl h
    · exact .inr ⟨h.1, by omega⟩
    · exact .inr ⟨by omega, h.2⟩
  · rintro (h | h)
    · exact .inl (.inl h)
    · rcases Nat.lt_or_ge b w1.heap.size with q | q
      · exact .inl (.inr ⟨h.1, q⟩)
      · exact .inr ⟨q, h.2⟩
/-- one behind the other: what is new in between does not count -/
theorem Keeps.glue {S S' : Nat → Prop} {a b c : World} (h : Keeps S a b) (k : Keeps S' b c) (hs : ∀ x, x < a.heap.size → S' x → S x) : Keeps S a c :=
  ⟨Nat.le_trans h.size k.size, fun x hx hn => (k.block x (by have := h.size; omega) (fun z => hn (hs x hx z))).trans (h.block x hx hn), h.same.trans k.same⟩
theorem grown_not {w w1 : World} {F : Nat → Prop} {b : Nat} (hb : b < w.heap.size) (hF : ¬ F b) : ¬ Grown w w1 F b := by
  rintro (h | h)
  · exact hF h
  · omega
theorem grown_old {w w1 : World} {F : Nat → Prop} {b : Nat} (hb : b < w.heap.size) (h : Grown w w1 F b) : F b := by
  rcases h with h | h
  · exact h
  · omega
theorem gf_tell (gv : Value) (op x N : Nat) (w : World) (ms : List (Nat × Nat)) (F : Nat → Prop) (h : GF w gv N ms F) (hl : ms.length < 1000000) :
    Calls Try.prog 35 #[gv, .int .u8 op, .int .i64 (x : Int)] w fun e w' => e = .returned (.tuple #[]) ∧ GF w' gv N (ms ++ [(op, x)]) (Grown w w' F) ∧ Keeps F w w' := by
  rcases h with rfl | ⟨rfl, h⟩
  · refine (tell_nil op x w).mono ?_
    rintro e w' ⟨rfl, rfl⟩
    exact ⟨rfl, .inl rfl, Keeps.refl _ _⟩
  · refine (tell_notes N op x w ms F h hl).mono ?_
    rintro e w' ⟨rfl, h1, h2⟩
    exact ⟨rfl, .inr ⟨rfl, h1⟩, h2⟩
end Go.Proofs.Ytadnkidbglhdlaa.gw
