/-
  An operation, whichever.
-/
import Derived.Test.YtebjmmckejbklaaMzOp
namespace Go.Proofs.Ytebjmmckejbklaa.mz
open Go.RowKit Go.Proofs.Ytebjmmckejbklaa.oc
theorem op_all (n B g p : Nat) (w : World) (t t' : Th) (ws ws' : List (List Nat)) (k pl : Nat) (F FW : Nat → Prop) (h : TInv w B g t F) (hW : WInv w B p ws FW) (hd : ∀ b, F b → ¬ FW b) (hB : B ≤ w.heap.size) (hc : t.call < t.calls.length) (ho : t.op n ws = some (t', ws', (k, pl))) :
    Calls Try.prog 44 #[.pointer (some ⟨g, 0, none⟩), .pointer (some ⟨p, 0, none⟩)] w (OpPost B g p F FW w t' ws' k pl) := by
  unfold Th.op at ho
  cases hdo : t.does ws with
  | none => rw [hdo] at ho; cases ho
  | some r =>
    obtain ⟨t1, ws1⟩ := r
    rw [hdo] at ho
    simp only at ho
    cases hon : t1.on n with
    | none => rw [hon] at ho; cases ho
    | some t2 =>
      rw [hon] at ho
      simp only [Option.some.injEq, Prod.mk.injEq] at ho
      obtain ⟨rfl, rfl, e3, rfl⟩ := ho
      unfold Th.does at hdo
      simp only at hdo
      split at hdo
      case isFalse => cases hdo
      rename_i hcond
      simp only [Bool.and_eq_true, decide_eq_true_eq] at hcond
      obtain ⟨⟨⟨hfit, h1⟩, h2⟩, h3⟩ := hcond
      split at hdo
      · rename_i hop
        obtain ⟨rfl, rfl⟩ := (by simpa using hdo : _ ∧ _)
        rw [hop] at e3; subst e3
        exact op1 n B g p w t t2 ws F FW h hW hd hB hc t.ins rfl hop hfit h1 h2 h3 hon
      · rename_i hop
        obtain ⟨rfl, rfl⟩ := (by simpa using hdo : _ ∧ _)
        rw [hop] at e3; subst e3
        exact op2 n B g p w t t2 ws F FW h hW hd hB hc t.ins rfl hop hfit h1 h2 h3 hon
      · rename_i hop
        obtain ⟨rfl, rfl⟩ := (by simpa using hdo : _ ∧ _)
        rw [hop] at e3; subst e3
        exact op3 n B g p w t t2 ws F FW h hW hd hB hc t.ins rfl hop hfit h1 h2 h3 hon
      · rename_i hop
        obtain ⟨rfl, rfl⟩ := (by simpa using hdo : _ ∧ _)
        rw [hop] at e3; subst e3
        exact op4 n B g p w t t2 ws F FW h hW hd hB hc t.ins rfl hop hfit h1 h2 h3 hon
      · rename_i hop
        rw [hop] at e3; subst e3
        split at hdo
        · rename_i hcas
          obtain ⟨rfl, rfl⟩ := (by simpa using hdo : _ ∧ _)
          exact op5y n B g p w t t2 ws F FW h hW hd hB hc t.ins rfl hop hfit h1 h2 h3 hcas hon
        · rename_i hcas
          obtain ⟨rfl, rfl⟩ := (by simpa using hdo : _ ∧ _)
          exact op5n n B g p w t t2 ws F FW h hW hd hB hc t.ins rfl hop hfit h1 h2 h3 hcas hon
      · cases hdo
end Go.Proofs.Ytebjmmckejbklaa.mz
