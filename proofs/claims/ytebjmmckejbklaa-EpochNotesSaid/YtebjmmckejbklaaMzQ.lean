/-
  A play of the reference's machine, plainly.
-/
import Derived.Test.YtebjmmckejbklaaMzP
namespace Go.Proofs.Ytebjmmckejbklaa.mz
structure Pl where
  ths : List Th
  ws : List (List Nat)
  trace : List (Nat × Nat × Nat)
def Pl.over (p : Pl) (k : Nat) : Bool := match p.ths[k]? with | some t => t.over | none => true
/-- one operation of thread k -/
def Pl.turn (n : Nat) (p : Pl) (k : Nat) : Option Pl :=
  match p.ths[k]? with
  | some t => if t.call < t.calls.length then match t.op n p.ws with
    | some (t', ws', m) => some ⟨p.ths.set k t', ws', p.trace ++ [(k, m.1, m.2)]⟩
    | none => none else none
  | none => none
/-- all threads from k on go up to their first operation -/
def Pl.starts (n : Nat) : Nat → Nat → Pl → Option Pl
  | 0, _, p => some p
  | f + 1, k, p => match p.ths[k]? with
    | some t => match t.on n with
      | some t' => Pl.starts n f (k + 1) { p with ths := p.ths.set k t' }
      | none => none
    | none => none
/-- turns by an order -/
def Pl.byOrder (n : Nat) : List Int → Pl → Option Pl
  | [], p => some p
  | k :: ks, p =>
    if 16384 ≤ p.trace.length then none
    else if k < 0 ∨ (p.ths.length : Int) ≤ k ∨ p.over k.toNat = true then Pl.byOrder n ks p
    else match p.turn n k.toNat with
      | some p' => Pl.byOrder n ks p'
      | none => none
/-- one round, f threads from k on: had anybody a turn? -/
def Pl.round (n : Nat) : Nat → Nat → Bool → Pl → Option (Bool × Pl)
  | 0, _, b, p => some (b, p)
  | f + 1, k, b, p =>
    if 16384 ≤ p.trace.length then none
    else if p.over k = true then Pl.round n f (k + 1) b p
    else match p.turn n k with
      | some p' => Pl.round n f (k + 1) true p'
      | none => none
/-- round and round -/
def Pl.rounds (n : Nat) : Nat → Pl → Option Pl
  | 0, _ => none
  | f + 1, p => match Pl.round n p.ths.length 0 false p with
    | some (true, p') => Pl.rounds n f p'
    | some (false, p') => some p'
    | none => none
/-- a thread that has not begun -/
def Th.fresh (calls : List (List Ins × List Nat)) : Th := ⟨calls, 0, 0, List.replicate 24 0, [], false⟩
/-- a play -/
def plays (n f : Nat) (ws : List (List Nat)) (order : List Int) (threads : List (List (List Ins × List Nat))) : Option Pl :=
  match Pl.starts n threads.length 0 ⟨threads.map Th.fresh, ws, []⟩ with
  | some p => match Pl.byOrder n order p with
    | some p' => Pl.rounds n f p'
    | none => none
  | none => none
/-- where nobody had a turn all are over, and nothing has turned -/
theorem round_none {n : Nat} : ∀ (f k : Nat) (b : Bool) (p p' : Pl), Pl.round n f k b p = some (false, p') → b = false ∧ p' = p ∧ ∀ j, k ≤ j → j < k + f → p.over j = true
  | 0, k, b, p, p', h => by
    simp only [Pl.round, Option.some.injEq, Prod.mk.injEq] at h
    exact ⟨h.1, h.2.symm, fun j h1 h2 => by omega⟩
  | f + 1, k, b, p, p', h => by
    unfold Pl.round at h
    split at h
    · cases h
    · split at h
      · rename_i ho
        obtain ⟨h1, h2, h3⟩ := round_none f (k + 1) b p p' h
        refine ⟨h1, h2, fun j j1 j2 => ?_⟩
        rcases Nat.eq_or_lt_of_le j1 with e | e
        · subst e; exact ho
        · exact h3 j (by omega) (by omega)
      · split at h
        · have := (round_none f (k + 1) true _ p' h).1
          cases this
        · cases h
theorem starts_trace {n : Nat} : ∀ (f k : Nat) (p p' : Pl), Pl.starts n f k p = some p' → p'.trace = p.trace
  | 0, k, p, p', h => by simp only [Pl.starts, Option.some.injEq] at h; rw [h]
  | f + 1, k, p, p', h => by
    unfold Pl.starts at h
    split at h
    · split at h
      · have := starts_trace f (k + 1) _ p' h; simpa using this
      · cases h
    · cases h
theorem turn_len {n k : Nat} {p p' : Pl} (h : p.turn n k = some p') : p'.ths.length = p.ths.length := by
  unfold Pl.turn at h
  split at h
  · split at h
    · split at h
      · cases h; simp
      · cases h
    · cases h
  · cases h
end Go.Proofs.Ytebjmmckejbklaa.mz
