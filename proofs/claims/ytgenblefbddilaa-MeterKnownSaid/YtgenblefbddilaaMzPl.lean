/-
  The reference's machine, plainly: threads, words, plays. Where what a play would do is more than this text tells of (an instruction that it does not know, numbers too great), it answers none. A play of the reference's machine, plainly.
-/
import Derived.Test.YtgenblefbddilaaMzA
namespace Go.Proofs.Ytgenblefbddilaa.mz
/-- the instruction that stands past the end -/
def Ins.fin : Ins := ⟨23, 0, 0, 0, 0, 0, 0⟩
/-- a thread: its calls, which one it is in, where, the registers, what came of the calls, is it over -/
structure Th where
  calls : List (List Ins × List Nat)
  call : Nat
  at_ : Nat
  rs : List Nat
  ans : List (Bool × List Nat)
  over : Bool
def Th.ins (t : Th) : Ins :=
  match t.calls[t.call]? with
  | some c => c.1.getD t.at_ Ins.fin
  | none => Ins.fin
def Th.told (t : Th) : List Nat := (t.ans.getD t.call (false, [])).2
def Ins.fit (x : Ins) : Bool := decide (x.a < 24) && decide (x.b < 24) && decide (x.c < 24) && decide (x.d < 24) && decide (x.n < W64) && (!(decide (18 ≤ x.op) && decide (x.op ≤ 21)) || decide (x.n < 1000000))
/-- which instructions this text tells of -/
def Ins.known (x : Ins) : Bool := [6, 7, 8, 9, 10, 11, 12, 13, 14, 15, 16, 18, 19, 20, 21, 22].contains x.op
/-- what an instruction of the thread's own makes of it -/
def Th.own (t : Th) : Option Th :=
  if t.ins.fit && t.ins.known && decide (t.told.length < 1000) then
    match mz.own [] t.ins ⟨t.at_, t.rs, t.told⟩ with
    | some s => some { t with at_ := s.at_, rs := s.rs, ans := t.ans.set t.call ((t.ans.getD t.call (false, [])).1, s.told) }
    | none => none
  else none
/-- the call is begun, or under way -/
def Th.begun (t : Th) : Th := if t.ans.length = t.call then { t with ans := t.ans ++ [(false, [])] } else t
/-- the call is done -/
def Th.finish (t : Th) : Th := { t with ans := t.ans.set t.call (true, t.told), call := t.call + 1, at_ := 0, rs := List.replicate 24 0 }
def isOp (x : Ins) : Bool := decide (1 ≤ x.op) && decide (x.op ≤ 5)
/-- up to its next operation, or to its end -/
def Th.on : Nat → Th → Option Th
  | 0, _ => none
  | n + 1, t =>
    if t.over then some t
    else if t.calls.length ≤ t.call then some { t with over := true }
    else if isOp t.begun.ins then some t.begun
    else if t.begun.ins.op = 23 then Th.on n t.begun.finish
    else match t.begun.own with
      | some t' => Th.on n t'
      | none => none
/-- a thread is well: of its calls so many have begun -/
structure Th.Wf (t : Th) : Prop where
  rs : t.rs.length = 24
  ans : t.ans.length = t.call ∨ t.ans.length = t.call + 1
  calls : t.calls.length < 1000000
  codes : ∀ c ∈ t.calls, c.1.length < 1000000
/-- where an operation's word lies -/
def Th.place (t : Th) : Nat := (reg t.rs t.ins.b + t.ins.n) % W64
def wordAt (ws : List (List Nat)) (i k : Nat) : Nat := (ws.getD i []).getD k 0
def setWord (ws : List (List Nat)) (i k v : Nat) : List (List Nat) := ws.set i ((ws.getD i []).set k v)
/-- what an operation does, ahead of going on -/
def Th.does (t : Th) (ws : List (List Nat)) : Option (Th × List (List Nat)) :=
  let x := t.ins
  let u := wordAt ws x.on t.place
  if x.fit && decide (x.on < ws.length) && decide (t.place < (ws.getD x.on []).length) && decide ((ws.getD x.on []).length < 1000000) then
    match x.op with
    | 1 => some ({ t with at_ := t.at_ + 1, rs := t.rs.set x.a u }, ws)
    | 2 => some ({ t with at_ := t.at_ + 1 }, setWord ws x.on t.place (reg t.rs x.a))
    | 3 => some ({ t with at_ := t.at_ + 1, rs := t.rs.set x.a ((u + reg t.rs x.c) % W64) }, setWord ws x.on t.place ((u + reg t.rs x.c) % W64))
    | 4 => some ({ t with at_ := t.at_ + 1, rs := t.rs.set x.a u }, setWord ws x.on t.place (reg t.rs x.c))
    | 5 => if u = reg t.rs x.c then some ({ t with at_ := t.at_ + 1, rs := t.rs.set x.a 1 }, setWord ws x.on t.place (reg t.rs x.d)) else some ({ t with at_ := t.at_ + 1, rs := t.rs.set x.a 0 }, ws)
    | _ => none
  else none
/-- an operation, and on: the thread, the words, the mark -/
def Th.op (n : Nat) (t : Th) (ws : List (List Nat)) : Option (Th × List (List Nat) × (Nat × Nat)) :=
  match t.does ws with
  | some (t', ws') => match t'.on n with
    | some t'' => some (t'', ws', (t.ins.op, t.place))
    | none => none
  | none => none
theorem Ins.fit_a {x : Ins} (h : x.fit = true) : x.a < 24 := by simp [Ins.fit] at h; omega
theorem Ins.fit_b {x : Ins} (h : x.fit = true) : x.b < 24 := by simp [Ins.fit] at h; omega
theorem Ins.fit_c {x : Ins} (h : x.fit = true) : x.c < 24 := by simp [Ins.fit] at h; omega
theorem Ins.fit_d {x : Ins} (h : x.fit = true) : x.d < 24 := by simp [Ins.fit] at h; omega
theorem Ins.fit_n {x : Ins} (h : x.fit = true) : x.n < 18446744073709551616 := by simp [Ins.fit] at h; have := W64_eq; omega
theorem Ins.fit_jump {x : Ins} (h : x.fit = true) (h1 : 18 ≤ x.op) (h2 : x.op ≤ 21) : x.n < 1000000 := by
  simp [Ins.fit] at h
  rcases h.2 with k | k
  · omega
  · exact k
end Go.Proofs.Ytgenblefbddilaa.mz
namespace Go.Proofs.Ytgenblefbddilaa.mz
structure Pl where
  ths : List Th
  ws : List (List Nat)
  trace : List (Nat × Nat × Nat)
def Pl.over (p : Pl) (k : Nat) : Bool := match p.ths[k]? with | some t => t.over | none => true
/-- one operation of thread k -/
def Pl.turn (n : Nat) (p : Pl) (k : Nat) : Option Pl :=
  match p.ths[k]? with
  | some t => if t.call < t.calls.length then match t.op n p.ws with
    | some (t', ws', m) => some ⟨p.ths.set k t', ws', p.trace ++ [(k, m.1, m.2)]⟩
    | none => none else none
  | none => none
/-- all threads from k on go up to their first operation -/
def Pl.starts (n : Nat) : Nat → Nat → Pl → Option Pl
  | 0, _, p => some p
  | f + 1, k, p => match p.ths[k]? with
    | some t => match t.on n with
      | some t' => Pl.starts n f (k + 1) { p with ths := p.ths.set k t' }
      | none => none
    | none => none
/-- turns by an order -/
def Pl.byOrder (n : Nat) : List Int → Pl → Option Pl
  | [], p => some p
  | k :: ks, p =>
    if 16384 ≤ p.trace.length then none
    else if k < 0 ∨ (p.ths.length : Int) ≤ k ∨ p.over k.toNat = true then Pl.byOrder n ks p
    else match p.turn n k.toNat with
      | some p' => Pl.byOrder n ks p'
      | none => none
/-- one round, f threads from k on: had anybody a turn? -/
def Pl.round (n : Nat) : Nat → Nat → Bool → Pl → Option (Bool × Pl)
  | 0, _, b, p => some (b, p)
  | f + 1, k, b, p =>
    if 16384 ≤ p.trace.length then none
    else if p.over k = true then Pl.round n f (k + 1) b p
    else match p.turn n k with
      | some p' => Pl.round n f (k + 1) true p'
      | none => none
/-- round and round -/
def Pl.rounds (n : Nat) : Nat → Pl → Option Pl
  | 0, _ => none
  | f + 1, p => match Pl.round n p.ths.length 0 false p with
    | some (true, p') => Pl.rounds n f p'
    | some (false, p') => some p'
    | none => none
/-- a thread that has not begun -/
def Th.fresh (calls : List (List Ins × List Nat)) : Th := ⟨calls, 0, 0, List.replicate 24 0, [], false⟩
/-- a play -/
def plays (n f : Nat) (ws : List (List Nat)) (order : List Int) (threads : List (List (List Ins × List Nat))) : Option Pl :=
  match Pl.starts n threads.length 0 ⟨threads.map Th.fresh, ws, []⟩ with
  | some p => match Pl.byOrder n order p with
    | some p' => Pl.rounds n f p'
    | none => none
  | none => none
/-- where nobody had a turn all are over, and nothing has turned -/
theorem round_none {n : Nat} : ∀ (f k : Nat) (b : Bool) (p p' : Pl), Pl.round n f k b p = some (false, p') → b = false ∧ p' = p ∧ ∀ j, k ≤ j → j < k + f → p.over j = true
  | 0, k, b, p, p', h => by
    simp only [Pl.round, Option.some.injEq, Prod.mk.injEq] at h
    exact ⟨h.1, h.2.symm, fun j h1 h2 => by omega⟩
  | f + 1, k, b, p, p', h => by
    unfold Pl.round at h
    split at h
    · cases h
    · split at h
      · rename_i ho
        obtain ⟨h1, h2, h3⟩ := round_none f (k + 1) b p p' h
        refine ⟨h1, h2, fun j j1 j2 => ?_⟩
        rcases Nat.eq_or_lt_of_le j1 with e | e
        · subst e; exact ho
        · exact h3 j (by omega) (by omega)
      · split at h
        · have := (round_none f (k + 1) true _ p' h).1
          cases this
        · cases h
theorem starts_trace {n : Nat} : ∀ (f k : Nat) (p p' : Pl), Pl.starts n f k p = some p' → p'.trace = p.trace
  | 0, k, p, p', h => by simp only [Pl.starts, Option.some.injEq] at h; rw [h]
  | f + 1, k, p, p', h => by
    unfold Pl.starts at h
    split at h
    · split at h
      · have := starts_trace f (k + 1) _ p' h; simpa using this
      · cases h
    · cases h
theorem turn_len {n k : Nat} {p p' : Pl} (h : p.turn n k = some p') : p'.ths.length = p.ths.length := by
  unfold Pl.turn at h
  split at h
  · split at h
    · split at h
      · cases h; simp
      · cases h
    · cases h
  · cases h
end Go.Proofs.Ytgenblefbddilaa.mz
