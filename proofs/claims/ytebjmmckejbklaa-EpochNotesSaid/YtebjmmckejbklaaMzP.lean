/-
  The reference's machine, plainly: threads, words, plays. Where what a play would do is more than this text tells of (an instruction that it does not know, numbers too great), it answers none.
-/
import Derived.Test.YtebjmmckejbklaaMzA
namespace Go.Proofs.Ytebjmmckejbklaa.mz
/-- the instruction that stands past the end -/
def Ins.fin : Ins := ⟨23, 0, 0, 0, 0, 0, 0⟩
/-- a thread: its calls, which one it is in, where, the registers, what came of the calls, is it over -/
structure Th where
  calls : List (List Ins × List Nat)
  call : Nat
  at_ : Nat
  rs : List Nat
  ans : List (Bool × List Nat)
  over : Bool
def Th.ins (t : Th) : Ins :=
  match t.calls[t.call]? with
  | some c => c.1.getD t.at_ Ins.fin
  | none => Ins.fin
def Th.told (t : Th) : List Nat := (t.ans.getD t.call (false, [])).2
def Ins.fit (x : Ins) : Bool := decide (x.a < 24) && decide (x.b < 24) && decide (x.c < 24) && decide (x.d < 24) && decide (x.n < W64) && (!(decide (18 ≤ x.op) && decide (x.op ≤ 21)) || decide (x.n < 1000000))
/-- which instructions this text tells of -/
def Ins.known (x : Ins) : Bool := [6, 7, 8, 9, 10, 12, 13, 14, 15, 16, 18, 19, 20, 21, 22].contains x.op
/-- what an instruction of the thread's own makes of it -/
def Th.own (t : Th) : Option Th :=
  if t.ins.fit && t.ins.known && decide (t.told.length < 1000) then
    match mz.own [] t.ins ⟨t.at_, t.rs, t.told⟩ with
    | some s => some { t with at_ := s.at_, rs := s.rs, ans := t.ans.set t.call ((t.ans.getD t.call (false, [])).1, s.told) }
    | none => none
  else none
/-- the call is begun, or under way -/
def Th.begun (t : Th) : Th := if t.ans.length = t.call then { t with ans := t.ans ++ [(false, [])] } else t
/-- the call is done -/
def Th.finish (t : Th) : Th := { t with ans := t.ans.set t.call (true, t.told), call := t.call + 1, at_ := 0, rs := List.replicate 24 0 }
def isOp (x : Ins) : Bool := decide (1 ≤ x.op) && decide (x.op ≤ 5)
/-- up to its next operation, or to its end -/
def Th.on : Nat → Th → Option Th
  | 0, _ => none
  | n + 1, t =>
    if t.over then some t
    else if t.calls.length ≤ t.call then some { t with over := true }
    else if isOp t.begun.ins then some t.begun
    else if t.begun.ins.op = 23 then Th.on n t.begun.finish
    else match t.begun.own with
      | some t' => Th.on n t'
      | none => none
/-- a thread is well: of its calls so many have begun -/
structure Th.Wf (t : Th) : Prop where
  rs : t.rs.length = 24
  ans : t.ans.length = t.call ∨ t.ans.length = t.call + 1
  calls : t.calls.length < 1000000
  codes : ∀ c ∈ t.calls, c.1.length < 1000000
/-- where an operation's word lies -/
def Th.place (t : Th) : Nat := (reg t.rs t.ins.b + t.ins.n) % W64
def wordAt (ws : List (List Nat)) (i k : Nat) : Nat := (ws.getD i []).getD k 0
def setWord (ws : List (List Nat)) (i k v : Nat) : List (List Nat) := ws.set i ((ws.getD i []).set k v)
/-- what an operation does, ahead of going on -/
def Th.does (t : Th) (ws : List (List Nat)) : Option (Th × List (List Nat)) :=
  let x := t.ins
  let u := wordAt ws x.on t.place
  if x.fit && decide (x.on < ws.length) && decide (t.place < (ws.getD x.on []).length) && decide ((ws.getD x.on []).length < 1000000) then
    match x.op with
    | 1 => some ({ t with at_ := t.at_ + 1, rs := t.rs.set x.a u }, ws)
    | 2 => some ({ t with at_ := t.at_ + 1 }, setWord ws x.on t.place (reg t.rs x.a))
    | 3 => some ({ t with at_ := t.at_ + 1, rs := t.rs.set x.a ((u + reg t.rs x.c) % W64) }, setWord ws x.on t.place ((u + reg t.rs x.c) % W64))
    | 4 => some ({ t with at_ := t.at_ + 1, rs := t.rs.set x.a u }, setWord ws x.on t.place (reg t.rs x.c))
    | 5 => if u = reg t.rs x.c then some ({ t with at_ := t.at_ + 1, rs := t.rs.set x.a 1 }, setWord ws x.on t.place (reg t.rs x.d)) else some ({ t with at_ := t.at_ + 1, rs := t.rs.set x.a 0 }, ws)
    | _ => none
  else none
/-- an operation, and on: the thread, the words, the mark -/
def Th.op (n : Nat) (t : Th) (ws : List (List Nat)) : Option (Th × List (List Nat) × (Nat × Nat)) :=
  match t.does ws with
  | some (t', ws') => match t'.on n with
    | some t'' => some (t'', ws', (t.ins.op, t.place))
    | none => none
  | none => none
theorem Ins.fit_a {x : Ins} (h : x.fit = true) : x.a < 24 := by simp [Ins.fit] at h; omega
theorem Ins.fit_b {x : Ins} (h : x.fit = true) : x.b < 24 := by simp [Ins.fit] at h; omega
theorem Ins.fit_c {x : Ins} (h : x.fit = true) : x.c < 24 := by simp [Ins.fit] at h; omega
theorem Ins.fit_d {x : Ins} (h : x.fit = true) : x.d < 24 := by simp [Ins.fit] at h; omega
theorem Ins.fit_n {x : Ins} (h : x.fit = true) : x.n < 18446744073709551616 := by simp [Ins.fit] at h; have := W64_eq; omega
theorem Ins.fit_jump {x : Ins} (h : x.fit = true) (h1 : 18 ≤ x.op) (h2 : x.op ≤ 21) : x.n < 1000000 := by
  simp [Ins.fit] at h
  rcases h.2 with k | k
  · omega
  · exact k
end Go.Proofs.Ytebjmmckejbklaa.mz
