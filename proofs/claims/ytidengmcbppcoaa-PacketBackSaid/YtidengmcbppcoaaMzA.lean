/-
  The reference's machine, plainly: instructions, what each does to registers. Nothing of the program's functions.
-/
namespace Go.Proofs.Ytidengmcbppcoaa.mz
/-- an instruction -/
structure Ins where
  op : Nat
  on : Nat
  a : Nat
  b : Nat
  c : Nat
  d : Nat
  n : Nat
/-- 2^64, kept out of the counting -/
@[irreducible] def W64 : Nat := 18446744073709551616
theorem W64_eq : W64 = 18446744073709551616 := by unfold W64; rfl
/-- what is told in one call, where it stands, its registers -/
structure Cs where
  at_ : Nat
  rs : List Nat
  told : List Nat
def reg (rs : List Nat) (i : Nat) : Nat := rs.getD i 0
/-- register a becomes v, one on -/
def Cs.put (s : Cs) (a v : Nat) : Cs := { s with at_ := s.at_ + 1, rs := s.rs.set a v }
def Cs.go (s : Cs) (b : Bool) (n : Nat) : Cs := { s with at_ := if b then n else s.at_ + 1 }
/-- an instruction that is the thread's own -/
def own (data : List Nat) (x : Ins) (s : Cs) : Option Cs :=
  match x.op with
  | 6 => some (s.put x.a x.n)
  | 7 => some (s.put x.a (reg s.rs x.b))
  | 8 => some (s.put x.a ((reg s.rs x.b + reg s.rs x.c + x.n) % W64))
  | 9 => some (s.put x.a ((reg s.rs x.b + (W64 - reg s.rs x.c)) % W64))
  | 10 => some (s.put x.a ((reg s.rs x.b * reg s.rs x.c) % W64))
  | 11 => some (s.put x.a (if reg s.rs x.c = 0 then 0 else reg s.rs x.b / reg s.rs x.c))
  | 12 => some (s.put x.a (reg s.rs x.b &&& reg s.rs x.c))
  | 13 => some (s.put x.a (reg s.rs x.b ||| reg s.rs x.c))
  | 14 => some (s.put x.a (reg s.rs x.b * 2 ^ x.n % W64))
  | 15 => some (s.put x.a (reg s.rs x.b / 2 ^ x.n))
  | 16 => some (s.put x.a (max (reg s.rs x.b) (reg s.rs x.c)))
  | 17 => some (s.put x.a (data.getD ((reg s.rs x.b + x.n) % W64) 0))
  | 18 => some (s.go true x.n)
  | 19 => some (s.go (decide (reg s.rs x.a = reg s.rs x.b)) x.n)
  | 20 => some (s.go (decide (reg s.rs x.a < reg s.rs x.b)) x.n)
  | 21 => some (s.go (decide (reg s.rs x.a / 9223372036854775808 = 1)) x.n)
  | 22 => some { s with at_ := s.at_ + 1, told := s.told ++ [reg s.rs x.a] }
  | _ => none
end Go.Proofs.Ytidengmcbppcoaa.mz
