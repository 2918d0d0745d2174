/-
  Words for the machine's code in memory.
-/
import Derived.Test.YtgenblefbddilaaMzB
import Derived.Test.YtgenblefbddilaaMzPl
namespace Go.Proofs.Ytgenblefbddilaa.mz
open Go.RowKit Go.Proofs.Ytgenblefbddilaa.oc
def Ins.cells (x : Ins) : List Value := [.int .i64 (x.op : Int), .int .i64 (x.on : Int), .int .i64 (x.a : Int), .int .i64 (x.b : Int), .int .i64 (x.c : Int), .int .i64 (x.d : Int), .int .u64 (x.n : Int)]
def Ins.val (x : Ins) : Value := .agg #[.int .i64 (x.op : Int), .int .i64 (x.on : Int), .int .i64 (x.a : Int), .int .i64 (x.b : Int), .int .i64 (x.c : Int), .int .i64 (x.d : Int), .int .u64 (x.n : Int)]
/-- a slice of instructions, in blocks below B -/
def IsCode (w : World) (B : Nat) (v : Value) (code : List Ins) : Prop :=
  ∃ A cap, v = .slice A code.length cap ∧ ∀ i x, code[i]? = some x → ∃ b o, A = some ⟨b, o, none⟩ ∧ b < B ∧ ∀ j u, x.cells[j]? = some u → w.cell? ⟨b, o + i * 7 + j, none⟩ = some u
/-- a slice of numbers -/
def IsData (w : World) (B : Nat) (v : Value) (l : List Nat) : Prop := ∃ A cap, v = .slice A l.length cap ∧ Rd w B A (u64s l)
/-- a slice of calls -/
def IsCalls (w : World) (B : Nat) (v : Value) (cs : List (List Ins × List Nat)) : Prop :=
  ∃ A cap, v = .slice A cs.length cap ∧ ∀ i c, cs[i]? = some c → ∃ b o cv dv, A = some ⟨b, o, none⟩ ∧ b < B ∧ w.cell? ⟨b, o + i * 2, none⟩ = some cv ∧ w.cell? ⟨b, o + i * 2 + 1, none⟩ = some dv ∧ IsCode w B cv c.1 ∧ IsData w B dv c.2
theorem cell_keeps {S : Nat → Prop} {w w' : World} (k : Keeps S w w') {p : Addr} {v : Value} (h : w.cell? p = some v) (hs : ¬ S p.block) : w'.cell? p = some v :=
  (World.cell?_of_block (k.block p.block (World.block_lt_of_cell? w p h) hs)).trans h
theorem IsCode.keeps {S : Nat → Prop} {w w' : World} {B : Nat} {v : Value} {code : List Ins} (h : IsCode w B v code) (k : Keeps S w w') (hs : ∀ b, b < B → ¬ S b) : IsCode w' B v code := by
  obtain ⟨A, cap, e, f⟩ := h
  refine ⟨A, cap, e, fun i x hx => ?_⟩
  obtain ⟨b, o, e1, hb, g⟩ := f i x hx
  exact ⟨b, o, e1, hb, fun j u hu => cell_keeps k (g j u hu) (hs b hb)⟩
theorem IsData.keeps {S : Nat → Prop} {w w' : World} {B : Nat} {v : Value} {l : List Nat} (h : IsData w B v l) (k : Keeps S w w') (hs : ∀ b, b < B → ¬ S b) : IsData w' B v l := by
  obtain ⟨A, cap, e, f⟩ := h
  refine ⟨A, cap, e, fun i u hu => ?_⟩
  obtain ⟨b, o, e1, hb, g⟩ := f i u hu
  exact ⟨b, o, e1, hb, cell_keeps k g (hs b hb)⟩
theorem IsCalls.keeps {S : Nat → Prop} {w w' : World} {B : Nat} {v : Value} {cs : List (List Ins × List Nat)} (h : IsCalls w B v cs) (k : Keeps S w w') (hs : ∀ b, b < B → ¬ S b) : IsCalls w' B v cs := by
  obtain ⟨A, cap, e, f⟩ := h
  refine ⟨A, cap, e, fun i c hc => ?_⟩
  obtain ⟨b, o, cv, dv, e1, hb, h1, h2, h3, h4⟩ := f i c hc
  exact ⟨b, o, cv, dv, e1, hb, cell_keeps k h1 (hs b hb), cell_keeps k h2 (hs b hb), h3.keeps k hs, h4.keeps k hs⟩
end Go.Proofs.Ytgenblefbddilaa.mz
