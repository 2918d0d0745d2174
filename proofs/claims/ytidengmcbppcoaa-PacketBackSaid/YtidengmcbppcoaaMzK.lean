/-
  Words for memory: only some blocks have turned (Keeps); sums of 64 bits.
-/
import Derived.Test.YtidengmcbppcoaaOcW
import Derived.Test.YtidengmcbppcoaaMzA
namespace Go.Proofs.Ytidengmcbppcoaa.mz
open Go.RowKit Go.Proofs.Ytidengmcbppcoaa.oc
/-- the streams and the tape are one -/
structure Same (w w' : World) : Prop where
  os : w'.os = w.os
  tape : w'.tape = w.tape
  output : w'.output = w.output
theorem Same.trans {a b c : World} (h : Same a b) (k : Same b c) : Same a c := ⟨k.os.trans h.os, k.tape.trans h.tape, k.output.trans h.output⟩
/-- only blocks of S, and new ones, are another than they were -/
structure Keeps (S : Nat → Prop) (w w' : World) : Prop where
  size : w.heap.size ≤ w'.heap.size
  block : ∀ b, b < w.heap.size → ¬ S b → w'.heap[b]? = w.heap[b]?
  same : Same w w'
theorem Keeps.refl (S : Nat → Prop) (w : World) : Keeps S w w := ⟨Nat.le_refl _, fun _ _ _ => rfl, rfl, rfl, rfl⟩
theorem Keeps.trans {S : Nat → Prop} {a b c : World} (h : Keeps S a b) (k : Keeps S b c) : Keeps S a c :=
  ⟨Nat.le_trans h.size k.size, fun x hx hs => (k.block x (by have := h.size; omega) hs).trans (h.block x hx hs), h.same.trans k.same⟩
theorem Keeps.mono {S S' : Nat → Prop} {a b : World} (h : Keeps S a b) (k : ∀ x, x < a.heap.size → S x → S' x) : Keeps S' a b :=
  ⟨h.size, fun x hx hs => h.block x hx fun z => hs (k x hx z), h.same⟩
theorem Keeps.drew {S : Nat → Prop} {a b : World} (h : Keeps S a b) : Keeps S a b.drew := ⟨h.size, h.block, h.same.os, h.same.tape, h.same.output⟩
theorem Keeps.alloc {S : Nat → Prop} {a b : World} (h : Keeps S a b) (o : Obj) : Keeps S a (b.alloc o) :=
  ⟨by have := h.size; show a.heap.size ≤ (b.heap.push o).size; simp; omega, fun x hx hs => (Below.heap_alloc b o x (by have := h.size; omega)).trans (h.block x hx hs), h.same.os, h.same.tape, h.same.output⟩
theorem Keeps.setCell {S : Nat → Prop} {a b : World} (h : Keeps S a b) {p : Addr} (hp : S p.block ∨ a.heap.size ≤ p.block) (u : Value) : Keeps S a (b.setCell p u) :=
  ⟨by have := h.size; show a.heap.size ≤ (b.heap.modify _ _).size; simpa using this, fun x hx hs => (Below.heap_setCell b p u x (fun e => by subst e; rcases hp with k | k; exact hs k; omega)).trans (h.block x hx hs), h.same.os, h.same.tape, h.same.output⟩
theorem Same.of_grown {w w' : World} {r : Option Nat} (h : w.grownBy w' r) : Same w w' := ⟨h.os, h.tape, h.output⟩
theorem Keeps.below {w w' : World} (h : Keeps (fun _ => False) w w') : Below w.heap.size w w' := ⟨h.same.os, h.same.tape, h.same.output, h.size, fun k hk => h.block k hk (fun z => z)⟩
theorem Keeps.of_drew {S : Nat → Prop} (w : World) (n : Nat) : Keeps S w (w.drewN n) := ⟨Nat.le_refl _, fun _ _ _ => rfl, rfl, rfl, rfl⟩
theorem grown_set (w : World) (p : Addr) (u : Value) : w.grownBy (w.setCell p u) (some p.block) :=
  ⟨rfl, rfl, rfl, by show w.heap.size ≤ (w.heap.modify _ _).size; simp, fun k _ hk => Below.heap_setCell w p u k (fun e => hk (by rw [e]))⟩
theorem Blk.keeps {S : Nat → Prop} {w w' : World} {g : Nat} {t : TypeId} {cs : List Value} (h : Blk w g t cs) (k : Keeps S w w') (hg : ¬ S g) : Blk w' g t cs := (k.block g h.lt hg).trans h
/-- likewise of what only lies in a block of its own -/
theorem enter_box (w : World) (cs : Array Value) (t : TypeId) :
    ∃ w1, w1 = w.alloc (.cells cs t) ∧ (∀ S, Keeps S w w1) ∧ (∀ k, w1.cell? ⟨w.heap.size, k, none⟩ = cs[k]?) := by
  refine ⟨_, rfl, fun S => (Keeps.refl _ w).alloc _, fun k => ?_⟩
  rw [(Blk.new w t cs).cell k]; simp
/-- likewise, told whole -/
theorem enter_blk (w : World) (cs : Array Value) (t : TypeId) : ∃ w1, w1 = w.alloc (.cells cs t) ∧ (∀ S, Keeps S w w1) ∧ Blk w1 w.heap.size t cs.toList :=
  ⟨_, rfl, fun _ => (Keeps.refl _ w).alloc _, Blk.new w t cs⟩
theorem wrap_u64 (x : Int) : IntKind.u64.wrap x = x % 18446744073709551616 := by simp [IntKind.wrap, IntKind.signed, IntKind.bits]
theorem wrapN (x : Nat) : IntKind.u64.wrap (x : Int) = ((x % W64 : Nat) : Int) := by rw [W64_eq, wrap_u64]; omega
theorem mod_lt64 (x : Nat) : x % W64 < 18446744073709551616 := by rw [W64_eq]; exact Nat.mod_lt _ (by omega)
theorem wrap_add (x y : Nat) : IntKind.u64.wrap ((x : Int) + (y : Int)) = (((x + y) % W64 : Nat) : Int) := by rw [← wrapN]; rfl
theorem wrap_add3 (x y n : Nat) : IntKind.u64.wrap (IntKind.u64.wrap ((x : Int) + (y : Int)) + (n : Int)) = (((x + y + n) % W64 : Nat) : Int) := by
  rw [wrap_add, wrap_add, Nat.mod_add_mod]
theorem wrap_mul (x y : Nat) : IntKind.u64.wrap ((x : Int) * (y : Int)) = (((x * y) % W64 : Nat) : Int) := by rw [← wrapN]; rfl
theorem wrap_sub (x y : Nat) (hy : y < 18446744073709551616) : IntKind.u64.wrap ((x : Int) - (y : Int)) = (((x + (W64 - y)) % W64 : Nat) : Int) := by
  rw [W64_eq, wrap_u64]; omega
theorem wrap_left (x n : Nat) : IntKind.u64.wrap ((x : Int) * 2 ^ min n 64) = ((x * 2 ^ n % W64 : Nat) : Int) := by
  have e : ((x : Int) * 2 ^ min n 64) = ((x * 2 ^ min n 64 : Nat) : Int) := by rw [Int.natCast_mul, Int.natCast_pow]; rfl
  rw [e, wrapN]
  rcases Nat.le_total n 64 with h | h
  · rw [Nat.min_eq_left h]
  · rw [Nat.min_eq_right h]
    have e2 : 2 ^ n = 2 ^ 64 * 2 ^ (n - 64) := by rw [← Nat.pow_add, Nat.add_sub_cancel' h]
    have e3 : W64 = 2 ^ 64 := by rw [W64_eq]
    rw [e2, ← Nat.mul_assoc, Nat.mul_comm x, Nat.mul_assoc, e3, Nat.mul_mod_right, Nat.mul_mod_right]
theorem int_right (x n : Nat) (hx : x < 18446744073709551616) : ((x : Int) / 2 ^ min n 64) = ((x / 2 ^ n : Nat) : Int) := by
  have e : ((x : Int) / 2 ^ min n 64) = ((x / 2 ^ min n 64 : Nat) : Int) := by rw [Int.natCast_ediv, Int.natCast_pow]; rfl
  rw [e]
  rcases Nat.le_total n 64 with h | h
  · rw [Nat.min_eq_left h]
  · rw [Nat.min_eq_right h]
    have h1 : x / 2 ^ 64 = 0 := Nat.div_eq_of_lt hx
    have h2 : x / 2 ^ n = 0 := Nat.div_eq_of_lt (Nat.lt_of_lt_of_le hx (Nat.pow_le_pow_right (by omega : 0 < 2) h))
    rw [h1, h2]
theorem div_lt64 (x n : Nat) (hx : x < 18446744073709551616) : x / 2 ^ n < 18446744073709551616 := Nat.lt_of_le_of_lt (Nat.div_le_self _ _) hx
theorem max_lt64 {x y : Nat} (hx : x < 18446744073709551616) (hy : y < 18446744073709551616) : max x y < 18446744073709551616 := by omega
theorem and_lt64 {x : Nat} (y : Nat) (hx : x < 18446744073709551616) : x &&& y < 18446744073709551616 := Nat.lt_of_le_of_lt Nat.and_le_left hx
theorem or_lt64 {x y : Nat} (hx : x < 18446744073709551616) (hy : y < 18446744073709551616) : x ||| y < 18446744073709551616 :=
  Nat.or_lt_two_pow (n := 64) hx hy
end Go.Proofs.Ytidengmcbppcoaa.mz
