/-
  Cuts of a slice of bytes, as equations on the operation's run; a cut of one operation names its address once.
-/
import Derived.Test.YtidengmcbppcoaaRows
import Derived.Test.YtidengmcbppcoaaOcW
import Derived.WalkLawsBesides
namespace Go.Proofs.Ytidengmcbppcoaa.oc
theorem elem_b : Try.prog.underlying 27 = some (.slice (Try.prog.elem 27)) := by kernel_rfl
theorem size_b (w : World) : (sizeOf (Try.prog.elem 27)).run Try.prog w = .ok 1 w := by kernel_rfl
/-- the address of what is cut off at p -/
def cutA (A : Option Addr) (c p : Nat) : Option Addr := if c = p then A else A.map (·.add p)
theorem cut_lh (A : Option Addr) (n c p q : Nat) (h1 : p ≤ q) (h2 : q ≤ c) (w : World) :
    (Instr.slice 27 (.slice A n c) (some (.int .i64 (p : Int))) (some (.int .i64 (q : Int))) none).run Try.prog w = .ok (.slice (cutA A c p) (q - p) (c - p)) w := by
  rw [run_slice_lh w 27 A n c elem_b .i64 .i64 p q (by omega) (by omega) (by omega), size_b]
  simp [Result.andThen, sliced, cutA]
theorem cut_h (A : Option Addr) (n c q : Nat) (h2 : q ≤ c) (w : World) :
    (Instr.slice 27 (.slice A n c) none (some (.int .i64 (q : Int))) none).run Try.prog w = .ok (.slice A q c) w := by
  rw [run_slice_h w 27 A n c elem_b .i64 q (by omega) (by omega), size_b]
  simp only [Result.andThen, sliced, Int.toNat_natCast, Nat.sub_zero, Nat.zero_mul]
  congr 2
  split
  · rfl
  · cases A <;> simp [Addr.add]
theorem cut_l (A : Option Addr) (n c p : Nat) (h2 : p ≤ n) (w : World) :
    (Instr.slice 27 (.slice A n c) (some (.int .i64 (p : Int))) none none).run Try.prog w = .ok (.slice (cutA A c p) (n - p) (c - p)) w := by
  rw [run_slice_l w 27 A n c elem_b .i64 p (by omega) (by omega), size_b]
  simp [Result.andThen, sliced, cutA]
theorem rd_cut {w : World} {B : Nat} {A : Option Addr} {bs : List Nat} (h : Rd w B A (by_ bs)) {c : Nat} (p : Nat) (hc : bs.length ≤ c) : Rd w B (cutA A c p) (by_ (bs.drop p)) := by
  have h1 := h.cut (k := p) (cap := c) (by rw [by_length]; exact hc)
  have e : (by_ bs).drop p = by_ (bs.drop p) := by simp [by_]
  rw [← e]
  exact h1
theorem rd_take {w : World} {B : Nat} {A : Option Addr} {bs : List Nat} (h : Rd w B A (by_ bs)) (p : Nat) : Rd w B A (by_ (bs.take p)) := by
  have e : (by_ bs).take p = by_ (bs.take p) := by simp [by_]
  rw [← e]
  exact h.take p
end Go.Proofs.Ytidengmcbppcoaa.oc
