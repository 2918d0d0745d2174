/-
  Bytes as a number.
-/
import Derived.WalkKit
import Derived.Laws.CopyOwn
import Derived.Test.YtidengmcbppcoaaOcW
namespace Go.Proofs.Ytidengmcbppcoaa.oc
/-- bytes as a number, the highest first -/
def num (bs : List Nat) : Nat := bs.foldl (fun v x => v * 256 + x) 0
theorem num_snoc (bs : List Nat) (x : Nat) : num (bs ++ [x]) = num bs * 256 + x := by simp [num]
theorem num_go (bs : List Nat) (h : Small bs) (v : Nat) : bs.foldl (fun v x => v * 256 + x) v < (v + 1) * 256 ^ bs.length := by
  induction bs generalizing v with
  | nil => simp
  | cons x r ih =>
    have h1 := ih (fun y hy => h y (List.mem_cons_of_mem _ hy)) (v * 256 + x)
    have h2 := h x (by simp)
    rw [List.foldl_cons, List.length_cons, Nat.pow_succ]
    have h3 : (v * 256 + x + 1) * 256 ^ r.length ≤ ((v + 1) * 256) * 256 ^ r.length := Nat.mul_le_mul_right _ (by omega)
    rw [Nat.mul_comm (256 ^ r.length) 256, ← Nat.mul_assoc]
    omega
theorem num_lt (bs : List Nat) (h : Small bs) : num bs < 256 ^ bs.length := by
  have := num_go bs h 0
  simpa [num] using this
theorem num_lt8 (bs : List Nat) (h : Small bs) (hl : bs.length ≤ 8) : num bs < 18446744073709551616 := by
  have h1 := num_lt bs h
  have h2 : 256 ^ bs.length ≤ 256 ^ 8 := Nat.pow_le_pow_right (by omega) hl
  omega

/-- the k lowest bytes of a number, the highest of them first -/
def be : Nat → Nat → List Nat
  | 0, _ => []
  | k + 1, v => (v / 256 ^ k % 256) :: be k v
theorem be_length (k v : Nat) : (be k v).length = k := by
  induction k with
  | zero => rfl
  | succ k ih => simp [be, ih]
theorem be_small (k v : Nat) : Small (be k v) := by
  induction k with
  | zero => exact Small.nil
  | succ k ih =>
    intro x hx
    simp only [be, List.mem_cons] at hx
    rcases hx with rfl | hx
    · exact Nat.mod_lt _ (by omega)
    · exact ih x hx
/-- one byte more is laid ahead of those that lie -/
theorem put_step (bs : List Nat) (n j k v : Nat) (hn : bs.length = n) :
    (by_ bs ++ List.replicate (j + 1) (Value.int .u8 0) ++ by_ (be k v)).set (n + j) (.int .u8 ((v / 256 ^ k % 256 : Nat) : Int)) =
      by_ bs ++ List.replicate j (Value.int .u8 0) ++ by_ (be (k + 1) v) := by
  subst hn
  rw [List.replicate_succ', ← List.append_assoc, List.append_assoc _ [_] _]
  rw [List.set_append_right _ _ (by simp [by_length])]
  simp [by_, be]
theorem put_at (bs : List Nat) (n j k v : Nat) (hn : bs.length = n) :
    (by_ bs ++ List.replicate (j + 1) (Value.int .u8 0) ++ by_ (be k v))[n + j]? = some (.int .u8 0) := by
  subst hn
  rw [List.append_assoc, List.getElem?_append_right (by simp [by_length])]
  rw [List.getElem?_append_left (by simp [by_length])]
  simp [by_length]
theorem put_start {w : World} {g n m : Nat} {t : TypeId} {bs : List Nat} {v : Nat} (h : w.heap[g]? = some (.cells (splice (List.replicate (n + m) (Value.int .u8 0)) 0 (by_ bs)).toArray t (0, 0))) (hn : bs.length = n) :
    Blk w g t (by_ bs ++ List.replicate m (Value.int .u8 0) ++ by_ (be 0 v)) := by
  subst hn
  unfold Blk
  rw [h]
  simp [splice, be, by_]
theorem div_step (v k : Nat) : v / 256 ^ k / 256 = v / 256 ^ (k + 1) := by rw [Nat.div_div_eq_div_mul, Nat.pow_succ]
theorem num_be (k v : Nat) (h : v < 256 ^ k) : num (be k v) = v := by
  have go : ∀ (k v a : Nat), (be k v).foldl (fun v x => v * 256 + x) a = a * 256 ^ k + v % 256 ^ k := by
    intro k
    induction k with
    | zero => intro v a; simp [be, Nat.mod_one]
    | succ k ih =>
      intro v a
      rw [be, List.foldl_cons, ih, Nat.pow_succ]
      have e : v % (256 ^ k * 256) = v % 256 ^ k + 256 ^ k * (v / 256 ^ k % 256) := Nat.mod_mul
      rw [e, Nat.add_mul, Nat.mul_assoc, Nat.mul_comm 256, Nat.mul_comm (v / 256 ^ k % 256)]
      omega
  unfold num
  rw [go, Nat.mod_eq_of_lt h]
  omega
end Go.Proofs.Ytidengmcbppcoaa.oc
