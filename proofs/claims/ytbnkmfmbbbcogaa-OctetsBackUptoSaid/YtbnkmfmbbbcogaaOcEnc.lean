/-
  Numbers laid one behind the other: plain words; bits of bytes are the bytes' number.
-/
import Derived.Test.YtbnkmfmbbbcogaaOcBit
import Derived.Test.YtbnkmfmbbbcogaaOcJoin
namespace Go.Proofs.Ytbnkmfmbbbcogaa.oc
open Go.RowKit
/-- how many bytes the k-th number has -/
def wd (k : Nat) : Nat := if k % 4 = 0 then 8 else if k % 4 = 1 then 4 else if k % 4 = 2 then 2 else 1
theorem wd_le (k : Nat) : wd k ≤ 8 := by unfold wd; split <;> (try split) <;> (try split) <;> omega
/-- the first k numbers, each in its width -/
def encs (ls : List Nat) : Nat → List Nat
  | 0 => []
  | k + 1 => encs ls k ++ be (wd k) (ls.getD k 0 % 256 ^ wd k)
theorem encs_len (ls : List Nat) (k : Nat) : (encs ls (k + 1)).length = (encs ls k).length + wd k := by simp [encs, be_length]
theorem encs_le (ls : List Nat) (k : Nat) : (encs ls k).length ≤ 8 * k := by
  induction k with
  | zero => simp [encs]
  | succ k ih => have := wd_le k; rw [encs_len]; omega
theorem encs_more (ls : List Nat) (j d : Nat) : ∃ r, encs ls (j + d) = encs ls j ++ r := by
  induction d with
  | zero => exact ⟨[], by simp⟩
  | succ d ih =>
    obtain ⟨r, hr⟩ := ih
    exact ⟨r ++ be (wd (j + d)) (ls.getD (j + d) 0 % 256 ^ wd (j + d)), by rw [← Nat.add_assoc, encs, hr, List.append_assoc]⟩
theorem encs_mono (ls : List Nat) {j k : Nat} (h : j ≤ k) : ∃ r, encs ls k = encs ls j ++ r := by
  have := encs_more ls j (k - j)
  rwa [show j + (k - j) = k from by omega] at this
theorem encs_small (ls : List Nat) (k : Nat) : Small (encs ls k) := by
  induction k with
  | zero => exact Small.nil
  | succ k ih => exact ih.append (be_small _ _)
/-- what stands at the j-th place -/
theorem encs_at (bs ls : List Nat) {j k : Nat} (h : j < k) : ((bs ++ encs ls k).drop (bs.length + (encs ls j).length)).take (wd j) = be (wd j) (ls.getD j 0 % 256 ^ wd j) := by
  obtain ⟨r, hr⟩ := encs_mono ls (show j + 1 ≤ k by omega)
  rw [hr, encs, ← List.append_assoc, ← List.append_assoc]
  rw [show bs.length + (encs ls j).length = (bs ++ encs ls j).length from by rw [List.length_append]]
  rw [List.append_assoc (bs ++ encs ls j), List.drop_left]
  rw [List.take_append_of_le_length (by rw [be_length]; exact Nat.le_refl _), List.take_of_length_le (by rw [be_length]; exact Nat.le_refl _)]
theorem encs_fits (bs ls : List Nat) {j k : Nat} (h : j < k) : bs.length + (encs ls j).length + wd j ≤ (bs ++ encs ls k).length := by
  obtain ⟨r, hr⟩ := encs_mono ls (show j + 1 ≤ k by omega)
  rw [hr, List.length_append, List.length_append, encs_len]
  omega
theorem num_at (bs ls : List Nat) {j k : Nat} (h : j < k) : num (((bs ++ encs ls k).drop (bs.length + (encs ls j).length)).take (wd j)) = ls.getD j 0 % 256 ^ wd j := by
  rw [encs_at bs ls h, num_be]
  exact Nat.mod_lt _ (Nat.pow_pos (by omega))
theorem bits_byte (x v : Nat) (h : x < 256) : (((((((v * 2 + x / 128 % 2) * 2 + x / 64 % 2) * 2 + x / 32 % 2) * 2 + x / 16 % 2) * 2 + x / 8 % 2) * 2 + x / 4 % 2) * 2 + x / 2 % 2) * 2 + x % 2 = v * 256 + x := by omega
theorem bit_of (bs : List Nat) (q r : Nat) (h : r < 8) : bitAt bs (8 * q + r) = bs.getD q 0 / 2 ^ (7 - r) % 2 := by
  unfold bitAt
  rw [show (8 * q + r) / 8 = q from by omega, show (8 * q + r) % 8 = r from by omega]
theorem bnum_bytes (bs : List Nat) (hs : Small bs) (p m : Nat) (h : p + m ≤ bs.length) : bnum bs (8 * p) (8 * m) = num ((bs.drop p).take m) := by
  induction m with
  | zero => simp [bnum, num]
  | succ m ih =>
    have hx := getq (bs := bs) (k := p + m) (by omega)
    have hx8 := hs.at_ hx
    have hd : (bs.drop p)[m]? = some (bs.getD (p + m) 0) := by rw [List.getElem?_drop]; exact hx
    rw [take_snoc hd, num_snoc, ← ih (by omega)]
    rw [show 8 * (m + 1) = 8 * m + 1 + 1 + 1 + 1 + 1 + 1 + 1 + 1 from by omega]
    simp only [bnum]
    rw [show 8 * p + (8 * m) = 8 * (p + m) + 0 from by omega, show 8 * p + (8 * m + 1) = 8 * (p + m) + 1 from by omega, show 8 * p + (8 * m + 1 + 1) = 8 * (p + m) + 2 from by omega,
      show 8 * p + (8 * m + 1 + 1 + 1) = 8 * (p + m) + 3 from by omega, show 8 * p + (8 * m + 1 + 1 + 1 + 1) = 8 * (p + m) + 4 from by omega, show 8 * p + (8 * m + 1 + 1 + 1 + 1 + 1) = 8 * (p + m) + 5 from by omega,
      show 8 * p + (8 * m + 1 + 1 + 1 + 1 + 1 + 1) = 8 * (p + m) + 6 from by omega, show 8 * p + (8 * m + 1 + 1 + 1 + 1 + 1 + 1 + 1) = 8 * (p + m) + 7 from by omega]
    rw [bit_of _ _ 0 (by omega), bit_of _ _ 1 (by omega), bit_of _ _ 2 (by omega), bit_of _ _ 3 (by omega), bit_of _ _ 4 (by omega), bit_of _ _ 5 (by omega), bit_of _ _ 6 (by omega), bit_of _ _ 7 (by omega)]
    have := bits_byte (bs.getD (p + m) 0) (bnum bs (8 * p) (8 * m)) hx8
    simpa using this
/-- what 'out' is: what came in, or a block of its own -/
def Out (w : World) (B : Nat) (A : Option Addr) (xs : List Nat) : Prop := Rd w B A (by_ xs) ∨ ∃ g, A = some ⟨g, 0, none⟩ ∧ Blk w g 5 (by_ xs)
theorem Out.rd {w : World} {B : Nat} {A : Option Addr} {xs : List Nat} (h : Out w B A xs) (hB : B ≤ w.heap.size) : Rd w w.heap.size A (by_ xs) := by
  rcases h with h | ⟨g, rfl, h⟩
  · exact h.more hB
  · exact h.rd.more h.lt
theorem Out.alloc {w : World} {B : Nat} {A : Option Addr} {xs : List Nat} (h : Out w B A xs) (hB : B ≤ w.heap.size) (o : Obj) : Out (w.alloc o) B A xs := by
  rcases h with h | ⟨g, rfl, h⟩
  · exact .inl (h.alloc hB o)
  · exact .inr ⟨g, rfl, h.alloc o⟩
theorem Out.grown {w w' : World} {B n : Nat} {A : Option Addr} {xs : List Nat} {v : Value} {vs : List Value} {e : TypeId} (h : Out w B A xs) (hB : B ≤ w.heap.size) (ho : w.ownsRow B e 1 v n vs) (hne : e ≠ 5) (hg : w.grownBy w' v.ownBlock) : Out w' B A xs := by
  rcases h with h | ⟨g, rfl, h⟩
  · exact .inl (h.grown hg hB (fun k hk => (ho.lt k hk).1))
  · refine .inr ⟨g, rfl, h.grown hg ?_⟩
    rcases ho.2 with ⟨rfl, _⟩ | ⟨g', cap, cur, rfl, _, h2, _⟩
    · simp [Value.ownBlock]
    · simp only [Value.ownBlock, ne_eq, Option.some.injEq]
      rintro rfl
      unfold Blk at h
      rw [h2] at h
      injection h with h
      injection h with _ ht
      exact hne ht
end Go.Proofs.Ytbnkmfmbbbcogaa.oc
