/-
  Plain sums and hashes of bytes.
-/
import Derived.WalkKit
import Derived.Test.YtidengmcbppcoaaOcA
import Derived.Test.YtidengmcbppcoaaOcB
namespace Go.Proofs.Ytidengmcbppcoaa.oc
/-- the sum of numbers of 16 bits so far, and whether the next byte is a high one -/
def st (bs : List Nat) : Nat × Bool := bs.foldl (fun s x => (s.1 + (if s.2 then x * 256 else x), !s.2)) (0, true)
theorem st_snoc (bs : List Nat) (x : Nat) : st (bs ++ [x]) = ((st bs).1 + (if (st bs).2 then x * 256 else x), !(st bs).2) := by unfold st; rw [List.foldl_append]; rfl
theorem st_snoc1 (bs : List Nat) (x : Nat) (h : (st bs).2 = true) : (st (bs ++ [x])).1 = (st bs).1 + x * 256 ∧ (st (bs ++ [x])).2 = false := by rw [st_snoc, h]; simp
theorem st_snoc0 (bs : List Nat) (x : Nat) (h : (st bs).2 = false) : (st (bs ++ [x])).1 = (st bs).1 + x ∧ (st (bs ++ [x])).2 = true := by rw [st_snoc, h]; simp
theorem st_par (bs : List Nat) : ∀ s : Nat × Bool, (bs.foldl (fun s x => (s.1 + (if s.2 then x * 256 else x), !s.2)) s).2 = (if bs.length % 2 = 0 then s.2 else !s.2) := by
  induction bs with
  | nil => intro s; simp
  | cons x r ih =>
    intro s
    rw [List.foldl_cons, ih, List.length_cons]
    by_cases h : r.length % 2 = 0
    · have h' : ¬ (r.length + 1) % 2 = 0 := by omega
      simp [h, h']
    · have h' : (r.length + 1) % 2 = 0 := by omega
      simp [h, h']
theorem st_even {bs : List Nat} (h : bs.length % 2 = 0) : (st bs).2 = true := by unfold st; rw [st_par, if_pos h]
theorem st_odd {bs : List Nat} (h : bs.length % 2 = 1) : (st bs).2 = false := by unfold st; rw [st_par, if_neg (by omega)]; rfl
/-- by how many bits the next byte is shifted -/
def sh (bs : List Nat) : Int := if (st bs).2 then 8 else 0
theorem sh_true {bs : List Nat} (h : (st bs).2 = true) : sh bs = 8 := by unfold sh; rw [h]; rfl
theorem sh_false {bs : List Nat} (h : (st bs).2 = false) : sh bs = 0 := by unfold sh; rw [h]; rfl
theorem st_go (bs : List Nat) (h : Small bs) (s : Nat × Bool) : (bs.foldl (fun s x => (s.1 + (if s.2 then x * 256 else x), !s.2)) s).1 ≤ s.1 + 65280 * bs.length := by
  induction bs generalizing s with
  | nil => simp
  | cons x r ih =>
    have h1 := ih (fun y hy => h y (List.mem_cons_of_mem _ hy)) (s.1 + (if s.2 then x * 256 else x), !s.2)
    have h2 := h x (by simp)
    rw [List.foldl_cons, List.length_cons]
    have h3 : (if s.2 then x * 256 else x) ≤ 65280 := by split <;> omega
    simp only at h1
    omega
theorem st_le (bs : List Nat) (h : Small bs) : (st bs).1 ≤ 65280 * bs.length := by
  have := st_go bs h (0, true)
  unfold st
  simpa using this
/-- the sum so far, as a number alone -/
def tot (bs : List Nat) : Nat := (st bs).1
theorem tot_le (bs : List Nat) (h : Small bs) : tot bs ≤ 65280 * bs.length := st_le bs h
theorem tot_true {bs : List Nat} (h : (st bs).2 = true) (x : Nat) : tot (bs ++ [x]) = tot bs + x * 256 ∧ sh (bs ++ [x]) = 0 := ⟨(st_snoc1 bs x h).1, sh_false (st_snoc1 bs x h).2⟩
theorem tot_false {bs : List Nat} (h : (st bs).2 = false) (x : Nat) : tot (bs ++ [x]) = tot bs + x ∧ sh (bs ++ [x]) = 8 := ⟨(st_snoc0 bs x h).1, sh_true (st_snoc0 bs x h).2⟩
theorem tot_two {bs : List Nat} (h : bs.length % 2 = 0) (x y : Nat) : tot (bs ++ [x, y]) = tot bs + (x * 256 + y) := by
  have h1 := tot_true (st_even h) x
  have h2 : (bs ++ [x]).length % 2 = 1 := by rw [List.length_append, List.length_singleton]; omega
  have h3 := tot_false (st_odd h2) y
  rw [show bs ++ [x, y] = (bs ++ [x]) ++ [y] from by simp, h3.1, h1.1]
  omega
theorem fold_self (t : Nat) : fold (t + (65535 - fold t)) = 65535 := by
  unfold fold
  by_cases h : t = 0
  · subst h; rfl
  · rw [if_neg h, if_neg (by omega)]
    omega
/-- the internet checksum -/
def csum (bs : List Nat) : Nat := 65535 - fold (tot bs)
theorem csum_le (bs : List Nat) : csum bs ≤ 65535 := by unfold csum; omega
theorem csum_int (bs : List Nat) : (65535 : Int) - (fold (tot bs) : Nat) = (csum bs : Nat) := by
  have := fold_le (tot bs)
  unfold csum
  omega
/-- a sum laid behind an even number of bytes makes 0 of it -/
theorem csum_self {bs : List Nat} (h : bs.length % 2 = 0) : csum (bs ++ be 2 (csum bs)) = 0 := by
  have hc := csum_le bs
  have e : be 2 (csum bs) = [csum bs / 256 % 256, csum bs % 256] := by simp [be]
  rw [e]
  unfold csum at *
  rw [tot_two h]
  have h1 : (65535 - fold (tot bs)) / 256 % 256 * 256 + (65535 - fold (tot bs)) % 256 = 65535 - fold (tot bs) := by omega
  rw [h1, fold_self]
theorem csum_tot {a b : List Nat} (h : tot a = tot b) : csum a = csum b := by unfold csum; rw [h]
/-- one step of the hash -/
@[irreducible] def hstep (h x : Nat) : Nat := (h ^^^ x) * 1099511628211 % 18446744073709551616
def fnv (bs : List Nat) : Nat := bs.foldl hstep 14695981039346656037
theorem fnv_snoc (bs : List Nat) (x : Nat) : fnv (bs ++ [x]) = hstep (fnv bs) x := by unfold fnv; rw [List.foldl_append, List.foldl_cons, List.foldl_nil]
theorem hstep_lt (h x : Nat) : hstep h x < 18446744073709551616 := by unfold hstep; omega
theorem fnv_go (bs : List Nat) (h N : Nat) (hN : ∀ h x, hstep h x < N) (hh : h < N) : bs.foldl hstep h < N := by
  induction bs generalizing h with
  | nil => exact hh
  | cons x r ih => exact ih _ (hN h x)
theorem fnv_lt (bs : List Nat) : fnv bs < 18446744073709551616 := by
  unfold fnv
  exact fnv_go bs _ _ hstep_lt (by omega)
theorem hstep_int (h x : Nat) : IntKind.u64.wrap (((h ^^^ x : Nat) : Int) * 1099511628211) = (hstep h x : Nat) := by
  rw [IntKind.wrap_u64]
  unfold hstep
  generalize h ^^^ x = y
  have e : ((y : Int) * 1099511628211) = ((y * 1099511628211 : Nat) : Int) := by rw [Int.natCast_mul]; rfl
  rw [e]
  exact (Int.natCast_emod _ _).symm
end Go.Proofs.Ytidengmcbppcoaa.oc
