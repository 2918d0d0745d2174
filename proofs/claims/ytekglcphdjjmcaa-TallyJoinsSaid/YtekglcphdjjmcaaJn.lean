/-
  Histograms joined, plainly; slices of histograms as arguments.
-/
import Derived.Test.YtekglcphdjjmcaaOcFlat
import Derived.Test.YtekglcphdjjmcaaEqA
import Derived.Test.YtekglcphdjjmcaaThG
set_option linter.unusedVariables false
namespace Go.Proofs.Ytekglcphdjjmcaa.th
open Go.RowKit Go.Proofs.Ytekglcphdjjmcaa.oc Go.Proofs.Ytekglcphdjjmcaa.mz
/-- word k of two histograms' join -/
def jw (a b : List Nat) (k : Nat) : Nat := if k < 66 then (a[k]?.getD 0 + b[k]?.getD 0) % W64 else max (a[k]?.getD 0) (b[k]?.getD 0)
def jn (a b : List Nat) : List Nat := (List.range 67).map (jw a b)
def joined (ls : List (List Nat)) : List Nat := ls.foldl jn (List.replicate 67 0)
theorem jn_len (a b : List Nat) : (jn a b).length = 67 := by simp [jn]
theorem joined_snoc (ls : List (List Nat)) (x : List Nat) : joined (ls ++ [x]) = jn (joined ls) x := by simp [joined]
theorem joined_len (ls : List (List Nat)) : (joined ls).length = 67 := by
  rcases List.eq_nil_or_concat ls with rfl | ⟨r, x, rfl⟩
  · simp [joined]
  · rw [List.concat_eq_append, joined_snoc, jn_len]
theorem jn_at (a b : List Nat) {k : Nat} (h : k < 67) : (jn a b)[k]? = some (jw a b k) := by simp [jn, h]
/-- joined up to k -/
def part (a b : List Nat) (k : Nat) : List Nat := (jn a b).take k ++ a.drop k
theorem part_zero (a b : List Nat) : part a b 0 = a := by simp [part]
theorem part_all {a b : List Nat} (h : a.length = 67) : part a b 67 = jn a b := by
  unfold part
  rw [List.take_of_length_le (by rw [jn_len]; omega), List.drop_eq_nil_of_le (by omega), List.append_nil]
theorem part_len {a b : List Nat} {k : Nat} (h : a.length = 67) (hk : k ≤ 67) : (part a b k).length = 67 := by simp [part, jn_len, h]; omega
theorem part_at {a b : List Nat} {k : Nat} (h : a.length = 67) (hk : k ≤ 67) : (part a b k)[k]? = a[k]? := by
  unfold part
  rw [List.getElem?_append_right (by simp [jn_len]; omega), List.getElem?_drop]
  congr 1
  simp [jn_len]; omega
theorem part_set {a b : List Nat} {k : Nat} (h : a.length = 67) (hk : k < 67) : (part a b k).set k (jw a b k) = part a b (k + 1) := by
  unfold part
  have hl : ((jn a b).take k).length = k := by simp [jn_len]; omega
  rw [List.set_append_right _ _ (by omega), hl, Nat.sub_self, List.drop_eq_getElem_cons (by omega), List.set_cons_zero, List.take_add_one, jn_at a b hk]
  simp only [Option.toList_some, List.append_assoc, List.cons_append, List.nil_append]
theorem jw_lt {a b : List Nat} (ha : ∀ y ∈ a, y < 18446744073709551616) (hb : ∀ y ∈ b, y < 18446744073709551616) (k : Nat) : jw a b k < 18446744073709551616 := by
  have get : ∀ l : List Nat, (∀ y ∈ l, y < 18446744073709551616) → l[k]?.getD 0 < 18446744073709551616 := fun l hl => by
    rcases Nat.lt_or_ge k l.length with q | q
    · rw [List.getElem?_eq_getElem q]; exact hl _ (List.getElem_mem q)
    · rw [List.getElem?_eq_none q]; simp
  have h1 := get a ha
  have h2 := get b hb
  unfold jw
  split
  · exact mod_lt64 _
  · omega
theorem jn_lt {a b : List Nat} (ha : ∀ y ∈ a, y < 18446744073709551616) (hb : ∀ y ∈ b, y < 18446744073709551616) : ∀ y ∈ jn a b, y < 18446744073709551616 := fun y hy => by
  simp only [jn, List.mem_map] at hy
  obtain ⟨k, _, rfl⟩ := hy
  exact jw_lt ha hb k
theorem joined_lt : ∀ (ls : List (List Nat)), (∀ x ∈ ls, ∀ y ∈ x, y < 18446744073709551616) → ∀ y ∈ joined ls, y < 18446744073709551616 := by
  intro ls
  have gen : ∀ (ls : List (List Nat)) (a : List Nat), (∀ y ∈ a, y < 18446744073709551616) → (∀ x ∈ ls, ∀ y ∈ x, y < 18446744073709551616) → ∀ y ∈ ls.foldl jn a, y < 18446744073709551616 := by
    intro ls
    induction ls with
    | nil => intro a ha _; exact ha
    | cons x r ih => intro a ha h; exact ih _ (jn_lt ha (h x (by simp))) (fun z hz => h z (by simp [hz]))
  exact fun h => gen ls _ (fun y hy => by have := (List.mem_replicate.1 hy).2; omega) h
theorem cell_of {w : World} {X : Nat} {t : TypeId} {p : List Nat} (h : Blk w X t (u64s p)) {j : Nat} (hj : j < p.length) : w.cell? ⟨X, j, none⟩ = some (.int .u64 ((p[j]?.getD 0 : Nat) : Int)) := by
  rw [h.cell]
  have : p[j]? = some (p[j]?.getD 0) := by rw [List.getElem?_eq_getElem hj]; rfl
  rw [u64s, List.getElem?_map, this]; rfl
theorem part_cell {w : World} {X : Nat} {t : TypeId} {a b : List Nat} {j : Nat} (h : Blk w X t (u64s (part a b j))) (ha : a.length = 67) (hj : j < 67) : w.cell? ⟨X, j, none⟩ = some (.int .u64 ((a[j]?.getD 0 : Nat) : Int)) := by
  have := cell_of h (j := j) (by rw [part_len ha (by omega)]; exact hj)
  rwa [part_at ha (by omega)] at this
theorem part_next {w : World} {X : Nat} {t : TypeId} {a b : List Nat} {j i : Nat} (h : Blk w X t (u64s (part a b j))) (ha : a.length = 67) (hj : j ≤ i) (hi : i < 67) : w.cell? ⟨X, i, none⟩ = some (.int .u64 ((a[i]?.getD 0 : Nat) : Int)) := by
  have := cell_of h (j := i) (by rw [part_len ha (by omega)]; exact hi)
  have e : (part a b j)[i]? = a[i]? := by
    unfold part
    rw [List.getElem?_append_right (by simp [jn_len]; omega), List.getElem?_drop]
    congr 1
    simp [jn_len]; omega
  rwa [e] at this
theorem part_put {w : World} {X : Nat} {t : TypeId} {a b : List Nat} {j : Nat} (h : Blk w X t (u64s (part a b j))) (ha : a.length = 67) (hj : j < 67) {z : Int} (hz : z = (jw a b j : Int)) : Blk (w.setCell ⟨X, j, none⟩ (.int .u64 z)) X t (u64s (part a b (j + 1))) := by
  subst hz
  have := h.put j (.int .u64 (jw a b j : Int))
  rwa [show (u64s (part a b j)).set j (.int .u64 (jw a b j : Int)) = u64s (part a b (j + 1)) from by rw [← part_set ha hj]; simp [u64s, List.map_set]] at this
theorem jw_sum {a b : List Nat} {k : Nat} (h : k < 66) : IntKind.u64.wrap (((a[k]?.getD 0 : Nat) : Int) + ((b[k]?.getD 0 : Nat) : Int)) = (jw a b k : Int) := by
  rw [wrap_add, jw, if_pos h]
/-- the slice A of length n shows the histograms l, in blocks below B -/
def Hs (w : World) (B : Nat) (A : Option Addr) (n : Nat) (l : List (List Nat)) : Prop := l.length = n ∧ ∀ i x, l[i]? = some x → x.length = 67 ∧ (∀ y ∈ x, y < 18446744073709551616) ∧ ∃ b o, A = some ⟨b, o, none⟩ ∧ b < B ∧ w.rangeAt b (o + i * 67) (u64s x)
theorem Hs.keeps {w w' : World} {B n : Nat} {A : Option Addr} {l : List (List Nat)} {S : Nat → Prop} (h : Hs w B A n l) (k : Keeps S w w') (hs : ∀ b, b < B → ¬ S b) : Hs w' B A n l :=
  ⟨h.1, fun i x hx => by
    obtain ⟨h1, h2, b, o, h3, h4, h5⟩ := h.2 i x hx
    exact ⟨h1, h2, b, o, h3, h4, fun j v hv => k.cell (h5 j v hv) (hs b h4)⟩⟩
theorem Hs.lt {w : World} {B n : Nat} {A : Option Addr} {l : List (List Nat)} (h : Hs w B A n l) : ∀ x ∈ l, ∀ y ∈ x, y < 18446744073709551616 := fun x hx => by
  obtain ⟨i, hi, rfl⟩ := List.getElem_of_mem hx
  exact (h.2 i _ (List.getElem?_eq_getElem hi)).2.1
theorem hist_kinds : flat.kinds Try.prog 3 34 = some (List.replicate 67 (.int .u64)) := by kernel_rfl
theorem hs_of_flat {w : World} {A : Option Addr} {n : Nat} {xs : List (List Value)} (h : flat.IsFlat w (List.replicate 67 (.int .u64)) A n xs) : ∃ l, Hs w w.heap.size A n l := by
  have each : ∀ i, i < n → ∃ l : List Nat, l.length = 67 ∧ (∀ y ∈ l, y < 18446744073709551616) ∧ ∃ b o, A = some ⟨b, o, none⟩ ∧ b < w.heap.size ∧ w.rangeAt b (o + i * 67) (u64s l) := fun i hi => by
    obtain ⟨y, hy⟩ : ∃ y, xs[i]? = some y := ⟨_, List.getElem?_eq_getElem (by rw [h.1]; exact hi)⟩
    obtain ⟨h1, h2, b, o, h3, h4, h5⟩ := h.2 i y hy
    rw [List.length_replicate] at h1 h5
    obtain ⟨l, q1, q2, q3⟩ := flat.all_u64 h1 h2
    refine ⟨l, q1, q3, b, o, h3, h4, fun j v hv => h5 j v ?_⟩
    rw [q2]; exact hv
  obtain ⟨f, hf⟩ := Go.Deep.choose_lt each
  refine ⟨(List.range n).map f, by simp, fun i x hx => ?_⟩
  have hi : i < n := by have := (List.getElem?_eq_some_iff.1 hx).1; simpa using this
  simp [hi] at hx
  subst hx
  exact hf i hi
end Go.Proofs.Ytekglcphdjjmcaa.th
