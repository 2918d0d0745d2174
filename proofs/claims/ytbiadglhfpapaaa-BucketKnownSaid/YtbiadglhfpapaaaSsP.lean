/-
  Sorting by halves, plainly: a row told as a function of its places; exchanges, rotations, merges. Nothing of functions of Go.
-/
import Derived.Test.YtbiadglhfpapaaaOcW
set_option linter.unusedVariables false
namespace Go.Proofs.Ytbiadglhfpapaaa.ss
/-- the row with two places exchanged -/
def sw (d : Nat → Nat) (i j : Nat) : Nat → Nat := fun t => if t = i then d j else if t = j then d i else d t
def upd (d : Nat → Nat) (i x : Nat) : Nat → Nat := fun t => if t = i then x else d t
theorem sw_upd (d : Nat → Nat) (i j : Nat) : sw d i j = upd (upd d i (d j)) j (d i) := by
  funext t
  unfold sw upd
  by_cases h1 : t = i
  · subst h1
    by_cases h2 : t = j
    · subst h2; simp
    · simp [h2]
  · by_cases h2 : t = j
    · subst h2; simp [h1]
    · simp [h1, h2]
/-- what a stretch of k places from a on comes to, by f -/
def sg (f d : Nat → Nat) (a : Nat) : Nat → Nat
  | 0 => 0
  | k + 1 => sg f d a k + f (d (a + k))
theorem sg_split (f d : Nat → Nat) (a k : Nat) : ∀ l, sg f d a (k + l) = sg f d a k + sg f d (a + k) l
  | 0 => rfl
  | l + 1 => by rw [← Nat.add_assoc, sg, sg, sg_split f d a k l, Nat.add_assoc a k l]; omega
theorem sg_congr {f d e : Nat → Nat} {a : Nat} : ∀ k, (∀ t, t < k → e (a + t) = d (a + t)) → sg f e a k = sg f d a k
  | 0, _ => rfl
  | k + 1, h => by rw [sg, sg, sg_congr k (fun t ht => h t (by omega)), h k (by omega)]
theorem sg_upd (f d : Nat → Nat) (a i x : Nat) (ha : a ≤ i) : ∀ k, i < a + k → sg f (upd d i x) a k + f (d i) = sg f d a k + f x
  | 0, h => by omega
  | k + 1, h => by
    rcases Nat.lt_or_ge i (a + k) with q | q
    · have ih := sg_upd f d a i x ha k q
      have e : upd d i x (a + k) = d (a + k) := by unfold upd; rw [if_neg (by omega)]
      rw [sg, sg, e]; omega
    · have hi : i = a + k := by omega
      subst hi
      have e : sg f (upd d (a + k) x) a k = sg f d a k := sg_congr k (fun t ht => by unfold upd; rw [if_neg (by omega)])
      have e2 : upd d (a + k) x (a + k) = x := by unfold upd; rw [if_pos rfl]
      rw [sg, sg, e, e2]; omega
theorem sg_pos {f d : Nat → Nat} {a : Nat} : ∀ k, 0 < sg f d a k → ∃ t, t < k ∧ 0 < f (d (a + t))
  | 0, h => absurd h (Nat.lt_irrefl _)
  | k + 1, h => by
    rw [sg] at h
    rcases Nat.eq_zero_or_pos (f (d (a + k))) with q | q
    · obtain ⟨t, h1, h2⟩ := sg_pos k (show 0 < sg f d a k by omega)
      exact ⟨t, by omega, h2⟩
    · exact ⟨k, by omega, q⟩
theorem sg_has {f d : Nat → Nat} {a t : Nat} : ∀ k, t < k → f (d (a + t)) ≤ sg f d a k
  | 0, h => absurd h (Nat.not_lt_zero _)
  | k + 1, h => by
    rw [sg]
    rcases Nat.lt_or_ge t k with q | q
    · have := sg_has (f := f) (d := d) (a := a) k q; omega
    · rw [show t = k by omega]; omega
/-- e holds from a to b what d held there, in whatever order; elsewhere it is d -/
structure Seg (a b : Nat) (d e : Nat → Nat) : Prop where
  out : ∀ t, t < a ∨ b ≤ t → e t = d t
  sum : ∀ f, sg f e a (b - a) = sg f d a (b - a)
theorem Seg.refl (a b : Nat) (d : Nat → Nat) : Seg a b d d := ⟨fun _ _ => rfl, fun _ => rfl⟩
theorem Seg.trans {a b : Nat} {d e g : Nat → Nat} (h : Seg a b d e) (k : Seg a b e g) : Seg a b d g := ⟨fun t ht => (k.out t ht).trans (h.out t ht), fun f => (k.sum f).trans (h.sum f)⟩
theorem Seg.wide {a b x y : Nat} {d e : Nat → Nat} (h : Seg a b d e) (hx : x ≤ a) (hab : a ≤ b) (hy : b ≤ y) : Seg x y d e := by
  refine ⟨fun t ht => h.out t (by omega), fun f => ?_⟩
  rw [show y - x = (a - x) + ((b - a) + (y - b)) from by omega, sg_split, sg_split, sg_split, sg_split, show x + (a - x) = a from by omega, show a + (b - a) = b from by omega, h.sum f, sg_congr (d := d) (e := e) (a := x) (a - x) (fun t ht => h.out _ (by omega)), sg_congr (d := d) (e := e) (a := b) (y - b) (fun t ht => h.out _ (by omega))]
theorem Seg.swap {a b i j : Nat} (d : Nat → Nat) (hi : a ≤ i ∧ i < b) (hj : a ≤ j ∧ j < b) : Seg a b d (sw d i j) := by
  refine ⟨fun t ht => ?_, fun f => ?_⟩
  · unfold sw; rw [if_neg (by omega), if_neg (by omega)]
  · rw [sw_upd]
    have h1 := sg_upd f d a i (d j) hi.1 (b - a) (by omega)
    have h2 := sg_upd f (upd d i (d j)) a j (d i) hj.1 (b - a) (by omega)
    have e : upd d i (d j) j = d j := by
      unfold upd
      by_cases q : j = i
      · rw [if_pos q]
      · rw [if_neg q]
    rw [e] at h2
    omega
theorem Seg.mem {a b t : Nat} {d e : Nat → Nat} (h : Seg a b d e) (ha : a ≤ t) (hb : t < b) : ∃ s, a ≤ s ∧ s < b ∧ e t = d s := by
  have h1 := sg_has (f := fun v => if v = e t then 1 else 0) (d := e) (a := a) (t := t - a) (b - a) (by omega)
  rw [show a + (t - a) = t from by omega, if_pos rfl, h.sum] at h1
  obtain ⟨s, hs, hp⟩ := sg_pos _ (show 0 < sg (fun v => if v = e t then 1 else 0) d a (b - a) from h1)
  refine ⟨a + s, by omega, by omega, ?_⟩
  by_cases q : d (a + s) = e t
  · exact q.symm
  · simp [q] at hp
/-- by rising keys from a to b -/
def So (K d : Nat → Nat) (a b : Nat) : Prop := ∀ s t, a ≤ s → s ≤ t → t < b → K (d s) ≤ K (d t)
theorem So.one (K d : Nat → Nat) (a b : Nat) (h : b ≤ a + 1) : So K d a b := fun s t h1 h2 h3 => by
  have e : s = t := by omega
  subst e; exact Nat.le_refl _
theorem So.cut {K d : Nat → Nat} {a b x y : Nat} (h : So K d a b) (hx : a ≤ x) (hy : y ≤ b) : So K d x y := fun s t h1 h2 h3 => h s t (by omega) h2 (by omega)
theorem So.congr {K d e : Nat → Nat} {a b : Nat} (h : So K d a b) (he : ∀ t, a ≤ t → t < b → e t = d t) : So K e a b := fun s t h1 h2 h3 => by
  rw [he s h1 (by omega), he t (by omega) h3]; exact h s t h1 h2 h3
/-- two sorted stretches, the first's not above the second's -/
theorem So.join {K d : Nat → Nat} {a m b : Nat} (h1 : So K d a m) (h2 : So K d m b) (h : ∀ s t, a ≤ s → s < m → m ≤ t → t < b → K (d s) ≤ K (d t)) : So K d a b := fun s t i1 i2 i3 => by
  rcases Nat.lt_or_ge t m with q | q
  · exact h1 s t i1 i2 q
  · rcases Nat.lt_or_ge s m with r | r
    · exact h s t i1 r q i3
    · exact h2 s t r i2 i3
/-! ### swapRange -/
def swr (a b n : Nat) (d : Nat → Nat) : Nat → Nat := fun t => if a ≤ t ∧ t < a + n then d (t - a + b) else if b ≤ t ∧ t < b + n then d (t - b + a) else d t
theorem swr_zero (a b : Nat) (d : Nat → Nat) : swr a b 0 d = d := by
  funext t; unfold swr; rw [if_neg (by omega), if_neg (by omega)]
theorem swr_step {a b n k : Nat} (d : Nat → Nat) (hab : a + n ≤ b) (hk : k < n) : sw (swr a b k d) (a + k) (b + k) = swr a b (k + 1) d := by
  funext t
  unfold sw
  by_cases h1 : t = a + k
  · rw [if_pos h1]; unfold swr
    rw [if_neg (by omega), if_neg (by omega), if_pos (by omega)]
    all_goals (congr 1 <;> omega)
  · rw [if_neg h1]
    by_cases h2 : t = b + k
    · rw [if_pos h2]; unfold swr
      rw [if_neg (by omega), if_neg (by omega), if_neg (by omega), if_pos (by omega)]
      all_goals (congr 1 <;> omega)
    · rw [if_neg h2]; unfold swr
      by_cases h3 : a ≤ t ∧ t < a + k
      · rw [if_pos h3, if_pos (by omega)]
      · by_cases h4 : b ≤ t ∧ t < b + k
        · rw [if_neg h3, if_pos h4, if_neg (by omega), if_pos (by omega)]
        · rw [if_neg h3, if_neg h4, if_neg (by omega), if_neg (by omega)]
/-! ### rotate -/
def rot (a m b : Nat) (d : Nat → Nat) : Nat → Nat := fun t => if a ≤ t ∧ t < a + (b - m) then d (t + (m - a)) else if a + (b - m) ≤ t ∧ t < b then d (t - (b - m)) else d t
theorem rot_left {m i j : Nat} (d : Nat → Nat) (hi : i ≤ m) (hj : 0 < j) (h : j < i) : rot (m - (i - j)) m (m + j) (swr (m - i) m j d) = rot (m - i) m (m + j) d := by
  funext t
  unfold rot swr
  by_cases h1 : m - i ≤ t ∧ t < m - i + j
  · rw [if_neg (by omega), if_neg (by omega), if_pos (by omega), if_pos (by omega)]
    all_goals (congr 1 <;> omega)
  · by_cases h2 : m - (i - j) ≤ t ∧ t < m - (i - j) + j
    · rw [if_pos (by omega), if_neg (by omega), if_pos (by omega), if_neg (by omega), if_pos (by omega)]
      all_goals (congr 1 <;> omega)
    · by_cases h3 : m - i + j ≤ t ∧ t < m + j
      · rw [if_neg (by omega), if_pos (by omega), if_neg (by omega), if_neg (by omega), if_neg (by omega), if_pos (by omega)]
        all_goals (congr 1 <;> omega)
      · rw [if_neg (by omega), if_neg (by omega), if_neg (by omega), if_neg (by omega), if_neg (by omega), if_neg (by omega)]
theorem rot_right {m i j : Nat} (d : Nat → Nat) (hi : i ≤ m) (hj : 0 < i) (h : i < j) : rot (m - i) m (m + (j - i)) (swr (m - i) (m + j - i) i d) = rot (m - i) m (m + j) d := by
  funext t
  unfold rot swr
  by_cases h1 : m - i ≤ t ∧ t < m - i + (j - i)
  · by_cases h4 : t + i < m
    · omega
    · rw [if_pos (by omega), if_neg (by omega), if_neg (by omega), if_pos (by omega)]
      all_goals (congr 1 <;> omega)
  · by_cases h2 : m - i + (j - i) ≤ t ∧ t < m + (j - i)
    · by_cases h5 : t < m - i + j
      · rw [if_neg (by omega), if_pos (by omega), if_pos (by omega), if_pos (by omega)]
        all_goals (congr 1 <;> omega)
      · omega
    · by_cases h3 : m + (j - i) ≤ t ∧ t < m + j
      · rw [if_neg (by omega), if_neg (by omega), if_neg (by omega), if_pos (by omega), if_neg (by omega), if_pos (by omega)]
        all_goals (congr 1 <;> omega)
      · rw [if_neg (by omega), if_neg (by omega), if_neg (by omega), if_neg (by omega), if_neg (by omega), if_neg (by omega)]
theorem rot_even {m i : Nat} (d : Nat → Nat) (hi : i ≤ m) : swr (m - i) m i d = rot (m - i) m (m + i) d := by
  funext t
  unfold rot swr
  by_cases h1 : m - i ≤ t ∧ t < m - i + i
  · rw [if_pos h1, if_pos (by omega)]; congr 1 <;> omega
  · by_cases h2 : m ≤ t ∧ t < m + i
    · rw [if_neg h1, if_pos h2, if_neg (by omega), if_pos (by omega)]; congr 1 <;> omega
    · rw [if_neg h1, if_neg h2, if_neg (by omega), if_neg (by omega)]
/-! ### one element into a sorted stretch -/
def shl (a k : Nat) (d : Nat → Nat) : Nat → Nat := fun t => if a ≤ t ∧ t < k then d (t + 1) else if t = k then d a else d t
theorem shl_zero (a : Nat) (d : Nat → Nat) : shl a a d = d := by
  funext t; unfold shl; rw [if_neg (by omega)]
  by_cases h : t = a
  · rw [if_pos h, h]
  · rw [if_neg h]
theorem shl_step {a k : Nat} (d : Nat → Nat) (h : a ≤ k) : sw (shl a k d) k (k + 1) = shl a (k + 1) d := by
  funext t
  unfold sw shl
  by_cases h1 : t = k
  · rw [if_pos h1, if_neg (by omega), if_neg (by omega), if_pos (by omega), h1]
  · rw [if_neg h1]
    by_cases h2 : t = k + 1
    · rw [if_pos h2, if_neg (by omega), if_pos rfl, if_neg (by omega), if_pos h2]
    · rw [if_neg h2, if_neg h1, if_neg h2]
      by_cases h3 : a ≤ t ∧ t < k
      · rw [if_pos h3, if_pos (by omega)]
      · rw [if_neg h3, if_neg (by omega)]
theorem shl_so {K d : Nat → Nat} {a i b : Nat} (hai : a < i) (hib : i ≤ b) (h2 : So K d (a + 1) b) (hlo : ∀ t, a + 1 ≤ t → t < i → K (d t) < K (d a)) (hhi : ∀ t, i ≤ t → t < b → K (d a) ≤ K (d t)) : So K (shl a (i - 1) d) a b := by
  intro s t h1 h3 h4
  unfold shl
  by_cases s1 : a ≤ s ∧ s < i - 1
  · rw [if_pos s1]
    by_cases t1 : a ≤ t ∧ t < i - 1
    · rw [if_pos t1]; exact h2 _ _ (by omega) (by omega) (by omega)
    · rw [if_neg t1]
      by_cases t2 : t = i - 1
      · rw [if_pos t2]; exact Nat.le_of_lt (hlo _ (by omega) (by omega))
      · rw [if_neg t2]; exact h2 _ _ (by omega) (by omega) (by omega)
  · rw [if_neg s1, if_neg (show ¬ (a ≤ t ∧ t < i - 1) by omega)]
    by_cases s2 : s = i - 1
    · rw [if_pos s2]
      by_cases t2 : t = i - 1
      · rw [if_pos t2]; exact Nat.le_refl _
      · rw [if_neg t2]; exact hhi _ (by omega) (by omega)
    · rw [if_neg s2, if_neg (show ¬ t = i - 1 by omega)]; exact h2 _ _ (by omega) h3 h4
def shr (m k : Nat) (d : Nat → Nat) : Nat → Nat := fun t => if k < t ∧ t ≤ m then d (t - 1) else if t = k then d m else d t
theorem shr_zero (m : Nat) (d : Nat → Nat) : shr m m d = d := by
  funext t; unfold shr; rw [if_neg (by omega)]
  by_cases h : t = m
  · rw [if_pos h, h]
  · rw [if_neg h]
theorem shr_step {m k : Nat} (d : Nat → Nat) (h : k + 1 ≤ m) : sw (shr m (k + 1) d) (k + 1) k = shr m k d := by
  funext t
  unfold sw shr
  by_cases h1 : t = k + 1
  · rw [if_pos h1, if_neg (by omega), if_neg (by omega), if_pos (by omega), h1]; rfl
  · rw [if_neg h1]
    by_cases h2 : t = k
    · rw [if_pos h2, if_neg (by omega), if_pos rfl, if_neg (by omega), if_pos h2]
    · rw [if_neg h2, if_neg h1, if_neg h2]
      by_cases h3 : k + 1 < t ∧ t ≤ m
      · rw [if_pos h3, if_pos (by omega)]
      · rw [if_neg h3, if_neg (by omega)]
theorem shr_so {K d : Nat → Nat} {a i m : Nat} (hai : a ≤ i) (him : i ≤ m) (h1 : So K d a m) (hlo : ∀ t, a ≤ t → t < i → K (d t) ≤ K (d m)) (hhi : ∀ t, i ≤ t → t < m → K (d m) < K (d t)) : So K (shr m i d) a (m + 1) := by
  intro s t h2 h3 h4
  unfold shr
  by_cases s1 : i < s ∧ s ≤ m
  · rw [if_pos s1, if_pos (show i < t ∧ t ≤ m by omega)]; exact h1 _ _ (by omega) (by omega) (by omega)
  · rw [if_neg s1]
    by_cases s2 : s = i
    · rw [if_pos s2]
      by_cases t1 : i < t ∧ t ≤ m
      · rw [if_pos t1]; exact Nat.le_of_lt (hhi _ (by omega) (by omega))
      · rw [if_neg t1, if_pos (show t = i by omega)]; exact Nat.le_refl _
    · rw [if_neg s2]
      by_cases t1 : i < t ∧ t ≤ m
      · rw [if_pos t1]; exact h1 _ _ h2 (by omega) (by omega)
      · rw [if_neg t1]
        by_cases t2 : t = i
        · rw [if_pos t2]; exact hlo _ h2 (by omega)
        · rw [if_neg t2]; exact h1 _ _ h2 h3 (by omega)
/-! ### the merge -/
/-- where the halves are cut: s on the left of m, mid + m - s on its right -/
structure Cut (K d : Nat → Nat) (a m b mid s : Nat) : Prop where
  as : a ≤ s
  sm : s ≤ m
  sd : s ≤ mid
  eb : mid + m - s ≤ b
  md : a ≤ mid ∧ mid ≤ b
  lo : a < s → mid + m - s < b → K (d (s - 1)) ≤ K (d (mid + m - s))
  hi : s < m → s < mid → K (d (mid + m - s - 1)) < K (d s)
/-- behind the rotation: each half is two sorted stretches, and the first half lies below the second -/
theorem Cut.rot_ {K d : Nat → Nat} {a m b mid s : Nat} (c : Cut K d a m b mid s) (ham : a < m) (hmb : m < b) (h1 : So K d a m) (h2 : So K d m b) :
    So K (rot s m (mid + m - s) d) a s ∧ So K (rot s m (mid + m - s) d) s mid ∧ So K (rot s m (mid + m - s) d) mid (mid + m - s) ∧ So K (rot s m (mid + m - s) d) (mid + m - s) b ∧ (∀ x y, a ≤ x → x < mid → mid ≤ y → y < b → K (rot s m (mid + m - s) d x) ≤ K (rot s m (mid + m - s) d y)) := by
  obtain ⟨as, sm, sd, eb, md, lo, hi⟩ := c
  have em : mid + m - s - m = mid - s := by omega
  have v1 : ∀ t, t < s → rot s m (mid + m - s) d t = d t := fun t ht => by unfold rot; rw [if_neg (by omega), if_neg (by omega)]
  have v2 : ∀ t, s ≤ t → t < mid → rot s m (mid + m - s) d t = d (t + (m - s)) := fun t h1 h2 => by unfold rot; rw [if_pos (by omega)]
  have v3 : ∀ t, mid ≤ t → t < mid + m - s → rot s m (mid + m - s) d t = d (t - (mid - s)) := fun t h1 h2 => by unfold rot; rw [if_neg (by omega), if_pos (by omega), em]
  have v4 : ∀ t, mid + m - s ≤ t → rot s m (mid + m - s) d t = d t := fun t h1 => by unfold rot; rw [if_neg (by omega), if_neg (by omega)]
  refine ⟨fun x y i1 i2 i3 => ?_, fun x y i1 i2 i3 => ?_, fun x y i1 i2 i3 => ?_, fun x y i1 i2 i3 => ?_, fun x y i1 i2 i3 i4 => ?_⟩
  · rw [v1 x (by omega), v1 y i3]; exact h1 _ _ i1 i2 (by omega)
  · rw [v2 x i1 (by omega), v2 y (by omega) i3]; exact h2 _ _ (by omega) (by omega) (by omega)
  · rw [v3 x i1 (by omega), v3 y (by omega) i3]; exact h1 _ _ (by omega) (by omega) (by omega)
  · rw [v4 x i1, v4 y (by omega)]; exact h2 _ _ (by omega) i2 i3
  · rcases Nat.lt_or_ge x s with q | q
    · rw [v1 x q]
      rcases Nat.lt_or_ge y (mid + m - s) with r | r
      · rw [v3 y i3 r]; exact h1 _ _ i1 (by omega) (by omega)
      · rw [v4 y r]
        have e1 := h1 x (s - 1) i1 (by omega) (by omega)
        have e2 := h2 (mid + m - s) y (by omega) r i4
        have e3 := lo (by omega) (by omega)
        omega
    · rw [v2 x q i2]
      rcases Nat.lt_or_ge y (mid + m - s) with r | r
      · rw [v3 y i3 r]
        have e1 := h2 (x + (m - s)) (mid + m - s - 1) (by omega) (by omega) (by omega)
        have e2 := h1 s (y - (mid - s)) as (by omega) (by omega)
        have e3 := hi (by omega) (by omega)
        omega
      · rw [v4 y r]; exact h2 _ _ (by omega) (by omega) i4
/-- the halves, sorted each by itself, are the whole sorted -/
theorem halves {K d e : Nat → Nat} {a mid b : Nat} (hs1 : Seg a mid d e) (hs1' : So K e a mid) (h : ∀ x y, a ≤ x → x < mid → mid ≤ y → y < b → K (d x) ≤ K (d y)) : ∀ x y, a ≤ x → x < mid → mid ≤ y → y < b → K (e x) ≤ K (e y) := by
  intro x y i1 i2 i3 i4
  obtain ⟨s, s1, s2, s3⟩ := hs1.mem i1 i2
  rw [s3, hs1.out y (by omega)]
  exact h s y s1 s2 i3 i4
theorem halves2 {K d e : Nat → Nat} {a mid b : Nat} (hs1 : Seg mid b d e) (h : ∀ x y, a ≤ x → x < mid → mid ≤ y → y < b → K (d x) ≤ K (d y)) : ∀ x y, a ≤ x → x < mid → mid ≤ y → y < b → K (e x) ≤ K (e y) := by
  intro x y i1 i2 i3 i4
  obtain ⟨s, s1, s2, s3⟩ := hs1.mem i3 i4
  rw [s3, hs1.out x (by omega)]
  exact h x s i1 i2 s1 s2
/-! ### insertion -/
/-- all but the place j are sorted from a to i, and what lies behind j is above it -/
structure Ins (K d : Nat → Nat) (a i j : Nat) : Prop where
  rest : ∀ s t, a ≤ s → s ≤ t → t ≤ i → s ≠ j → t ≠ j → K (d s) ≤ K (d t)
  up : ∀ t, j < t → t ≤ i → K (d j) ≤ K (d t)
theorem Ins.start {K d : Nat → Nat} {a i : Nat} (h : So K d a i) : Ins K d a i i := ⟨fun s t h1 h2 h3 h4 h5 => h s t h1 h2 (by omega), fun t h1 h2 => by omega⟩
theorem Ins.step {K d : Nat → Nat} {a i j : Nat} (h : Ins K d a i (j + 1)) (ha : a ≤ j) (hi : j + 1 ≤ i) (hl : K (d (j + 1)) < K (d j)) : Ins K (sw d (j + 1) j) a i j := by
  have v1 : sw d (j + 1) j (j + 1) = d j := by unfold sw; rw [if_pos rfl]
  have v2 : sw d (j + 1) j j = d (j + 1) := by unfold sw; rw [if_neg (by omega), if_pos rfl]
  have v3 : ∀ t, t ≠ j + 1 → t ≠ j → sw d (j + 1) j t = d t := fun t h1 h2 => by unfold sw; rw [if_neg h1, if_neg h2]
  refine ⟨fun s t h1 h2 h3 h4 h5 => ?_, fun t h1 h2 => ?_⟩
  · by_cases s1 : s = j + 1
    · subst s1
      rw [v1]
      by_cases t1 : t = j + 1
      · subst t1; rw [v1]; exact Nat.le_refl _
      · rw [v3 t t1 h5]; exact h.rest j t ha (by omega) h3 (by omega) t1
    · rw [v3 s s1 h4]
      by_cases t1 : t = j + 1
      · subst t1; rw [v1]; exact h.rest s j h1 (by omega) (by omega) s1 (by omega)
      · rw [v3 t t1 h5]; exact h.rest s t h1 h2 h3 s1 t1
  · rw [v2]
    by_cases t1 : t = j + 1
    · subst t1; rw [v1]; omega
    · rw [v3 t t1 (by omega)]; exact h.up t (by omega) h2
theorem Ins.done {K d : Nat → Nat} {a i j : Nat} (h : Ins K d a i j) (hji : j ≤ i) (hs : j ≤ a ∨ K (d (j - 1)) ≤ K (d j)) : So K d a (i + 1) := by
  intro s t h1 h2 h3
  by_cases s1 : s = j
  · subst s1
    by_cases t1 : t = s
    · subst t1; exact Nat.le_refl _
    · exact h.up t (by omega) (by omega)
  · by_cases t1 : t = j
    · subst t1
      rcases hs with q | q
      · omega
      · have := h.rest s (t - 1) h1 (by omega) (by omega) s1 (by omega)
        omega
    · exact h.rest s t h1 h2 (by omega) s1 t1
/-! ### blocks -/
/-- the blocks of bs places below x are sorted each -/
def Bls (K d : Nat → Nat) (bs n x : Nat) : Prop := ∀ q, bs * q < x → So K d (bs * q) (min (bs * q + bs) n)
theorem Bls.all {K d : Nat → Nat} {bs n : Nat} (h : Bls K d bs n n) (hn : n ≤ bs) : So K d 0 n := by
  rcases Nat.eq_zero_or_pos n with q | q
  · subst q; exact So.one _ _ _ _ (by omega)
  · have := h 0 (by omega)
    rw [Nat.mul_zero, Nat.zero_add, show min bs n = n from by omega] at this
    exact this
end Go.Proofs.Ytbiadglhfpapaaa.ss
