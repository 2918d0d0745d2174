/-
  The law OctetsKnown, walked: the chapter's examples, call by call.
-/
import Derived.Test.YtbnkmfmbbbcogaaOcLawCommon
import Derived.Lib.SlBytesConst
namespace Go.Proofs.Ytbnkmfmbbbcogaa.oc
open Go.RowKit

section
variable {w0 w : World}
theorem bel1 (b : Below w0.heap.size w0 w) (o : Obj) : Below w0.heap.size w0 (w.alloc o) := b.alloc b.size o
theorem bel2 (b : Below w0.heap.size w0 w) (o o' : Obj) : Below w0.heap.size w0 ((w.alloc o).alloc o') := bel1 (bel1 b o) o'
theorem bel3 (b : Below w0.heap.size w0 w) (o o' o'' : Obj) : Below w0.heap.size w0 (((w.alloc o).alloc o').alloc o'') := bel1 (bel2 b o o') o''
theorem lit_rd' (fr : Nat × Nat) (cs : Array Value) (bs : List Nat) (h : cs.toList = by_ bs) : Rd (w.alloc (.cells cs 5 fr)) (w.heap.size + 1) (some ⟨w.heap.size, 0, none⟩) (by_ bs) := by
  intro k v hk
  rw [← h] at hk
  refine ⟨w.heap.size, 0, rfl, by omega, ?_⟩
  rw [Nat.zero_add, cell_of_row (w.alloc (.cells cs 5 fr)) w.heap.size k cs 5 fr (heap_alloc_new w _)]
  simpa using hk
theorem pt_nil (B : Nat) (P : Option Addr) : Pt w B P [] := fun k bs h => by simp at h
theorem small_dec {bs : List Nat} (h : (bs.all fun x => decide (x < 256)) = true) : Small bs := fun x hx => by simpa using List.all_eq_true.1 h x hx
theorem pt_lit1 (fr : Nat × Nat) (cs : Array Value) (bs : List Nat) (n : Nat) (t : TypeId) (h : cs.toList = by_ bs) (hn : bs.length = n) :
    Pt ((w.alloc (.cells cs 5 fr)).alloc (.cells #[.slice (some ⟨w.heap.size, 0, none⟩) n n] t)) (w.heap.size + 2) (some ⟨w.heap.size + 1, 0, none⟩) [bs] := by
  have := pt_one (t := t) (c := n) hn (lit_rd' fr cs bs h (w := w)) (by simp)
  simpa using this
theorem pt_lit2 (fr fr' : Nat × Nat) (cs cs' : Array Value) (bs bs' : List Nat) (n n' : Nat) (t : TypeId) (h : cs.toList = by_ bs) (h' : cs'.toList = by_ bs') (hn : bs.length = n) (hn' : bs'.length = n') :
    Pt (((w.alloc (.cells cs 5 fr)).alloc (.cells cs' 5 fr')).alloc (.cells #[.slice (some ⟨w.heap.size, 0, none⟩) n n, .slice (some ⟨w.heap.size + 1, 0, none⟩) n' n'] t)) (w.heap.size + 3) (some ⟨w.heap.size + 2, 0, none⟩) [bs, bs'] := by
  intro k l hk
  have z : ((w.alloc (.cells cs 5 fr)).alloc (.cells cs' 5 fr')).heap.size = w.heap.size + 2 := by simp
  have hr := (lit_rd' (w := w) fr cs bs h).alloc (by simp) (.cells cs' 5 fr')
  have hr' := lit_rd' (w := w.alloc (.cells cs 5 fr)) fr' cs' bs' h'
  rcases k with _ | _ | k
  · simp only [List.getElem?_cons_zero, Option.some.injEq] at hk
    subst hk; subst hn
    refine ⟨w.heap.size + 2, 0, _, _, rfl, by omega, by rw [World.cell?_alloc_at _ _ _ _ z.symm]; rfl, (hr.alloc (by simp) _).more (by omega)⟩
  · simp only [List.getElem?_cons_succ, List.getElem?_cons_zero, Option.some.injEq] at hk
    subst hk; subst hn'
    refine ⟨w.heap.size + 2, 0, _, _, rfl, by omega, by rw [World.cell?_alloc_at _ _ _ _ z.symm]; rfl, ?_⟩
    have := (hr'.alloc (by simp) (.cells #[.slice (some ⟨w.heap.size, 0, none⟩) n n, .slice (some ⟨w.heap.size + 1, 0, none⟩) bs'.length bs'.length] t)).more (B' := w.heap.size + 3) (by simp)
    simpa using this
  · simp at hk
end

theorem kn1 {w0 w : World} (b : Below w0.heap.size w0 w) : Calls Try.prog 23 #[.slice none 0 0, .int .i64 0] w fun e w' => e = .returned (.tuple #[.int .u8 0, .int .i64 5]) ∧ Below w0.heap.size w0 w' := by
  exact (take8_no none 0 0 0 w (by omega) (by omega)).mono fun e w' ⟨he, hw⟩ => ⟨he, by rw [← hw]; exact b⟩

theorem kn2 {w0 w : World} (b : Below w0.heap.size w0 w) : Calls Try.prog 23 #[.slice (some ⟨w.heap.size, 0, none⟩) 1 1, .int .i64 (-1)] (w.alloc (.cells #[.int .u8 7] 5)) fun e w' => e = .returned (.tuple #[.int .u8 0, .int .i64 5]) ∧ Below w0.heap.size w0 w' := by
  exact (take8_no _ 1 1 (-1) _ (by omega) (by omega)).mono fun e w' ⟨he, hw⟩ => ⟨he, by rw [← hw]; exact bel1 b _⟩

theorem kn3 {w0 w : World} (b : Below w0.heap.size w0 w) : Calls Try.prog 29 #[.slice none 0 0] w fun e w' => e = .returned (.int .u16 65535) ∧ Below w0.heap.size w0 w' := by
  have h := sum_any none [] 0 0 _ w rfl (by omega) (by decide) (fun bs hb => by cases hb) (pt_nil 0 none)
  have e : csum ([] : List (List Nat)).flatten = 65535 := by decide +kernel
  rw [e] at h
  exact h.mono fun e w' ⟨he, hw⟩ => ⟨he, by rw [← hw]; exact b⟩

theorem kn4 {w0 w : World} (b : Below w0.heap.size w0 w) : Calls Try.prog 29 #[.slice (some ⟨w.heap.size + 1, 0, none⟩) 1 1] ((w.alloc (.cells #[.int .u8 1] 5)).alloc (.cells #[.slice (some ⟨w.heap.size, 0, none⟩) 1 1] 22)) fun e w' => e = .returned (.int .u16 65279) ∧ Below w0.heap.size w0 w' := by
  have h := sum_any (some ⟨w.heap.size + 1, 0, none⟩) [[1]] 1 1 _ ((w.alloc (.cells #[.int .u8 1] 5)).alloc (.cells #[.slice (some ⟨w.heap.size, 0, none⟩) 1 1] 22)) rfl (by omega) (by decide) (fun bs hb => by simp at hb; subst hb; exact small_dec (by decide)) (pt_lit1 (w := w) (0, 0) #[.int .u8 1] [1] 1 22 rfl rfl)
  have e : csum ([[1]] : List (List Nat)).flatten = 65279 := by decide +kernel
  rw [e] at h
  exact h.mono fun e w' ⟨he, hw⟩ => ⟨he, by rw [← hw]; exact (bel2 b _ _)⟩

theorem kn5 {w0 w : World} (b : Below w0.heap.size w0 w) : Calls Try.prog 29 #[.slice (some ⟨w.heap.size + 1, 0, none⟩) 1 1] ((w.alloc (.cells #[.int .u8 1, .int .u8 0] 5)).alloc (.cells #[.slice (some ⟨w.heap.size, 0, none⟩) 2 2] 22)) fun e w' => e = .returned (.int .u16 65279) ∧ Below w0.heap.size w0 w' := by
  have h := sum_any (some ⟨w.heap.size + 1, 0, none⟩) [[1, 0]] 1 1 _ ((w.alloc (.cells #[.int .u8 1, .int .u8 0] 5)).alloc (.cells #[.slice (some ⟨w.heap.size, 0, none⟩) 2 2] 22)) rfl (by omega) (by decide) (fun bs hb => by simp at hb; subst hb; exact small_dec (by decide)) (pt_lit1 (w := w) (0, 0) #[.int .u8 1, .int .u8 0] [1, 0] 2 22 rfl rfl)
  have e : csum ([[1, 0]] : List (List Nat)).flatten = 65279 := by decide +kernel
  rw [e] at h
  exact h.mono fun e w' ⟨he, hw⟩ => ⟨he, by rw [← hw]; exact (bel2 b _ _)⟩

theorem kn6 {w0 w : World} (b : Below w0.heap.size w0 w) : Calls Try.prog 29 #[.slice (some ⟨w.heap.size + 2, 0, none⟩) 2 2] (((w.alloc (.cells #[.int .u8 1] 5)).alloc (.cells #[.int .u8 2] 5)).alloc (.cells #[.slice (some ⟨w.heap.size, 0, none⟩) 1 1, .slice (some ⟨w.heap.size + 1, 0, none⟩) 1 1] 22)) fun e w' => e = .returned (.int .u16 65277) ∧ Below w0.heap.size w0 w' := by
  have h := sum_any (some ⟨w.heap.size + 2, 0, none⟩) [[1], [2]] 2 2 _ (((w.alloc (.cells #[.int .u8 1] 5)).alloc (.cells #[.int .u8 2] 5)).alloc (.cells #[.slice (some ⟨w.heap.size, 0, none⟩) 1 1, .slice (some ⟨w.heap.size + 1, 0, none⟩) 1 1] 22)) rfl (by omega) (by decide) (fun bs hb => by simp at hb; rcases hb with rfl | rfl <;> exact small_dec (by decide)) (pt_lit2 (w := w) (0, 0) (0, 0) #[.int .u8 1] #[.int .u8 2] [1] [2] 1 1 22 rfl rfl rfl rfl)
  have e : csum ([[1], [2]] : List (List Nat)).flatten = 65277 := by decide +kernel
  rw [e] at h
  exact h.mono fun e w' ⟨he, hw⟩ => ⟨he, by rw [← hw]; exact (bel3 b _ _ _)⟩

theorem kn7 {w0 w : World} (b : Below w0.heap.size w0 w) : Calls Try.prog 33 #[.int .u16 8717, .int .u16 61955, .int .u16 0] w fun e w' => e = .returned (.int .u16 5137) ∧ Below w0.heap.size w0 w' := by
  have h := update_any 8717 61955 0 w (by omega) (by omega) (by omega)
  have e : upd 8717 61955 0 = 5137 := by decide +kernel
  rw [e] at h
  exact h.mono fun e w' ⟨he, hw⟩ => ⟨he, by rw [← hw]; exact b⟩

theorem kn8 {w0 w : World} (b : Below w0.heap.size w0 w) : Calls Try.prog 29 #[.slice (some ⟨w.heap.size + 1, 0, none⟩) 1 1] ((w.alloc (.cells #[.int .u8 255, .int .u8 255, .int .u8 255, .int .u8 255, .int .u8 0, .int .u8 1] 5)).alloc (.cells #[.slice (some ⟨w.heap.size, 0, none⟩) 6 6] 22)) fun e w' => e = .returned (.int .u16 65534) ∧ Below w0.heap.size w0 w' := by
  have h := sum_any (some ⟨w.heap.size + 1, 0, none⟩) [[255, 255, 255, 255, 0, 1]] 1 1 _ ((w.alloc (.cells #[.int .u8 255, .int .u8 255, .int .u8 255, .int .u8 255, .int .u8 0, .int .u8 1] 5)).alloc (.cells #[.slice (some ⟨w.heap.size, 0, none⟩) 6 6] 22)) rfl (by omega) (by decide) (fun bs hb => by simp at hb; subst hb; exact small_dec (by decide)) (pt_lit1 (w := w) (0, 0) #[.int .u8 255, .int .u8 255, .int .u8 255, .int .u8 255, .int .u8 0, .int .u8 1] [255, 255, 255, 255, 0, 1] 6 22 rfl rfl)
  have e : csum ([[255, 255, 255, 255, 0, 1]] : List (List Nat)).flatten = 65534 := by decide +kernel
  rw [e] at h
  exact h.mono fun e w' ⟨he, hw⟩ => ⟨he, by rw [← hw]; exact (bel2 b _ _)⟩

theorem kn9 {w0 w : World} (b : Below w0.heap.size w0 w) : Calls Try.prog 33 #[.int .u16 0, .int .u16 0, .int .u16 1] w fun e w' => e = .returned (.int .u16 65534) ∧ Below w0.heap.size w0 w' := by
  have h := update_any 0 0 1 w (by omega) (by omega) (by omega)
  have e : upd 0 0 1 = 65534 := by decide +kernel
  rw [e] at h
  exact h.mono fun e w' ⟨he, hw⟩ => ⟨he, by rw [← hw]; exact b⟩

theorem kn10 {w0 w : World} (b : Below w0.heap.size w0 w) : Calls Try.prog 29 #[.slice (some ⟨w.heap.size + 1, 0, none⟩) 1 1] ((w.alloc (.cells #[.int .u8 0, .int .u8 1, .int .u8 0, .int .u8 0, .int .u8 244, .int .u8 245, .int .u8 246, .int .u8 247] 5)).alloc (.cells #[.slice (some ⟨w.heap.size, 0, none⟩) 8 8] 22)) fun e w' => e = .returned (.int .u16 5137) ∧ Below w0.heap.size w0 w' := by
  have h := sum_any (some ⟨w.heap.size + 1, 0, none⟩) [[0, 1, 0, 0, 244, 245, 246, 247]] 1 1 _ ((w.alloc (.cells #[.int .u8 0, .int .u8 1, .int .u8 0, .int .u8 0, .int .u8 244, .int .u8 245, .int .u8 246, .int .u8 247] 5)).alloc (.cells #[.slice (some ⟨w.heap.size, 0, none⟩) 8 8] 22)) rfl (by omega) (by decide) (fun bs hb => by simp at hb; subst hb; exact small_dec (by decide)) (pt_lit1 (w := w) (0, 0) #[.int .u8 0, .int .u8 1, .int .u8 0, .int .u8 0, .int .u8 244, .int .u8 245, .int .u8 246, .int .u8 247] [0, 1, 0, 0, 244, 245, 246, 247] 8 22 rfl rfl)
  have e : csum ([[0, 1, 0, 0, 244, 245, 246, 247]] : List (List Nat)).flatten = 5137 := by decide +kernel
  rw [e] at h
  exact h.mono fun e w' ⟨he, hw⟩ => ⟨he, by rw [← hw]; exact (bel2 b _ _)⟩

theorem kn11 {w0 w : World} (b : Below w0.heap.size w0 w) : Calls Try.prog 31 #[.slice none 0 0] w fun e w' => e = .returned (.int .u64 14695981039346656037) ∧ Below w0.heap.size w0 w' := by
  have h := hash_any none [] 0 0 _ w rfl (by omega) (by decide) (fun bs hb => by cases hb) (pt_nil 0 none)
  have e : fnv ([] : List (List Nat)).flatten = 14695981039346656037 := by decide +kernel
  rw [e] at h
  exact h.mono fun e w' ⟨he, hw⟩ => ⟨he, by rw [← hw]; exact b⟩

theorem kn12 {w0 w : World} (b : Below w0.heap.size w0 w) : Calls Try.prog 31 #[.slice (some ⟨w.heap.size + 2, 0, none⟩) 2 2] (((w.alloc (.cells #[.int .u8 97] 5 (1, 2))).alloc (.cells #[.int .u8 98] 5 (1, 2))).alloc (.cells #[.slice (some ⟨w.heap.size, 0, none⟩) 1 1, .slice (some ⟨w.heap.size + 1, 0, none⟩) 1 1] 22)) fun e w' => e = .returned (.int .u64 620445648566982762) ∧ Below w0.heap.size w0 w' := by
  have h := hash_any (some ⟨w.heap.size + 2, 0, none⟩) [[97], [98]] 2 2 _ (((w.alloc (.cells #[.int .u8 97] 5 (1, 2))).alloc (.cells #[.int .u8 98] 5 (1, 2))).alloc (.cells #[.slice (some ⟨w.heap.size, 0, none⟩) 1 1, .slice (some ⟨w.heap.size + 1, 0, none⟩) 1 1] 22)) rfl (by omega) (by decide) (fun bs hb => by simp at hb; rcases hb with rfl | rfl <;> exact small_dec (by decide)) (pt_lit2 (w := w) (1, 2) (1, 2) #[.int .u8 97] #[.int .u8 98] [97] [98] 1 1 22 rfl rfl rfl rfl)
  have e : fnv ([[97], [98]] : List (List Nat)).flatten = 620445648566982762 := by decide +kernel
  rw [e] at h
  exact h.mono fun e w' ⟨he, hw⟩ => ⟨he, by rw [← hw]; exact (bel3 b _ _ _)⟩

theorem kn13 {w0 w : World} (b : Below w0.heap.size w0 w) : Calls Try.prog 31 #[.slice (some ⟨w.heap.size + 1, 0, none⟩) 1 1] ((w.alloc (.cells #[.int .u8 97, .int .u8 98] 5 (2, 3))).alloc (.cells #[.slice (some ⟨w.heap.size, 0, none⟩) 2 2] 22)) fun e w' => e = .returned (.int .u64 620445648566982762) ∧ Below w0.heap.size w0 w' := by
  have h := hash_any (some ⟨w.heap.size + 1, 0, none⟩) [[97, 98]] 1 1 _ ((w.alloc (.cells #[.int .u8 97, .int .u8 98] 5 (2, 3))).alloc (.cells #[.slice (some ⟨w.heap.size, 0, none⟩) 2 2] 22)) rfl (by omega) (by decide) (fun bs hb => by simp at hb; subst hb; exact small_dec (by decide)) (pt_lit1 (w := w) (2, 3) #[.int .u8 97, .int .u8 98] [97, 98] 2 22 rfl rfl)
  have e : fnv ([[97, 98]] : List (List Nat)).flatten = 620445648566982762 := by decide +kernel
  rw [e] at h
  exact h.mono fun e w' ⟨he, hw⟩ => ⟨he, by rw [← hw]; exact (bel2 b _ _)⟩

theorem kn14 {w0 w : World} (b : Below w0.heap.size w0 w) : Calls Try.prog 35 #[.slice (some ⟨w.heap.size, 0, none⟩) 1 1, .int .i64 0, .int .i64 4] (w.alloc (.cells #[.int .u8 165] 5)) fun e w' => e = .returned (.tuple #[.int .u64 10, .int .i64 0]) ∧ Below w0.heap.size w0 w' := by
  have h := bits_yes (some ⟨w.heap.size, 0, none⟩) [165] 1 1 _ 0 4 (w.alloc (.cells #[.int .u8 165] 5)) rfl (by omega) (small_dec (by decide)) (lit_rd' (w := w) (0, 0) #[.int .u8 165] [165] rfl) (by omega) (by omega)
  have e : bnum [165] 0 4 = 10 := by decide +kernel
  rw [e] at h
  exact h.mono fun e w' ⟨he, hw⟩ => ⟨he, by rw [← hw]; exact bel1 b _⟩

theorem kn15 {w0 w : World} (b : Below w0.heap.size w0 w) : Calls Try.prog 35 #[.slice (some ⟨w.heap.size, 0, none⟩) 2 2, .int .i64 4, .int .i64 8] (w.alloc (.cells #[.int .u8 165, .int .u8 15] 5)) fun e w' => e = .returned (.tuple #[.int .u64 80, .int .i64 0]) ∧ Below w0.heap.size w0 w' := by
  have h := bits_yes (some ⟨w.heap.size, 0, none⟩) [165, 15] 2 2 _ 4 8 (w.alloc (.cells #[.int .u8 165, .int .u8 15] 5)) rfl (by omega) (small_dec (by decide)) (lit_rd' (w := w) (0, 0) #[.int .u8 165, .int .u8 15] [165, 15] rfl) (by omega) (by omega)
  have e : bnum [165, 15] 4 8 = 80 := by decide +kernel
  rw [e] at h
  exact h.mono fun e w' ⟨he, hw⟩ => ⟨he, by rw [← hw]; exact bel1 b _⟩

theorem kn16 {w0 w : World} (b : Below w0.heap.size w0 w) : Calls Try.prog 35 #[.slice (some ⟨w.heap.size, 0, none⟩) 1 1, .int .i64 3, .int .i64 0] (w.alloc (.cells #[.int .u8 165] 5)) fun e w' => e = .returned (.tuple #[.int .u64 0, .int .i64 0]) ∧ Below w0.heap.size w0 w' := by
  have h := bits_yes (some ⟨w.heap.size, 0, none⟩) [165] 1 1 _ 3 0 (w.alloc (.cells #[.int .u8 165] 5)) rfl (by omega) (small_dec (by decide)) (lit_rd' (w := w) (0, 0) #[.int .u8 165] [165] rfl) (by omega) (by omega)
  have e : bnum [165] 3 0 = 0 := by decide +kernel
  rw [e] at h
  exact h.mono fun e w' ⟨he, hw⟩ => ⟨he, by rw [← hw]; exact bel1 b _⟩

theorem kn17 {w0 w : World} (b : Below w0.heap.size w0 w) : Calls Try.prog 35 #[.slice (some ⟨w.heap.size, 0, none⟩) 1 1, .int .i64 5, .int .i64 4] (w.alloc (.cells #[.int .u8 165] 5)) fun e w' => e = .returned (.tuple #[.int .u64 0, .int .i64 5]) ∧ Below w0.heap.size w0 w' := by
  have h := bits_range (some ⟨w.heap.size, 0, none⟩) 1 1 5 4 (w.alloc (.cells #[.int .u8 165] 5)) (by omega) (by omega) (by omega) (by omega)
  exact h.mono fun e w' ⟨he, hw⟩ => ⟨he, by rw [← hw]; exact bel1 b _⟩

theorem kn18 {w0 w : World} (b : Below w0.heap.size w0 w) : Calls Try.prog 35 #[.slice (some ⟨w.heap.size, 0, none⟩) 1 1, .int .i64 0, .int .i64 65] (w.alloc (.cells #[.int .u8 165] 5)) fun e w' => e = .returned (.tuple #[.int .u64 0, .int .i64 2]) ∧ Below w0.heap.size w0 w' := by
  have h := bits_arg (some ⟨w.heap.size, 0, none⟩) 1 1 0 65 (w.alloc (.cells #[.int .u8 165] 5)) (by omega)
  exact h.mono fun e w' ⟨he, hw⟩ => ⟨he, by rw [← hw]; exact bel1 b _⟩

theorem kn19 {w0 w : World} (b : Below w0.heap.size w0 w) : Calls Try.prog 37 #[.slice (some ⟨w.heap.size, 0, none⟩) 2 2, .slice (some ⟨w.heap.size + 1, 0, none⟩) 2 2] ((w.alloc (.cells #[.int .u8 165, .int .u8 15] 5)).alloc (.cells #[.int .u8 165, .int .u8 31] 5)) fun e w' => e = .returned (.int .i64 11) ∧ Below w0.heap.size w0 w' := by
  have r2 := lit_rd' (w := w.alloc (.cells #[.int .u8 165, .int .u8 15] 5)) (0, 0) #[.int .u8 165, .int .u8 31] [165, 31] rfl
  have z : (w.alloc (.cells #[.int .u8 165, .int .u8 15] 5)).heap.size = w.heap.size + 1 := by simp
  rw [z] at r2
  have h := common_any (some ⟨w.heap.size, 0, none⟩) (some ⟨w.heap.size + 1, 0, none⟩) [165, 15] [165, 31] 2 2 2 2 _ _ ((w.alloc (.cells #[.int .u8 165, .int .u8 15] 5)).alloc (.cells #[.int .u8 165, .int .u8 31] 5)) rfl rfl (by omega) (by omega) (small_dec (by decide)) (small_dec (by decide)) ((lit_rd' (w := w) (0, 0) #[.int .u8 165, .int .u8 15] [165, 15] rfl).alloc (by simp) _) r2
  have e : cmn [165, 15] [165, 31] = 11 := by decide +kernel
  rw [e] at h
  exact h.mono fun e w' ⟨he, d, hw⟩ => ⟨he, by rw [← hw]; exact bel_drewN (bel2 b _ _) d⟩

theorem kn20 {w0 w : World} (b : Below w0.heap.size w0 w) : Calls Try.prog 37 #[.slice (some ⟨w.heap.size, 0, none⟩) 1 1, .slice (some ⟨w.heap.size + 1, 0, none⟩) 2 2] ((w.alloc (.cells #[.int .u8 165] 5)).alloc (.cells #[.int .u8 165, .int .u8 15] 5)) fun e w' => e = .returned (.int .i64 8) ∧ Below w0.heap.size w0 w' := by
  have r2 := lit_rd' (w := w.alloc (.cells #[.int .u8 165] 5)) (0, 0) #[.int .u8 165, .int .u8 15] [165, 15] rfl
  have z : (w.alloc (.cells #[.int .u8 165] 5)).heap.size = w.heap.size + 1 := by simp
  rw [z] at r2
  have h := common_any (some ⟨w.heap.size, 0, none⟩) (some ⟨w.heap.size + 1, 0, none⟩) [165] [165, 15] 1 2 1 2 _ _ ((w.alloc (.cells #[.int .u8 165] 5)).alloc (.cells #[.int .u8 165, .int .u8 15] 5)) rfl rfl (by omega) (by omega) (small_dec (by decide)) (small_dec (by decide)) ((lit_rd' (w := w) (0, 0) #[.int .u8 165] [165] rfl).alloc (by simp) _) r2
  have e : cmn [165] [165, 15] = 8 := by decide +kernel
  rw [e] at h
  exact h.mono fun e w' ⟨he, d, hw⟩ => ⟨he, by rw [← hw]; exact bel_drewN (bel2 b _ _) d⟩

theorem kn21 {w0 w : World} (b : Below w0.heap.size w0 w) : Calls Try.prog 37 #[.slice none 0 0, .slice (some ⟨w.heap.size, 0, none⟩) 1 1] (w.alloc (.cells #[.int .u8 165] 5)) fun e w' => e = .returned (.int .i64 0) ∧ Below w0.heap.size w0 w' := by
  have h := common_any none (some ⟨w.heap.size, 0, none⟩) [] [165] 0 1 0 1 0 _ (w.alloc (.cells #[.int .u8 165] 5)) rfl rfl (by omega) (by omega) Small.nil (small_dec (by decide)) (Rd.nil_) (lit_rd' (w := w) (0, 0) #[.int .u8 165] [165] rfl)
  have e : cmn [] [165] = 0 := by decide +kernel
  rw [e] at h
  exact h.mono fun e w' ⟨he, d, hw⟩ => ⟨he, by rw [← hw]; exact bel_drewN (bel1 b _) d⟩

theorem kn22 {w0 w : World} (b : Below w0.heap.size w0 w) : Calls Try.prog 37 #[.slice (some ⟨w.heap.size, 0, none⟩) 1 1, .slice (some ⟨w.heap.size + 1, 0, none⟩) 1 1] ((w.alloc (.cells #[.int .u8 128] 5)).alloc (.cells #[.int .u8 0] 5)) fun e w' => e = .returned (.int .i64 0) ∧ Below w0.heap.size w0 w' := by
  have r2 := lit_rd' (w := w.alloc (.cells #[.int .u8 128] 5)) (0, 0) #[.int .u8 0] [0] rfl
  have z : (w.alloc (.cells #[.int .u8 128] 5)).heap.size = w.heap.size + 1 := by simp
  rw [z] at r2
  have h := common_any (some ⟨w.heap.size, 0, none⟩) (some ⟨w.heap.size + 1, 0, none⟩) [128] [0] 1 1 1 1 _ _ ((w.alloc (.cells #[.int .u8 128] 5)).alloc (.cells #[.int .u8 0] 5)) rfl rfl (by omega) (by omega) (small_dec (by decide)) (small_dec (by decide)) ((lit_rd' (w := w) (0, 0) #[.int .u8 128] [128] rfl).alloc (by simp) _) r2
  have e : cmn [128] [0] = 0 := by decide +kernel
  rw [e] at h
  exact h.mono fun e w' ⟨he, d, hw⟩ => ⟨he, by rw [← hw]; exact bel_drewN (bel2 b _ _) d⟩

set_option maxRecDepth 100000 in
set_option maxHeartbeats 2000000 in
theorem walk_octetsKnown (w : World) : Calls Try.prog 11 #[] w fun e w' => e = .returned (.bool true) ∧ Below w.heap.size w w' := by
  have kc := fun (w : World) (C : Array Value) (n c : Nat) => Lib.run_convert_bytes_const (P := Try.prog) w 22 5 C n c Try.underlying22 Try.underlying5
  have kc2 : ∀ (w : World) (o : Obj) (C : Array Value) (n c : Nat), (convert 22 22 (.slice (some ⟨w.heap.size + 1, 0, none⟩) n c)).run Try.prog ((w.alloc o).alloc (.cells C 5)) = .ok (.slice (some ⟨w.heap.size + 1, 0, none⟩) n c) ((w.alloc o).alloc (.cells C 5 (C.size, C.size + 1))) := fun w o C n c => by
    have := kc (w.alloc o) C n c
    simpa using this
  have b := Below.refl w.heap.size w
  go_enter Try.func11, Try.ntmps11
  go_wp2_with fail
  refine (kn1 b).mono ?_
  clear b
  rintro e w1 ⟨rfl, b⟩
  go_wp2_with fail
  refine (kn2 b).mono ?_
  clear b
  rintro e w1 ⟨rfl, b⟩
  go_wp2_with fail
  refine (kn3 b).mono ?_
  clear b
  rintro e w1 ⟨rfl, b⟩
  go_wp2_with fail
  refine (kn4 b).mono ?_
  clear b
  rintro e w1 ⟨rfl, b⟩
  go_wp2_with fail
  refine (kn5 b).mono ?_
  clear b
  rintro e w1 ⟨rfl, b⟩
  go_wp2_with fail
  refine (kn6 b).mono ?_
  clear b
  rintro e w1 ⟨rfl, b⟩
  go_wp2_with fail
  refine (kn7 b).mono ?_
  clear b
  rintro e w1 ⟨rfl, b⟩
  go_wp2_with fail
  refine (kn8 b).mono ?_
  clear b
  rintro e w1 ⟨rfl, b⟩
  go_wp2_with fail
  refine (kn9 b).mono ?_
  clear b
  rintro e w1 ⟨rfl, b⟩
  go_wp2_with fail
  refine (kn10 b).mono ?_
  clear b
  rintro e w1 ⟨rfl, b⟩
  go_wp2_with fail
  refine (kn11 b).mono ?_
  clear b
  rintro e w1 ⟨rfl, b⟩
  go_wp2_with fail
  refine (kn12 b).mono ?_
  clear b
  rintro e w1 ⟨rfl, b⟩
  go_wp2_with fail
  refine (kn13 b).mono ?_
  clear b
  rintro e w1 ⟨rfl, b⟩
  go_wp2_with fail
  refine (kn14 b).mono ?_
  clear b
  rintro e w1 ⟨rfl, b⟩
  go_wp2_with fail
  refine (kn15 b).mono ?_
  clear b
  rintro e w1 ⟨rfl, b⟩
  go_wp2_with fail
  refine (kn16 b).mono ?_
  clear b
  rintro e w1 ⟨rfl, b⟩
  go_wp2_with fail
  refine (kn17 b).mono ?_
  clear b
  rintro e w1 ⟨rfl, b⟩
  go_wp2_with fail
  refine (kn18 b).mono ?_
  clear b
  rintro e w1 ⟨rfl, b⟩
  go_wp2_with fail
  refine (kn19 b).mono ?_
  clear b
  rintro e w1 ⟨rfl, b⟩
  go_wp2_with fail
  refine (kn20 b).mono ?_
  clear b
  rintro e w1 ⟨rfl, b⟩
  go_wp2_with fail
  refine (kn21 b).mono ?_
  clear b
  rintro e w1 ⟨rfl, b⟩
  go_wp2_with fail
  refine (kn22 b).mono ?_
  clear b
  rintro e w1 ⟨rfl, b⟩
  go_wp2_with fail
  refine (works_any _).mono ?_
  rintro e w2 ⟨rfl, bw⟩
  have b2 := b.trans (bw.mono b.size)
  clear b bw
  go_wp2_with fail
  go_ret
  exact ⟨rfl, b2⟩
end Go.Proofs.Ytbnkmfmbbbcogaa.oc
