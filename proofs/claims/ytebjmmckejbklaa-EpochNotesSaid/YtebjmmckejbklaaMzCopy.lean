/-
  CopyWords, and Copy of a world whose silent lists are empty.
-/
import Derived.Test.YtebjmmckejbklaaMzW
import Derived.Test.YtebjmmckejbklaaMzC
import Derived.Test.YtebjmmckejbklaaMzApp
import Derived.Test.YtebjmmckejbklaaProg
import Derived.Deep.RegionLaw
import Derived.Deep.LoopGhost
import Derived.Outline
namespace Go.Proofs.Ytebjmmckejbklaa.mz
open Go.RowKit Go.Proofs.Ytebjmmckejbklaa.oc
theorem u64_info' : (Try.prog.info? 38).map (fun i => (i.zero, i.size, i.bytes)) = some (some (.int .u64 0), 1, 8) := by kernel_rfl
set_option maxHeartbeats 400000 in
theorem copyWords (B : Nat) (A : Option Addr) (c : Nat) (l : List Nat) (w : World) (h : Rd w B A (u64s l)) (hl : l.length < 1000000) :
    Calls Try.prog 50 #[.slice A l.length c] w fun e w' => ∃ A' c', e = .returned (.slice A' l.length c') ∧ w'.ownsRow w.heap.size 38 1 (.slice A' l.length c') l.length (u64s l) ∧ w.grownBy w' none := by
  obtain ⟨i0, hi0, hz0, hz1, hz2⟩ := info_parts u64_info'
  have H := Lib.hid h
  have H1 : Hid (l.length < 1000000) := Lib.hid hl
  clear h hl
  go_enter Try.func50, Try.ntmps50
  go_wp2_with ((at_builtin; refine wpList_app rfl _ _ 36 rfl w.heap.size 38 i0 _ 8 Try.underlying36 hi0 hz0 hz1 hz2 rfl (.slice none 0 0) 0 [] rfl (World.ownsRow_nil _ _ _ _) B A l.length c (u64s l) rfl H.out (by simp [u64s]) (u64_one _) (by have := H1.out; omega) (by have := H1.out; omega) (Nat.le_refl _) ?_; intro v' w' hown hg hat))
  have HO := Lib.hid hown
  have HG := Lib.hid hg
  clear hown hg hat
  go_wp2
  go_ret
  have ho := HO.out
  simp only [Nat.zero_add, List.nil_append] at ho
  rcases ho.2 with ⟨e1, e2⟩ | ⟨gg, cc, cur, e1, _⟩
  · refine ⟨none, 0, by rw [e1, e2]; rfl, ?_, HG.out⟩
    rw [e1] at ho
    rw [e2] at ho ⊢
    exact ho
  · exact ⟨some ⟨gg, 0, none⟩, cc, by rw [e1]; rfl, by rw [← e1]; exact ho, HG.out⟩
theorem owns_base {w : World} {base base' : Nat} {e : TypeId} {size : Nat} {v : Value} {n : Nat} {xs : List Value} (h : w.ownsRow base e size v n xs) (hb : base' ≤ base) : w.ownsRow base' e size v n xs := by
  refine ⟨h.1, ?_⟩
  rcases h.2 with q | ⟨g, cap, cur, e, h1, r⟩
  · exact .inl q
  · exact .inr ⟨g, cap, cur, e, Nat.le_trans hb h1, r⟩
/-- words that came in -/
def IsWords (w : World) (B : Nat) (v : Value) (ws : List (List Nat)) : Prop :=
  ∃ A cap, v = .slice A ws.length cap ∧ ∀ i l, ws[i]? = some l → ∃ b o A' c', A = some ⟨b, o, none⟩ ∧ b < B ∧ w.cell? ⟨b, o + i, none⟩ = some (.slice A' l.length c') ∧ Rd w B A' (u64s l)
/-- so many silent lists, all empty -/
def IsLists (w : World) (B : Nat) (v : Value) (m : Nat) : Prop :=
  ∃ A cap, v = .slice A m cap ∧ ∀ i, i < m → ∃ b o, A = some ⟨b, o, none⟩ ∧ b < B ∧ w.cell? ⟨b, o + i, none⟩ = some (.slice none 0 0)
theorem IsWords.keeps {S : Nat → Prop} {w w' : World} {B : Nat} {v : Value} {ws : List (List Nat)} (h : IsWords w B v ws) (k : Keeps S w w') (hs : ∀ b, b < B → ¬ S b) : IsWords w' B v ws := by
  obtain ⟨A, cap, e, f⟩ := h
  refine ⟨A, cap, e, fun i l hl => ?_⟩
  obtain ⟨b, o, A', c', e1, hb, h1, h2⟩ := f i l hl
  refine ⟨b, o, A', c', e1, hb, cell_keeps k h1 (hs b hb), fun j u hu => ?_⟩
  obtain ⟨b2, o2, e2, hb2, h3⟩ := h2 j u hu
  exact ⟨b2, o2, e2, hb2, cell_keeps k h3 (hs b2 hb2)⟩
theorem IsLists.keeps {S : Nat → Prop} {w w' : World} {B : Nat} {v : Value} {m : Nat} (h : IsLists w B v m) (k : Keeps S w w') (hs : ∀ b, b < B → ¬ S b) : IsLists w' B v m := by
  obtain ⟨A, cap, e, f⟩ := h
  refine ⟨A, cap, e, fun i hi => ?_⟩
  obtain ⟨b, o, e1, hb, h1⟩ := f i hi
  exact ⟨b, o, e1, hb, cell_keeps k h1 (hs b hb)⟩
/-- words of the call's own -/
structure OwnWords (w : World) (B : Nat) (ws : List (List Nat)) (wv : Value) (vs : List Value) : Prop where
  row : w.ownsRow B 36 1 wv ws.length vs
  own : ∀ (i : Nat) (v : Value) (l : List Nat), vs[i]? = some v → ws[i]? = some l → w.ownsRow B 38 1 v l.length (u64s l)
  apart : ∀ (i j k : Nat) (v v' : Value), i ≠ j → vs[i]? = some v → vs[j]? = some v' → v.ownBlock = some k → v'.ownBlock ≠ some k
  off : ∀ (i k : Nat) (v : Value), vs[i]? = some v → v.ownBlock = some k → wv.ownBlock ≠ some k
theorem OwnWords.len {w : World} {B : Nat} {ws : List (List Nat)} {wv : Value} {vs : List Value} (h : OwnWords w B ws wv vs) : vs.length = ws.length := by have := h.row.1; omega
theorem OwnWords.keeps {S : Nat → Prop} {w w' : World} {B : Nat} {ws : List (List Nat)} {wv : Value} {vs : List Value} (h : OwnWords w B ws wv vs) (k : Keeps S w w') (hs : ∀ b, S b → b < B ∨ w.heap.size ≤ b) : OwnWords w' B ws wv vs :=
  ⟨owns_keeps h.row k (fun b hb z => by have := h.row.lt b hb; rcases hs b z with q | q <;> omega), fun i v l hv hl => owns_keeps (h.own i v l hv hl) k (fun b hb z => by have := (h.own i v l hv hl).lt b hb; rcases hs b z with q | q <;> omega), h.apart, h.off⟩
/-- a word list of its own is laid behind -/
theorem OwnWords.snoc {w w1 w2 : World} {B n : Nat} {ws : List (List Nat)} {wv wv' v : Value} {vs : List Value} {l : List Nat} (h : OwnWords w B ws wv vs) (k1 : Keeps (fun _ => False) w w1) (ho : w1.ownsRow w.heap.size 38 1 v l.length (u64s l)) (hB : B ≤ w.heap.size)
    (k2 : Keeps (fun b => wv.ownBlock = some b) w1 w2) (hr : w2.ownsRow B 36 1 wv' n (vs ++ [v])) (hn : n = (ws ++ [l]).length) (hat : wv'.ownBlock = wv.ownBlock ∨ ∃ j, wv'.ownBlock = some j ∧ w1.heap.size ≤ j) : OwnWords w2 B (ws ++ [l]) wv' (vs ++ [v]) := by
  subst hn
  have hl := h.len
  have hlt : ∀ (i : Nat) (u : Value) (b : Nat), vs[i]? = some u → u.ownBlock = some b → b < w.heap.size := fun i u b hu hb => by
    have hi : i < ws.length := by rw [← hl]; exact (List.getElem?_eq_some_iff.1 hu).1
    exact ((h.own i u _ hu (List.getElem?_eq_getElem hi)).lt b hb).2
  have hnew : ∀ b, v.ownBlock = some b → w.heap.size ≤ b ∧ b < w1.heap.size := fun b hb => ho.lt b hb
  have hwv : ∀ b, wv.ownBlock = some b → b < w.heap.size := fun b hb => (h.row.lt b hb).2
  have hs1 := k1.size
  have split : ∀ (i : Nat) (u : Value), (vs ++ [v])[i]? = some u → (i < vs.length ∧ vs[i]? = some u) ∨ (i = vs.length ∧ u = v) := fun i u hu => by
    rcases Nat.lt_or_ge i vs.length with q | q
    · exact .inl ⟨q, by rwa [List.getElem?_append_left q] at hu⟩
    · rw [List.getElem?_append_right q] at hu
      rcases Nat.eq_zero_or_pos (i - vs.length) with e | e
      · rw [e] at hu; simp at hu; exact .inr ⟨by omega, hu.symm⟩
      · rw [List.getElem?_eq_none (by simp; omega)] at hu; cases hu
  refine ⟨hr, ?_, ?_, ?_⟩
  · intro i u l' hu hl'
    rcases split i u hu with ⟨q, hu'⟩ | ⟨q, rfl⟩
    · rw [List.getElem?_append_left (by omega)] at hl'
      exact owns_keeps (owns_keeps (h.own i u l' hu' hl') k1 (fun _ _ z => z)) k2 (fun b hb z => h.off i b u hu' hb z)
    · rw [List.getElem?_append_right (by omega), q, hl] at hl'
      simp at hl'
      subst hl'
      exact owns_keeps (owns_base ho hB) k2 (fun b hb z => by have := hnew b hb; have := hwv b z; omega)
  · intro i j b u u' hij hu hu' hb hb'
    rcases split i u hu with ⟨q, hu1⟩ | ⟨q, rfl⟩ <;> rcases split j u' hu' with ⟨q', hu2⟩ | ⟨q', rfl⟩
    · exact h.apart i j b u u' hij hu1 hu2 hb hb'
    · have := hlt i u b hu1 hb; have := hnew b hb'; omega
    · have := hlt j u' b hu2 hb'; have := hnew b hb; omega
    · omega
  · intro i b u hu hb e
    have hub : b < w1.heap.size := by
      rcases split i u hu with ⟨q, hu1⟩ | ⟨q, rfl⟩
      · have := hlt i u b hu1 hb; omega
      · exact (hnew b hb).2
    rcases hat with z | ⟨j, z, hj⟩
    · rw [z] at e
      rcases split i u hu with ⟨q, hu1⟩ | ⟨q, rfl⟩
      · exact h.off i b u hu1 hb e
      · have := hnew b hb; have := hwv b e; omega
    · rw [z] at e; injection e with e; omega
end Go.Proofs.Ytebjmmckejbklaa.mz
