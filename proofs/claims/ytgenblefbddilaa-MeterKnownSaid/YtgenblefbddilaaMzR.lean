/-
  A play in memory: threads and words, each in blocks of its own.
-/
import Derived.Test.YtgenblefbddilaaMzPl
import Derived.Test.YtgenblefbddilaaMzOpA
namespace Go.Proofs.Ytgenblefbddilaa.mz
open Go.RowKit Go.Proofs.Ytgenblefbddilaa.oc
/-- all that the play may write -/
def Any (Fs : List (Nat → Prop)) (FW : Nat → Prop) (b : Nat) : Prop := (∃ (k : Nat) (F : Nat → Prop), Fs[k]? = some F ∧ F b) ∨ FW b
structure PInv (w : World) (B p : Nat) (pl : Pl) (gs : List Nat) (Fs : List (Nat → Prop)) (FW : Nat → Prop) : Prop where
  lg : gs.length = pl.ths.length
  lF : Fs.length = pl.ths.length
  th : ∀ (k : Nat) (t : Th) (g : Nat) (F : Nat → Prop), pl.ths[k]? = some t → gs[k]? = some g → Fs[k]? = some F → TInv w B g t F
  wd : WInv w B p pl.ws FW
  ap : ∀ (j k : Nat) (F F' : Nat → Prop), j ≠ k → Fs[j]? = some F → Fs[k]? = some F' → ∀ b, F b → ¬ F' b
  aw : ∀ (k : Nat) (F : Nat → Prop), Fs[k]? = some F → ∀ b, F b → ¬ FW b
theorem PInv.get {w : World} {B p : Nat} {pl : Pl} {gs : List Nat} {Fs : List (Nat → Prop)} {FW : Nat → Prop} (h : PInv w B p pl gs Fs FW) {k : Nat} {t : Th} (ht : pl.ths[k]? = some t) : ∃ g F, gs[k]? = some g ∧ Fs[k]? = some F ∧ TInv w B g t F := by
  have hk : k < pl.ths.length := (List.getElem?_eq_some_iff.1 ht).1
  have h1 := List.getElem?_eq_getElem (show k < gs.length by have := h.lg; omega)
  have h2 := List.getElem?_eq_getElem (show k < Fs.length by have := h.lF; omega)
  exact ⟨_, _, h1, h2, h.th k t _ _ ht h1 h2⟩
theorem PInv.below {w : World} {B p : Nat} {pl : Pl} {gs : List Nat} {Fs : List (Nat → Prop)} {FW : Nat → Prop} (h : PInv w B p pl gs Fs FW) {b : Nat} (hb : Any Fs FW b) : B ≤ b ∧ b < w.heap.size := by
  rcases hb with ⟨k, F, hF, hb⟩ | hb
  · have hk : k < pl.ths.length := by have := (List.getElem?_eq_some_iff.1 hF).1; have := h.lF; omega
    obtain ⟨g, F', h1, h2, h3⟩ := h.get (List.getElem?_eq_getElem hk)
    rw [hF] at h2; cases h2
    exact h3.above b hb
  · exact h.wd.above b hb
theorem PInv.keeps {w w' : World} {B p : Nat} {pl : Pl} {gs : List Nat} {Fs : List (Nat → Prop)} {FW S : Nat → Prop} (h : PInv w B p pl gs Fs FW) (k : Keeps S w w') (hs : ∀ b, Any Fs FW b → ¬ S b) (hB : ∀ b, b < B → ¬ S b) : PInv w' B p pl gs Fs FW :=
  ⟨h.lg, h.lF, fun j t g F h1 h2 h3 => (h.th j t g F h1 h2 h3).keeps k (fun b hb => hs b (.inl ⟨j, F, h3, hb⟩)) hB, h.wd.keeps k (fun b hb => hs b (.inr hb)), h.ap, h.aw⟩
/-- one thread has gone on, and new blocks are its own -/
theorem PInv.set {w w' : World} {B p : Nat} {pl : Pl} {gs : List Nat} {Fs : List (Nat → Prop)} {FW F : Nat → Prop} {k g : Nat} {t t' : Th} {ws' : List (List Nat)} (tr : List (Nat × Nat × Nat)) (h : PInv w B p pl gs Fs FW) (ht : pl.ths[k]? = some t) (hg : gs[k]? = some g) (hF : Fs[k]? = some F)
    (hT : TInv w' B g t' (Grown w w' F)) (hW : WInv w' B p ws' FW) (hK : Keeps (fun b => F b ∨ FW b) w w') :
    PInv w' B p ⟨pl.ths.set k t', ws', tr⟩ gs (Fs.set k (Grown w w' F)) FW ∧ Keeps (Any Fs FW) w w' ∧ ∀ b, Any (Fs.set k (Grown w w' F)) FW b → Any Fs FW b ∨ w.heap.size ≤ b := by
  have hk : k < pl.ths.length := (List.getElem?_eq_some_iff.1 ht).1
  have hkF : k < Fs.length := by have := h.lF; omega
  have hlt : ∀ (j : Nat) (F' : Nat → Prop), Fs[j]? = some F' → ∀ b, F' b → b < w.heap.size := fun j F' hj b hb => (h.below (.inl ⟨j, F', hj, hb⟩)).2
  refine ⟨⟨by simp [h.lg], by simp [h.lF], ?_, hW, ?_, ?_⟩, ⟨hK.size, fun b hb hs => hK.block b hb (fun z => z.elim (fun q => hs (.inl ⟨k, F, hF, q⟩)) (fun q => hs (.inr q))), hK.same⟩, ?_⟩
  · intro j u g' F' hu hg' hF'
    rw [List.getElem?_set] at hu hF'
    by_cases e : k = j
    · subst e
      simp only [if_true, hk, hkF] at hu hF'
      cases hu; cases hF'
      rw [hg] at hg'; cases hg'
      exact hT
    · rw [if_neg e] at hu hF'
      refine (h.th j u g' F' hu hg' hF').keeps hK (fun b hb z => ?_) (fun b hb z => ?_)
      · rcases z with z | z
        · exact h.ap j k F' F (fun q => e q.symm) hF' hF b hb z
        · exact h.aw j F' hF' b hb z
      · rcases z with z | z
        · have := (h.below (.inl ⟨k, F, hF, z⟩)).1; omega
        · have := (h.below (Fs := Fs) (.inr z)).1; omega
  · intro i j F1 F2 hij h1 h2 b hb hb2
    rw [List.getElem?_set] at h1 h2
    by_cases e : k = i
    · subst e
      rw [if_neg hij] at h2
      simp only [if_true, hkF] at h1
      cases h1
      rcases hb with hb | hb
      · exact h.ap k j F F2 hij hF h2 b hb hb2
      · have := hlt j F2 h2 b hb2; omega
    · rw [if_neg e] at h1
      by_cases e' : k = j
      · subst e'
        simp only [if_true, hkF] at h2
        cases h2
        rcases hb2 with hb2 | hb2
        · exact h.ap i k F1 F hij h1 hF b hb hb2
        · have := hlt i F1 h1 b hb; omega
      · rw [if_neg e'] at h2
        exact h.ap i j F1 F2 hij h1 h2 b hb hb2
  · intro j F' hF' b hb hw
    rw [List.getElem?_set] at hF'
    by_cases e : k = j
    · subst e
      simp only [if_true, hkF] at hF'
      cases hF'
      rcases hb with hb | hb
      · exact h.aw k F hF b hb hw
      · have := (h.wd.above b hw).2; omega
    · rw [if_neg e] at hF'
      exact h.aw j F' hF' b hb hw
  · intro b hb
    rcases hb with ⟨j, F', hF', hb⟩ | hb
    · rw [List.getElem?_set] at hF'
      by_cases e : k = j
      · subst e
        simp only [if_true, hkF] at hF'
        cases hF'
        rcases hb with hb | hb
        · exact .inl (.inl ⟨k, F, hF, hb⟩)
        · exact .inr hb.1
      · rw [if_neg e] at hF'
        exact .inl (.inl ⟨j, F', hF', hb⟩)
    · exact .inl (.inr hb)
/-- what one operation in a play leaves -/
def TurnPost (B p : Nat) (pl' : Pl) (gs : List Nat) (Fs : List (Nat → Prop)) (FW : Nat → Prop) (w : World) (k pc : Nat) (e : Ending) (w' : World) : Prop :=
  e = .returned (.agg #[.int .u8 (k : Int), .int .i64 (pc : Int)]) ∧ ∃ Fs', PInv w' B p pl' gs Fs' FW ∧ Keeps (Any Fs FW) w w' ∧ ∀ b, Any Fs' FW b → Any Fs FW b ∨ w.heap.size ≤ b
theorem turn_of {n k : Nat} {pl pl' : Pl} (h : pl.turn n k = some pl') : ∃ t t' ws' c pc, pl.ths[k]? = some t ∧ t.call < t.calls.length ∧ t.op n pl.ws = some (t', ws', (c, pc)) ∧ pl' = ⟨pl.ths.set k t', ws', pl.trace ++ [(k, c, pc)]⟩ := by
  unfold Pl.turn at h
  cases ht : pl.ths[k]? with
  | none => rw [ht] at h; cases h
  | some t =>
    rw [ht] at h
    simp only at h
    split at h
    · rename_i hc
      cases ho : t.op n pl.ws with
      | none => rw [ho] at h; cases h
      | some r =>
        obtain ⟨t', ws', c, pc⟩ := r
        rw [ho] at h
        simp only [Option.some.injEq] at h
        exact ⟨t, t', ws', c, pc, rfl, hc, ho, h.symm⟩
    · cases h
theorem turn_all {n B p k g : Nat} {w : World} {pl : Pl} {gs : List Nat} {Fs : List (Nat → Prop)} {FW : Nat → Prop} {t t' : Th} {ws' : List (List Nat)} {c pc : Nat} (h : PInv w B p pl gs Fs FW) (hB : B ≤ w.heap.size) (ht : pl.ths[k]? = some t) (hg : gs[k]? = some g) (hc : t.call < t.calls.length) (ho : t.op n pl.ws = some (t', ws', (c, pc))) (tr : List (Nat × Nat × Nat)) :
    Calls Try.prog 37 #[.pointer (some ⟨g, 0, none⟩), .pointer (some ⟨p, 0, none⟩)] w (TurnPost B p ⟨pl.ths.set k t', ws', tr⟩ gs Fs FW w c pc) := by
  obtain ⟨g', F, h1, h2, h3⟩ := h.get ht
  rw [hg] at h1; cases h1
  refine (op_all n B g p w t t' pl.ws ws' c pc F FW h3 h.wd (h.aw k F h2) hB hc ho).mono ?_
  rintro e w' ⟨he, hT, hW, hK⟩
  obtain ⟨q1, q2, q3⟩ := h.set tr ht hg h2 hT hW hK
  exact ⟨he, _, q1, q2, q3⟩
/-- what going up to the first operation leaves -/
def StartPost (B p : Nat) (pl' : Pl) (gs : List Nat) (Fs : List (Nat → Prop)) (FW : Nat → Prop) (w : World) (e : Ending) (w' : World) : Prop :=
  e = .returned (.tuple #[]) ∧ ∃ Fs', PInv w' B p pl' gs Fs' FW ∧ Keeps (Any Fs FW) w w' ∧ ∀ b, Any Fs' FW b → Any Fs FW b ∨ w.heap.size ≤ b
theorem start_all {n B p k g : Nat} {w : World} {pl : Pl} {gs : List Nat} {Fs : List (Nat → Prop)} {FW : Nat → Prop} {t t' : Th} (h : PInv w B p pl gs Fs FW) (hB : B ≤ w.heap.size) (ht : pl.ths[k]? = some t) (hg : gs[k]? = some g) (ho : t.on n = some t') (P : Option Addr) :
    Calls Try.prog 36 #[.pointer (some ⟨g, 0, none⟩), .pointer P] w (StartPost B p { pl with ths := pl.ths.set k t' } gs Fs FW w) := by
  obtain ⟨g', F, h1, h2, h3⟩ := h.get ht
  rw [hg] at h1; cases h1
  refine (on_all n B g P w t t' F h3 hB ho).mono ?_
  rintro e w' ⟨he, hT, hK⟩
  obtain ⟨q1, q2, q3⟩ := h.set pl.trace ht hg h2 hT (h.wd.keeps hK (fun b hb z => h.aw k F h2 b z hb)) (hK.mono fun b _ z => .inl z)
  exact ⟨he, _, q1, q2, q3⟩
end Go.Proofs.Ytgenblefbddilaa.mz
