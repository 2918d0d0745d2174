/-
  The merged list is one: none in it covers another one, no two are the halves of one; plainly.
-/
import Derived.Test.YtdnddlmlbnachaaPfB
set_option linter.unusedVariables false
set_option linter.unusedSimpArgs false
namespace Go.Proofs.Ytdnddlmlbnachaa.pf
/-- some prefix of the list has the address -/
def had (l : List Px) (b : Ad) : Prop := ∃ p ∈ l, has p b
/-- prefixes that may be, of which none covers another one and no two are the halves of one -/
structure Nrm (l : List Px) : Prop where
  ok : ∀ p ∈ l, p.a.Wf ∧ okP p
  cov : ∀ p ∈ l, ∀ q ∈ l, covers p q → p = q
  hal : ∀ p : Px, p.a.Wf → okP p → ¬ p.bits = (wid p.a : Int) → ¬ (half0 p ∈ l ∧ half1 p ∈ l)
theorem covers_trans {p q r : Px} (h : covers p q) (k : covers q r) : covers p r := ⟨k.1, by have := h.2.1; have := k.2.1; omega, by
  have hb := covers_has h k.2.2
  exact hb⟩
/-- a prefix all of whose addresses are had is covered by one of the list -/
theorem inside {l : List Px} (hl : Nrm l) : ∀ (n : Nat) (p : Px), p.a.Wf → okP p → (n : Int) = (wid p.a : Int) - p.bits → (∀ b : Ad, b.Wf → has p b → had l b) → ∃ q ∈ l, covers q p
  | 0, p, hw, ho, hn, hb => by
    obtain ⟨q, hq, hh⟩ := hb p.a hw ⟨ho, ho.1, rfl, fun _ _ => rfl⟩
    refine ⟨q, hq, ho, ?_, hh⟩
    have h1 := hh.1.2.1.2
    rw [wid_of hh.2.2.1.symm] at h1
    omega
  | n + 1, p, hw, ho, hn, hb => by
    have hne : ¬ p.bits = (wid p.a : Int) := by omega
    have o0 := half0_ok hw ho hne
    have o1 := half1_ok hw ho hne
    have w1 := half1_wf hw ho hne
    have hw1 : wid (half1 p).a = wid p.a := wid_of rfl
    obtain ⟨q0, m0, c0⟩ := inside hl n (half0 p) hw o0 (by show (n : Int) = (wid p.a : Int) - (p.bits + 1); omega) (fun b hbw hh => hb b hbw ((half0_has hw ho hne b).1 hh).1)
    obtain ⟨q1, m1, c1⟩ := inside hl n (half1 p) w1 o1 (by show (n : Int) = (wid (half1 p).a : Int) - (p.bits + 1); rw [hw1]; omega) (fun b hbw hh => hb b hbw ((half1_has hw ho hne b).1 hh).1)
    have b0 : q0.bits ≤ p.bits + 1 := c0.2.1
    have b1 : q1.bits ≤ p.bits + 1 := c1.2.1
    have ob := ho.2.1
    have hwl := wid_le p.a
    by_cases e0 : q0.bits ≤ p.bits
    · exact ⟨q0, m0, ho, e0, c0.2.2⟩
    · by_cases e1 : q1.bits ≤ p.bits
      · refine ⟨q1, m1, ho, e1, c1.2.2.1, ho.1, c1.2.2.2.2.1, fun i hi => ?_⟩
        have := c1.2.2.2.2.2 i hi
        rw [half1_bit hw ho hne i (by omega), if_neg (by omega)] at this
        exact this
      · exfalso
        have q0e : q0 = half0 p := px_ext (hl.ok q0 m0).1 hw (hl.ok q0 m0).2 o0 c0.2.2.2.2.1.symm (by show q0.bits = p.bits + 1; omega) (fun i hi => (c0.2.2.2.2.2 i hi).symm)
        have q1e : q1 = half1 p := px_ext (hl.ok q1 m1).1 w1 (hl.ok q1 m1).2 o1 c1.2.2.2.2.1.symm (by show q1.bits = p.bits + 1; omega) (fun i hi => (c1.2.2.2.2.2 i hi).symm)
        exact hl.hal p hw ho hne ⟨q0e ▸ m0, q1e ▸ m1⟩
theorem inside' {l : List Px} (hl : Nrm l) (p : Px) (hw : p.a.Wf) (ho : okP p) (h : ∀ b : Ad, b.Wf → has p b → had l b) : ∃ q ∈ l, covers q p :=
  inside hl ((wid p.a : Int) - p.bits).toNat p hw ho (by have := ho.2.1; omega) h
/-- of the same addresses there is one such list, but for its order -/
theorem nrm_sub {l m : List Px} (hl : Nrm l) (hm : Nrm m) (h : ∀ b : Ad, b.Wf → (had l b ↔ had m b)) : ∀ p ∈ l, p ∈ m := fun p hp => by
  obtain ⟨hw, ho⟩ := hl.ok p hp
  obtain ⟨q, hq, hc⟩ := inside' hm p hw ho (fun b hb hh => (h b hb).1 ⟨p, hp, hh⟩)
  obtain ⟨qw, qo⟩ := hm.ok q hq
  obtain ⟨r, hr, hd⟩ := inside' hl q qw qo (fun b hb hh => (h b hb).2 ⟨q, hq, hh⟩)
  have e := hl.cov r hr p hp (covers_trans hd hc)
  subst e
  rw [covers_both hw qw hd hc]; exact hq
theorem nrm_same {l m : List Px} (hl : Nrm l) (hm : Nrm m) (h : ∀ b : Ad, b.Wf → (had l b ↔ had m b)) (p : Px) : p ∈ l ↔ p ∈ m :=
  ⟨nrm_sub hl hm h p, nrm_sub hm hl (fun b hb => (h b hb).symm) p⟩
theorem cmpB_asymm : ∀ (l m : List Nat), cmpB l m = -1 → cmpB m l = 1
  | [], _, h => by simp [cmpB] at h
  | _ :: _, [], h => by simp [cmpB] at h
  | x :: r, y :: t, h => by
    unfold cmpB at h ⊢
    by_cases h1 : x < y
    · rw [if_neg (by omega), if_pos h1]
    · rw [if_neg h1] at h
      by_cases h2 : y < x
      · rw [if_pos h2] at h; omega
      · rw [if_neg h2] at h
        rw [if_neg h2, if_neg h1]; exact cmpB_asymm r t h
theorem cmpB_vals : ∀ (l m : List Nat), cmpB l m = -1 ∨ cmpB l m = 0 ∨ cmpB l m = 1
  | [], _ => by simp [cmpB]
  | _ :: _, [] => by simp [cmpB]
  | x :: r, y :: t => by
    unfold cmpB
    split
    · simp
    · split
      · simp
      · exact cmpB_vals r t
theorem cmpB_flip : ∀ (l m : List Nat), cmpB l m = 0 → cmpB m l = 0
  | [], [], _ => rfl
  | [], _ :: _, _ => by simp [cmpB]
  | _ :: _, [], _ => by simp [cmpB]
  | x :: r, y :: t, h => by
    unfold cmpB at h ⊢
    by_cases h1 : x < y
    · rw [if_pos h1] at h; omega
    · rw [if_neg h1] at h
      by_cases h2 : y < x
      · rw [if_pos h2] at h; omega
      · rw [if_neg h2] at h
        rw [if_neg h2, if_neg h1]; exact cmpB_flip r t h
theorem cmpB_zero : ∀ (l m : List Nat), cmpB l m = 0 → l.length = m.length → l = m
  | [], [], _, _ => rfl
  | [], _ :: _, _, h => by simp at h
  | _ :: _, [], _, h => by simp at h
  | x :: r, y :: t, h, hl => by
    unfold cmpB at h
    by_cases h1 : x < y
    · rw [if_pos h1] at h; omega
    · rw [if_neg h1] at h
      by_cases h2 : y < x
      · rw [if_pos h2] at h; omega
      · rw [if_neg h2] at h
        rw [show x = y from by omega, cmpB_zero r t h (by simpa using hl)]
theorem cmp_self (p : Px) : cmp p p = 0 := by unfold cmp; simp [cmpB_self]
theorem cmp_asymm {p q : Px} (h : cmp p q = -1) : ¬ cmp q p = -1 := by
  unfold cmp at h ⊢
  by_cases hv : p.a.v6 = q.a.v6
  · rw [if_pos hv] at h
    rw [if_pos hv.symm]
    by_cases h0 : cmpB p.a.B q.a.B = 0
    · rw [if_neg (fun z => z h0)] at h
      have h0' : cmpB q.a.B p.a.B = 0 := cmpB_flip _ _ h0
      rw [if_neg (fun z => z h0')]
      split at h
      · rw [if_neg (by omega)]; split <;> omega
      · split at h <;> omega
    · rw [if_pos h0] at h
      have := cmpB_asymm _ _ h
      rw [if_pos (by omega)]; omega
  · rw [if_neg hv] at h
    rw [if_neg (fun z => hv z.symm)]
    cases hp : p.a.v6 <;> cases hq : q.a.v6 <;> simp_all
/-- two lists in order with the same prefixes are one -/
theorem sorted_same : ∀ (l m : List Px), l.Pairwise (fun p q => cmp p q = -1) → m.Pairwise (fun p q => cmp p q = -1) → (∀ p, p ∈ l ↔ p ∈ m) → l = m
  | [], [], _, _, _ => rfl
  | [], q :: m, _, _, h => by have := (h q).2 (by simp); simp at this
  | p :: l, [], _, _, h => by have := (h p).1 (by simp); simp at this
  | p :: l, q :: m, hl, hm, h => by
    rw [List.pairwise_cons] at hl hm
    have e : p = q := by
      rcases List.mem_cons.1 ((h p).1 (by simp)) with c | c
      · exact c
      · rcases List.mem_cons.1 ((h q).2 (by simp)) with d | d
        · exact d.symm
        · exact absurd (hm.1 p c) (cmp_asymm (hl.1 q d))
    subst e
    have np : ∀ (t : List Px), (∀ x ∈ t, cmp p x = -1) → p ∉ t := fun t ht hx => by have := ht p hx; rw [cmp_self] at this; omega
    rw [sorted_same l m hl.2 hm.2 (fun x => ⟨fun hx => by
      rcases List.mem_cons.1 ((h x).1 (List.mem_cons_of_mem _ hx)) with c | c
      · subst c; exact absurd hx (np l hl.1)
      · exact c, fun hx => by
      rcases List.mem_cons.1 ((h x).2 (List.mem_cons_of_mem _ hx)) with c | c
      · subst c; exact absurd hx (np m hm.1)
      · exact c⟩)]
/-- THE MERGED LIST IS ONE -/
theorem nrm_one {l m : List Px} (hl : Nrm l) (hm : Nrm m) (sl : l.Pairwise (fun p q => cmp p q = -1)) (sm : m.Pairwise (fun p q => cmp p q = -1)) (h : ∀ b : Ad, b.Wf → (had l b ↔ had m b)) : l = m :=
  sorted_same l m sl sm (nrm_same hl hm h)
end Go.Proofs.Ytdnddlmlbnachaa.pf
