/-
  Arguments that are keys, headers, three keys.
-/
import Derived.Test.YtdnddlmlbnachaaRows
import Derived.Test.YtdnddlmlbnachaaFwF
import Derived.Test.YtdnddlmlbnachaaOcFlat
set_option linter.unusedVariables false
set_option maxRecDepth 100000
namespace Go.Proofs.Ytdnddlmlbnachaa.fw
open Go Go.RowKit Go.WideShapes Go.ChangeShapes Go.ChangeAt Go.Lib Go.Proofs.Ytdnddlmlbnachaa.pf Go.Proofs.Ytdnddlmlbnachaa.oc
section
theorem fit_left {a b : List flat.K} {x : List Value} (h : flat.Fit (a ++ b) x 0) : flat.Fit a (x.take a.length) 0 := fun j k hj => by
  have hl := (List.getElem?_eq_some_iff.1 hj).1
  obtain ⟨v, hv, hk⟩ := h j k (by rw [List.getElem?_append_left hl]; exact hj)
  rw [Nat.zero_add] at hv ⊢
  exact ⟨v, by rw [List.getElem?_take_of_lt hl]; exact hv, hk⟩
theorem fit_right {a b : List flat.K} {x : List Value} (h : flat.Fit (a ++ b) x 0) : flat.Fit b (x.drop a.length) 0 := fun j k hj => by
  obtain ⟨v, hv, hk⟩ := h (a.length + j) k (by rw [List.getElem?_append_right (by omega), Nat.add_sub_cancel_left]; exact hj)
  rw [Nat.zero_add] at hv ⊢
  exact ⟨v, by rw [List.getElem?_drop]; exact hv, hk⟩
theorem fit_u8 {n : Nat} {x : List Value} (hl : x.length = n) (h : flat.Fit (List.replicate n (.int .u8)) x 0) : ∃ l : List Nat, l.length = n ∧ x = b8s l ∧ ∀ y ∈ l, y < 256 := by
  have each : ∀ j, j < n → ∃ y : Nat, x[j]? = some (.int .u8 (y : Int)) ∧ y < 256 := fun j hj => by
    obtain ⟨v, hv, z, rfl, hw⟩ := h j (.int .u8) (by simp [hj])
    obtain ⟨h1, h2⟩ := wf_u8 z hw
    obtain ⟨y, rfl⟩ := Int.eq_ofNat_of_zero_le h1
    rw [Nat.zero_add] at hv
    exact ⟨y, hv, by omega⟩
  obtain ⟨f, hf⟩ := Go.Deep.choose_lt each
  refine ⟨(List.range n).map f, by simp, ?_, fun y hy => ?_⟩
  · apply List.ext_getElem?
    intro j
    by_cases hj : j < n
    · rw [(hf j hj).1]; simp [b8s, hj]
    · rw [List.getElem?_eq_none (by omega)]; simp [b8s, hj]
  · simp only [List.mem_map, List.mem_range] at hy
    obtain ⟨j, hj, rfl⟩ := hy
    exact (hf j hj).2
def adK : List flat.K := .bool :: List.replicate 16 (.int .u8)
def keyK : List flat.K := adK ++ (adK ++ [.int .u8, .int .u16, .int .u16])
theorem fit_ad {x : List Value} (hl : x.length = 17) (h : flat.Fit adK x 0) : ∃ a : Ad, a.Wf ∧ x = adc a := by
  obtain ⟨v, hv, b, rfl⟩ := h 0 .bool rfl
  match x, hl, hv with
  | y :: r, hl, hv =>
    simp at hv
    subst hv
    obtain ⟨l, h1, h2, h3⟩ := fit_u8 (n := 16) (x := r) (by simpa using hl) (fun j k hj => by
      obtain ⟨v, hv, hk⟩ := h (j + 1) k (by simpa [adK] using hj)
      rw [Nat.zero_add, List.getElem?_cons_succ] at hv
      exact ⟨v, by rw [Nat.zero_add]; exact hv, hk⟩)
    exact ⟨⟨b, l⟩, ⟨h1, h3⟩, by rw [h2]; rfl⟩
theorem fit_three {x : List Value} (hl : x.length = 3) (h : flat.Fit [.int .u8, .int .u16, .int .u16] x 0) : ∃ p s d : Nat, p < 256 ∧ s < 65536 ∧ d < 65536 ∧ x = [.int .u8 (p : Int), .int .u16 (s : Int), .int .u16 (d : Int)] := by
  obtain ⟨v0, h0, z0, rfl, w0⟩ := h 0 (.int .u8) rfl
  obtain ⟨v1, h1, z1, rfl, w1⟩ := h 1 (.int .u16) rfl
  obtain ⟨v2, h2, z2, rfl, w2⟩ := h 2 (.int .u16) rfl
  obtain ⟨a0, b0⟩ := wf_u8 z0 w0
  obtain ⟨a1, b1⟩ := wf_u16 z1 w1
  obtain ⟨a2, b2⟩ := wf_u16 z2 w2
  obtain ⟨p, rfl⟩ := Int.eq_ofNat_of_zero_le a0
  obtain ⟨s, rfl⟩ := Int.eq_ofNat_of_zero_le a1
  obtain ⟨d, rfl⟩ := Int.eq_ofNat_of_zero_le a2
  match x, hl with
  | [x0, x1, x2], _ =>
    simp at h0 h1 h2
    exact ⟨p, s, d, by omega, by omega, by omega, by rw [h0, h1, h2]⟩
theorem fit_key {x : List Value} (hl : x.length = 37) (h : flat.Fit keyK x 0) : ∃ k : Ky, k.Wf ∧ x = kvc k := by
  obtain ⟨s, hs, e1⟩ := fit_ad (x := x.take 17) (by simp; omega) (fit_left h)
  have hr := fit_right h
  have hr' : flat.Fit (adK ++ [.int .u8, .int .u16, .int .u16]) (x.drop 17) 0 := hr
  obtain ⟨d, hd, e2⟩ := fit_ad (x := (x.drop 17).take 17) (by simp; omega) (fit_left hr')
  have h3 : flat.Fit [.int .u8, .int .u16, .int .u16] ((x.drop 17).drop 17) 0 := fit_right hr'
  obtain ⟨p, sp, dp, w1, w2, w3, e3⟩ := fit_three (by simp; omega) h3
  refine ⟨⟨s, d, p, sp, dp⟩, ⟨hs, hd, w1, w2, w3⟩, ?_⟩
  unfold kvc
  rw [← e1, ← e2, ← e3, List.take_append_drop, List.take_append_drop]
variable {H : Type} {enc : TypeId × Value → H} {W : World}
/-- a key that came in -/
theorem open_key {r : Reach} {b0 : Nat} {v : Value} {d : DataW H} {p : List MemPlace} (hv : Value.okWide Try.prog W r b0 31 v) (h : DataW.Trod enc Try.prog W 0 (fun _ => true) true 31 v d p) : ∃ k : Ky, k.Wf ∧ v = kv k := by
  obtain ⟨cs, rfl, hsz⟩ := okWide_struct Try.underlying31 hv
  obtain ⟨fuel, hf⟩ := h
  obtain ⟨h1, h2⟩ := flat.kinds_fit 4 31 keyK fuel cs.toList _ (by kernel_rfl) hf
  obtain ⟨k, hk, hx⟩ := fit_key (by simpa [keyK, adK] using h1) h2
  exact ⟨k, hk, by unfold kv; rw [← hx]⟩
theorem fit_most {t : TypeId} {fs : Array Field} (hu : Try.prog.underlying t = some (.struct fs)) (j : Nat) {ks : List flat.K} (hk : flat.kindsF Try.prog (flat.kinds Try.prog 4) (fs.toList.take j) 0 = some ks) {fuel : Nat} {cs : List Value} {y : DataW H × List MemPlace} (hf : DataW.trod enc Try.prog W 0 (fun _ => true) true fuel t cs = some y) :
    flat.Fit ks cs 0 ∧ cs.length = Try.prog.cellsOf t ∧ ∀ (i : Nat) (f : Field), fs[i]? = some f → ∃ m y, DataW.trod enc Try.prog W 0 (fun _ => true) true m f.type ((cs.drop f.offset).take (Try.prog.cellsOf f.type)) = some y := by
  obtain ⟨xs, m, rfl, _, hlen, hxl, hel⟩ := DataW.trod_struct hu hf
  have hone : ∀ f ∈ fs.toList, ∃ y, DataW.trod enc Try.prog W 0 (fun _ => true) true m f.type ((cs.drop f.offset).take (Try.prog.cellsOf f.type)) = some y := fun f hf => by
    obtain ⟨i, hi, rfl⟩ := List.getElem_of_mem hf
    have hi' : i < fs.size := by simpa using hi
    have := hel i fs[i] (Array.getElem?_eq_getElem hi')
    rw [List.getElem?_eq_getElem (by omega)] at this
    exact ⟨_, by simpa using this⟩
  refine ⟨flat.fields_fit (flat.kinds Try.prog 4) m cs (fs.toList.take j) 0 ks hk (fun f hf l' _ _ => hone f (List.mem_of_mem_take hf)) (fun t l' cs' y hg hy _ => (flat.kinds_fit 4 t l' m cs' y hg hy).2) (fun f hf => ?_), hlen, fun i f hif => ?_⟩
  · obtain ⟨y, hy⟩ := hone f (List.mem_of_mem_take hf)
    obtain ⟨l', hl', hc'⟩ : ∃ l', flat.kinds Try.prog 4 f.type = some l' ∧ Try.prog.cellsOf f.type = l'.length := flat.kinds_fit.kindsF_each hk f hf
    rw [(flat.kinds_fit 4 f.type l' m _ y hl' hy).1, hc']
  · obtain ⟨y, hy⟩ := hone f (List.mem_iff_getElem?.2 ⟨i, by simpa using hif⟩)
    exact ⟨m, y, hy⟩
def hdK : List flat.K := [.int .u8, .int .u8, .int .u32, .int .u8, .int .u32]
theorem hdr_last {fs : Array Field} (hu : Try.prog.underlying 29 = some (.struct fs)) : ∃ f : Field, fs[10]? = some f ∧ f.type = 27 ∧ f.offset = 42 ∧ Try.prog.cellsOf f.type = 1 := by
  have e := hu.symm.trans Try.underlying29
  injection e with e
  injection e with e
  subst e
  exact ⟨_, rfl, rfl, rfl, by kernel_rfl⟩
/-- a header that came in: its first cells are a key's -/
theorem open_hdr {r : Reach} {b0 : Nat} {v : Value} {d : DataW H} {p : List MemPlace} (hv' : Value.okWide Try.prog W r b0 29 v) (h : DataW.Trod enc Try.prog W 0 (fun _ => true) true 29 v d p) : ∃ (k : Ky) (t : List Value), k.Wf ∧ t.length = 6 ∧ (∀ u ∈ t, u.oneCell' = true) ∧ v = hv k t := by
  obtain ⟨cs, rfl, hsz⟩ := okWide_struct Try.underlying29 hv'
  obtain ⟨fuel, hf⟩ := h
  obtain ⟨h1, h2, h3⟩ := fit_most Try.underlying29 10 (ks := keyK ++ hdK) (by kernel_rfl) hf
  have hlen : cs.toList.length = 43 := h2
  obtain ⟨f, e1, e2, e3, e4⟩ := hdr_last Try.underlying29
  obtain ⟨m, y, hy⟩ := h3 10 f e1
  rw [e4, e3, e2] at hy
  have hl : ∃ A n c, (cs.toList.drop 42).take 1 = [Value.slice A n c] := by
    rcases Go.Deep.open_slice Try.underlying27 hy with ⟨hcs, _⟩ | ⟨a, len, cap, m, k, D, Pl, hcs, _⟩
    · exact ⟨_, _, _, hcs⟩
    · exact ⟨_, _, _, hcs⟩
  obtain ⟨A, n, c, hl⟩ := hl
  have hfk := fit_left h1
  have hfh := fit_right h1
  obtain ⟨k, hk, ek⟩ := fit_key (x := cs.toList.take 37) (by rw [List.length_take, hlen]; rfl) hfk
  have e42 : (cs.toList.drop 37)[5]? = some (Value.slice A n c) := by
    rw [List.getElem?_drop]
    have := congrArg (fun l => l[0]?) hl
    simpa [List.getElem?_take, List.getElem?_drop] using this
  refine ⟨k, cs.toList.drop 37, hk, by rw [List.length_drop, hlen], fun u hu => ?_, ?_⟩
  · obtain ⟨j, hj⟩ := List.mem_iff_getElem?.1 hu
    have hj6 : j < 6 := by
      have := (List.getElem?_eq_some_iff.1 hj).1
      rw [List.length_drop, hlen] at this; omega
    have hfh' : ∀ j k, hdK[j]? = some k → ∃ v, (cs.toList.drop 37)[0 + j]? = some v ∧ k.ok v := hfh
    have five : ∀ (i : Nat) (kk : IntKind), hdK[i]? = some (.int kk) → j = i → u.oneCell' = true := fun i kk hi e => by
      subst e
      obtain ⟨v, hv2, z, rfl, _⟩ := hfh' j _ hi
      rw [Nat.zero_add, hj] at hv2
      injection hv2 with hv2
      subst hv2; rfl
    rcases (show j = 0 ∨ j = 1 ∨ j = 2 ∨ j = 3 ∨ j = 4 ∨ j = 5 by omega) with e | e | e | e | e | e
    · exact five 0 .u8 rfl e
    · exact five 1 .u8 rfl e
    · exact five 2 .u32 rfl e
    · exact five 3 .u8 rfl e
    · exact five 4 .u32 rfl e
    · subst e
      rw [e42] at hj
      injection hj with hj
      subst hj; rfl
  · unfold hv
    rw [← ek, List.take_append_drop]
theorem okWide_arr {P : Program} {w : World} {r : Reach} {base : Nat} {t e : TypeId} {n : Nat} {v : Value} (ht : P.underlying t = some (.array n e)) (h : Value.okWide P w r base t v) : ∃ cs, v = .agg cs ∧ cs.size = P.cellsOf t := by
  simp only [Value.okWide, ht] at h
  obtain ⟨cs, h1, h2, _⟩ := h
  exact ⟨cs, h1, h2⟩
/-- three keys that came in -/
theorem open_keys3 {r : Reach} {b0 : Nat} {v : Value} {d : DataW H} {p : List MemPlace} (hv' : Value.okWide Try.prog W r b0 49 v) (h : DataW.Trod enc Try.prog W 0 (fun _ => true) true 49 v d p) : ∃ k0 k1 k2 : Ky, k0.Wf ∧ k1.Wf ∧ k2.Wf ∧ v = .agg (kvc k0 ++ (kvc k1 ++ kvc k2)).toArray := by
  obtain ⟨cs, rfl, hsz⟩ := okWide_arr Try.underlying49 hv'
  obtain ⟨fuel, hf⟩ := h
  obtain ⟨h1, h2⟩ := flat.kinds_fit 5 49 (keyK ++ (keyK ++ keyK)) fuel cs.toList _ (by kernel_rfl) hf
  have hlen : cs.toList.length = 111 := h1
  obtain ⟨k0, w0, e0⟩ := fit_key (x := cs.toList.take 37) (by rw [List.length_take, hlen]; rfl) (fit_left h2)
  have hr : flat.Fit (keyK ++ keyK) (cs.toList.drop 37) 0 := fit_right h2
  obtain ⟨k1, w1, e1⟩ := fit_key (x := (cs.toList.drop 37).take 37) (by rw [List.length_take, List.length_drop, hlen]; rfl) (fit_left hr)
  have h3 : flat.Fit keyK ((cs.toList.drop 37).drop 37) 0 := fit_right hr
  obtain ⟨k2, w2, e2⟩ := fit_key (x := (cs.toList.drop 37).drop 37) (by rw [List.length_drop, List.length_drop, hlen]) h3
  exact ⟨k0, k1, k2, w0, w1, w2, by rw [← e0, ← e1, ← e2, List.take_append_drop, List.take_append_drop]⟩
end
end Go.Proofs.Ytdnddlmlbnachaa.fw
