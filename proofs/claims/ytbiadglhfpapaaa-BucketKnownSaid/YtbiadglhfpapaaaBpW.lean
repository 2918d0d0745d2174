/-
  The laws of layer 12 that take asks, walked of the program's contracts: arguments as the frames open them.
-/
import Derived.Test.YtbiadglhfpapaaaBpG
import Derived.Test.YtbiadglhfpapaaaBkAl
import Derived.Test.YtbiadglhfpapaaaOcFlat
set_option linter.unusedVariables false
namespace Go.Proofs.Ytbiadglhfpapaaa.oc
open Go.RowKit Go.Proofs.Ytbiadglhfpapaaa.mz Go.Proofs.Ytbiadglhfpapaaa.bk Go.Proofs.Ytbiadglhfpapaaa.bp
theorem asks_of_flat {w : World} {A : Option Addr} {n : Nat} {xs : List (List Value)} (h : flat.IsFlat w (List.replicate 2 (.int .u64)) A n xs) : ∃ l : List (Nat × Nat), l.length = n ∧ Asks w w.heap.size A l := by
  obtain ⟨hl, hx⟩ := h
  have each : ∀ i, i < n → ∃ p : Nat × Nat, (p.1 < 18446744073709551616 ∧ p.2 < 18446744073709551616) ∧ xs[i]? = some [.int .u64 (p.1 : Int), .int .u64 (p.2 : Int)] := fun i hi => by
    obtain ⟨x, hxi⟩ : ∃ x, xs[i]? = some x := ⟨_, List.getElem?_eq_getElem (by omega)⟩
    obtain ⟨h1, h2, _⟩ := hx i x hxi
    obtain ⟨l, hll, rfl, hlt⟩ := flat.all_u64 (n := 2) (by simpa using h1) h2
    match l, hll, hlt with
    | [a, b], _, hlt => exact ⟨(a, b), ⟨hlt a (by simp), hlt b (by simp)⟩, hxi⟩
  obtain ⟨f, hf⟩ := Go.Deep.choose_lt each
  refine ⟨(List.range n).map f, by simp, ⟨fun i v hv => ?_, fun p hp => ?_⟩⟩
  · have key : ∀ (ps : List (Nat × Nat)) (i : Nat) (v : Value), (askc ps)[i]? = some v → ∃ p, ps[i / 2]? = some p ∧ [Value.int .u64 (p.1 : Int), .int .u64 (p.2 : Int)][i % 2]? = some v := by
      intro ps
      induction ps with
      | nil => intro i v h; simp [askc] at h
      | cons p r ih =>
        intro i v h
        match i, h with
        | 0, h => exact ⟨p, rfl, h⟩
        | 1, h => exact ⟨p, rfl, h⟩
        | i + 2, h =>
          obtain ⟨q, h1, h2⟩ := ih i v (by simpa [askc] using h)
          refine ⟨q, ?_, ?_⟩
          · rw [show (i + 2) / 2 = i / 2 + 1 from by omega]; simpa using h1
          · rw [show (i + 2) % 2 = i % 2 from by omega]; exact h2
    obtain ⟨p, hp, hv2⟩ := key _ i v hv
    have hi : i / 2 < n := by
      have := List.getElem?_eq_some_iff.1 hp
      obtain ⟨hlt, _⟩ := this
      simpa using hlt
    have hpf : p = f (i / 2) := by simpa [hi] using hp.symm
    subst hpf
    obtain ⟨_, _, b, o, rfl, hb, hc⟩ := hx (i / 2) _ (hf (i / 2) hi).2
    refine ⟨b, o, rfl, hb, ?_⟩
    have := hc (i % 2) v hv2
    rw [List.length_replicate, show o + i / 2 * 2 + i % 2 = o + i from by omega] at this
    exact this
  · simp only [List.mem_map, List.mem_range] at hp
    obtain ⟨i, hi, rfl⟩ := hp
    exact (hf i hi).1
theorem walk_bucketNever (W : World) (n d b : Nat) (hn : n < 18446744073709551616) (hd : d < 18446744073709551616) (hb : b < 18446744073709551616) (s : Nat) (hs : s < 18446744073709551616) (A : Option Addr) (m c : Nat) (xs : List (List Value)) (hx : flat.IsFlat W (List.replicate 2 (.int .u64)) A m xs) (hmc : m ≤ c) (hz : c * 16 ≤ 140737488351232) : Calls Try.prog 6 #[bv n d b, .int .u64 (s : Int), .slice A m c] W fun e W' => e = .returned (.bool true) ∧ Below W.heap.size W W' := by
  obtain ⟨l, hl, ha⟩ := asks_of_flat hx
  exact (never_walk W n d b take_said fits_said works_said s A m c l hs ha hl (by omega)).mono fun e W' ⟨he, hk⟩ => ⟨he, (hk (fun _ => False)).below⟩
theorem walk_bucketMost (W : World) (n d b : Nat) (hn : n < 18446744073709551616) (hd : d < 18446744073709551616) (hb : b < 18446744073709551616) (s : Nat) (hs : s < 18446744073709551616) (A : Option Addr) (m c : Nat) (xs : List (List Value)) (hx : flat.IsFlat W (List.replicate 2 (.int .u64)) A m xs) (hmc : m ≤ c) (hz : c * 16 ≤ 140737488351232) : Calls Try.prog 7 #[bv n d b, .int .u64 (s : Int), .slice A m c] W fun e W' => e = .returned (.bool true) ∧ Below W.heap.size W W' := by
  obtain ⟨l, hl, ha⟩ := asks_of_flat hx
  exact (most_walk W n d b take_said most_said works_said s A m c l hs ha hl (by omega)).mono fun e W' ⟨he, hk⟩ => ⟨he, (hk (fun _ => False)).below⟩
theorem walk_bucketAll (W : World) (n d b : Nat) (hn : n < 18446744073709551616) (hd : d < 18446744073709551616) (hb : b < 18446744073709551616) (A : Option Addr) (m c : Nat) (xs : List (List Value)) (hx : flat.IsFlat W (List.replicate 2 (.int .u64)) A m xs) (hmc : m ≤ c) (hz : c * 16 ≤ 140737488351232) : Calls Try.prog 8 #[bv n d b, .slice A m c] W fun e W' => e = .returned (.bool true) ∧ Below W.heap.size W W' := by
  obtain ⟨l, hl, ha⟩ := asks_of_flat hx
  exact (all_walk W n d b take_said fits_said works_said A m c l ha hl (by omega)).mono fun e W' ⟨he, hk⟩ => ⟨he, (hk (fun _ => False)).below⟩
end Go.Proofs.Ytbiadglhfpapaaa.oc
