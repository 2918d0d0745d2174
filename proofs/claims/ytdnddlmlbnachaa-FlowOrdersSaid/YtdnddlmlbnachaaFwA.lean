/-
  Keys, plainly: their bytes, their hash, their order; the spread over four lanes.
-/
import Derived.Test.YtdnddlmlbnachaaPfL
import Derived.Test.YtdnddlmlbnachaaOcH
set_option linter.unusedVariables false
set_option linter.unusedSimpArgs false
namespace Go.Proofs.Ytdnddlmlbnachaa.fw
open Go.Proofs.Ytdnddlmlbnachaa.oc Go.Proofs.Ytdnddlmlbnachaa.pf
structure Ky where
  src : Ad
  dst : Ad
  pr : Nat
  sp : Nat
  dp : Nat
structure Ky.Wf (k : Ky) : Prop where
  s : k.src.Wf
  d : k.dst.Wf
  p : k.pr < 256
  sl : k.sp < 65536
  dl : k.dp < 65536
def kd (a : Ad) : Nat := if a.v6 then 1 else 0
def aby (a : Ad) : List Nat := kd a :: a.B
def kby (k : Ky) : List Nat := aby k.src ++ aby k.dst ++ [k.pr] ++ be 2 k.sp ++ be 2 k.dp
def kback (k : Ky) : Ky := ⟨k.dst, k.src, k.pr, k.dp, k.sp⟩
theorem kback_back (k : Ky) : kback (kback k) = k := rfl
theorem Ky.Wf.back {k : Ky} (h : k.Wf) : (kback k).Wf := ⟨h.d, h.s, h.p, h.dl, h.sl⟩
theorem kd_lt (a : Ad) : kd a < 256 := by unfold kd; split <;> omega
theorem aby_len {a : Ad} (h : a.Wf) : (aby a).length = 17 := by simp [aby, h.len]
theorem aby_small {a : Ad} (h : a.Wf) : Small (aby a) := fun x hx => by
  unfold aby at hx
  rcases List.mem_cons.1 hx with rfl | q
  · exact kd_lt a
  · exact h.sm x q
theorem kby_len {k : Ky} (h : k.Wf) : (kby k).length = 39 := by simp [kby, aby_len h.s, aby_len h.d, be_length]
theorem kby_small {k : Ky} (h : k.Wf) : Small (kby k) :=
  ((((aby_small h.s).append (aby_small h.d)).append (Small.one h.p)).append (be_small _ _)).append (be_small _ _)
theorem aby_inj {a b : Ad} (h : aby a = aby b) : a = b := by
  unfold aby kd at h
  simp only [List.cons.injEq] at h
  refine Ad.eq_of ?_ h.2
  have := h.1
  cases ha : a.v6 <;> cases hb : b.v6 <;> simp [ha, hb] at this ⊢
theorem be_inj {v u : Nat} (hv : v < 65536) (hu : u < 65536) (h : be 2 v = be 2 u) : v = u := by
  rw [← num_be 2 v hv, ← num_be 2 u hu, h]
theorem kby_inj {k l : Ky} (hk : k.Wf) (hl : l.Wf) (h : kby k = kby l) : k = l := by
  unfold kby at h
  obtain ⟨h1, h2⟩ := List.append_inj_right' h (by simp [be_length]) |> fun q => (⟨List.append_inj_left' h (by simp [be_length]), q⟩ : _ ∧ _)
  obtain ⟨h3, h4⟩ := (⟨List.append_inj_left' h1 (by simp [be_length]), List.append_inj_right' h1 (by simp [be_length])⟩ : _ ∧ _)
  obtain ⟨h5, h6⟩ := (⟨List.append_inj_left' h3 (by simp), List.append_inj_right' h3 (by simp)⟩ : _ ∧ _)
  obtain ⟨h7, h8⟩ := List.append_inj h5 (by rw [aby_len hk.s, aby_len hl.s])
  have e1 := aby_inj h7
  have e2 := aby_inj h8
  have e3 := be_inj hk.sl hl.sl h4
  have e4 := be_inj hk.dl hl.dl h2
  have e5 : k.pr = l.pr := by simpa using h6
  cases k; cases l
  simp_all
/-- the hash; the order -/
def khash (k : Ky) : Nat := fnv (kby k)
theorem khash_lt (k : Ky) : khash k < 18446744073709551616 := fnv_lt _
def kcmp (a b : Ky) : Int := cmpB (kby a) (kby b)
theorem kcmp_self (a : Ky) : kcmp a a = 0 := cmpB_self _
theorem kcmp_zero {a b : Ky} (ha : a.Wf) (hb : b.Wf) : kcmp a b = 0 ↔ a = b :=
  ⟨fun h => kby_inj ha hb (cmpB_zero _ _ h (by rw [kby_len ha, kby_len hb])), fun h => by rw [h]; exact kcmp_self b⟩
theorem kcmp_flip (a b : Ky) : kcmp b a = -kcmp a b := by
  unfold kcmp
  rcases cmpB_vals (kby a) (kby b) with h | h | h
  · rw [cmpB_asymm _ _ h, h]; rfl
  · rw [cmpB_flip _ _ h, h]; rfl
  · rcases cmpB_vals (kby b) (kby a) with k | k | k
    · rw [h, k]
    · have := cmpB_flip _ _ k; omega
    · exfalso
      revert h k
      generalize kby a = l
      generalize kby b = m
      intro h k
      induction l generalizing m with
      | nil => simp [cmpB] at h
      | cons x r ih =>
        cases m with
        | nil => simp [cmpB] at h
        | cons y t =>
          unfold cmpB at h k
          by_cases h1 : x < y
          · rw [if_pos h1] at h; omega
          · rw [if_neg h1] at h
            by_cases h2 : y < x
            · rw [if_pos h2] at k; omega
            · rw [if_neg h2] at h k; rw [if_neg h1] at k; exact ih t h k
theorem cmpB_trans : ∀ (l m n : List Nat), l.length = m.length → m.length = n.length → cmpB l m = -1 → cmpB m n = -1 → cmpB l n = -1
  | [], _, _, _, _, h, _ => by simp [cmpB] at h
  | _ :: _, [], _, h, _, _, _ => by simp at h
  | _ :: _, _ :: _, [], _, h, _, _ => by simp at h
  | x :: r, y :: t, z :: u, e1, e2, h1, h2 => by
    have ih := cmpB_trans r t u (by simpa using e1) (by simpa using e2)
    unfold cmpB at h1 h2 ⊢
    by_cases a1 : x < y
    · by_cases b1 : y < z
      · rw [if_pos (by omega)]
      · rw [if_neg b1] at h2
        by_cases b2 : z < y
        · rw [if_pos b2] at h2; omega
        · rw [if_pos (by omega)]
    · rw [if_neg a1] at h1
      by_cases a2 : y < x
      · rw [if_pos a2] at h1; omega
      · rw [if_neg a2] at h1
        by_cases b1 : y < z
        · rw [if_pos (by omega)]
        · rw [if_neg b1] at h2
          by_cases b2 : z < y
          · rw [if_pos b2] at h2; omega
          · rw [if_neg b2] at h2
            rw [if_neg (by omega), if_neg (by omega)]
            exact ih h1 h2
theorem kcmp_trans {a b c : Ky} (ha : a.Wf) (hb : b.Wf) (hc : c.Wf) (h1 : kcmp a b < 0) (h2 : kcmp b c < 0) : kcmp a c < 0 := by
  have v1 := cmpB_vals (kby a) (kby b)
  have v2 := cmpB_vals (kby b) (kby c)
  unfold kcmp at *
  have := cmpB_trans (kby a) (kby b) (kby c) (by rw [kby_len ha, kby_len hb]) (by rw [kby_len hb, kby_len hc]) (by omega) (by omega)
  omega
theorem kcmp_vals (a b : Ky) : kcmp a b = -1 ∨ kcmp a b = 0 ∨ kcmp a b = 1 := cmpB_vals _ _
/-- the lowest two bits of a hash hang on the lowest two bits alone -/
def f4 (h x : Nat) : Nat := (h ^^^ x) * 3 % 4
theorem hstep_four (h x : Nat) : hstep h x % 4 = f4 (h % 4) (x % 4) := by
  unfold hstep f4
  have e : (h ^^^ x) % 4 = (h % 4) ^^^ (x % 4) := Nat.xor_mod_two_pow (n := 2)
  rw [← e]
  generalize h ^^^ x = y
  omega
theorem f4_all : ∀ c d1 d2 r : Fin 4, ∃ j : Fin 4, f4 (f4 (f4 c.val j.val) d1.val) d2.val = r.val := by decide +kernel
theorem f4_lt (h x : Nat) : f4 h x < 4 := by unfold f4; omega
theorem fnv_tail (l : List Nat) (a b c d : Nat) : fnv (l ++ [a, b, c, d]) % 4 = f4 (f4 (f4 (f4 (fnv l % 4) (a % 4)) (b % 4)) (c % 4)) (d % 4) := by
  rw [show l ++ [a, b, c, d] = (((l ++ [a]) ++ [b]) ++ [c]) ++ [d] from by simp, fnv_snoc, fnv_snoc, fnv_snoc, fnv_snoc, hstep_four, hstep_four, hstep_four, hstep_four]
theorem be_two (v : Nat) : be 2 v = [v / 256 % 256, v % 256] := by simp [be]
/-- k with another port -/
def kport (k : Ky) (p : Nat) : Ky := ⟨k.src, k.dst, k.pr, p, k.dp⟩
theorem kport_hash (k : Ky) (p : Nat) : khash (kport k p) % 4 = f4 (f4 (f4 (f4 (fnv (aby k.src ++ aby k.dst ++ [k.pr]) % 4) (p / 256 % 256 % 4)) (p % 256 % 4)) (k.dp / 256 % 256 % 4)) (k.dp % 256 % 4) := by
  unfold khash kby kport
  simp only [be_two]
  rw [List.append_assoc, show ([p / 256 % 256, p % 256] ++ [k.dp / 256 % 256, k.dp % 256] : List Nat) = [p / 256 % 256, p % 256, k.dp / 256 % 256, k.dp % 256] from rfl, fnv_tail]
/-- of 256 ports, one behind the other, some come to each of four lanes -/
theorem spread (k : Ky) (p r : Nat) (hp : p < 65536) (hr : r < 4) : ∃ i, i < 256 ∧ khash (kport k ((p + (i + 1)) % 65536)) % 4 = r := by
  obtain ⟨i0, h0⟩ : ∃ i0, i0 = (4 - (p + 1) % 4) % 4 := ⟨_, rfl⟩
  obtain ⟨q, hq⟩ : ∃ q, q = (p + (i0 + 1)) % 65536 := ⟨_, rfl⟩
  have q4 : q % 4 = 0 := by omega
  obtain ⟨⟨j, hj⟩, hf⟩ := f4_all ⟨f4 (fnv (aby k.src ++ aby k.dst ++ [k.pr]) % 4) (q / 256 % 256 % 4), f4_lt _ _⟩ ⟨k.dp / 256 % 256 % 4, by omega⟩ ⟨k.dp % 256 % 4, by omega⟩ ⟨r, hr⟩
  simp only at hf
  refine ⟨i0 + j, by omega, ?_⟩
  have e1 : (p + (i0 + j + 1)) % 65536 = q + j := by omega
  rw [e1, kport_hash]
  have e2 : (q + j) / 256 = q / 256 := by omega
  have e3 : (q + j) % 256 % 4 = j := by omega
  rw [e2, e3]
  exact hf
end Go.Proofs.Ytdnddlmlbnachaa.fw
