/-
  BucketKnown, walked.
-/
import Derived.Test.YtbiadglhfpapaaaBpY
set_option linter.unusedVariables false
namespace Go.Proofs.Ytbiadglhfpapaaa.bp
open Go.RowKit Go.Proofs.Ytbiadglhfpapaaa.oc Go.Proofs.Ytbiadglhfpapaaa.mz Go.Proofs.Ytbiadglhfpapaaa.bk
def bks : List Nat := [1, 10, 3, 65536, 65536, 1048576, 65537, 1, 1, 1, 65537, 1, 1, 1, 1048577, 1, 1, 0, 1, 0, 1, 0, 1, 1, 65536, 1, 1, 1, 65536, 1048576, 3, 7, 5]
def tks : List Nat := [0, 1, 7, 9, 10, 25, 100, 1099511627776, 1099511627777, 18446744073709551615]
def sts : List Nat := [0, 5, 20, 25, 30, 31, 99, 72057594037927936, 72057662757404672, 72057662757404673, 18446744073709551615, 18446744073709551608]
def nbs : List Nat := [0, 1, 2, 3, 4, 5, 1048576, 1048577, 281474976710656, 18446744073709551615]
theorem lit_at {w : World} {g : Nat} {T : TypeId} {ns : List Nat} (h : Blk w g T (u64s ns)) (hs : ∀ x ∈ ns, x < 18446744073709551616) (j : Nat) (hj : j < ns.length) : ∃ x : Nat, x < 18446744073709551616 ∧ w.cell? ⟨g, j, none⟩ = some (.int .u64 (x : Int)) :=
  ⟨ns[j], hs _ (List.getElem_mem hj), by rw [h.cell]; exact u64s_at (List.getElem?_eq_getElem hj)⟩
theorem pair_zero : (Try.prog.info? 50).map (fun i => (i.zero, i.size, i.bytes)) = some (some (.agg #[.int .u64 0, .int .u64 0]), 2, 16) := by kernel_rfl
theorem make_pairs (n : Nat) (w : World) (hn : n ≤ 5000) :
    (Instr.makeSlice 36 (.int .i64 (n : Int)) (.int .i64 (n : Int))).run Try.prog w = .ok (.slice (some ⟨w.heap.size, 0, none⟩) n n) (w.alloc (.cells (madeCells #[.int .u64 0, .int .u64 0] (n * 2)) 50)) := by
  obtain ⟨i0, hi0, hx⟩ := Option.map_eq_some_iff.1 pair_zero
  simp only [Prod.mk.injEq] at hx
  obtain ⟨hz, hsz, hby⟩ := hx
  have h := run_make (P := Try.prog) w 36 50 i0 _ Try.underlying36 hi0 hz .i64 .i64 (n : Int) (n : Int) (by omega) (Int.le_refl _) (by rw [hby]; omega) (by omega)
  rw [hsz] at h
  exact (by simpa using h : _ = Result.ok (Value.slice (some ⟨w.heap.size, 0, none⟩) n n) (w.alloc (.cells (madeCells (Value.agg #[.int .u64 0, .int .u64 0]).cells (n * 2)) 50)))
/-- no tokens at the tick 0, n times -/
def zeros (n : Nat) : List (Nat × Nat) := List.replicate n (0, 0)
theorem askc_zeros : ∀ n i, (askc (zeros n))[i]? = if i < 2 * n then some (Value.int .u64 ((0 : Nat) : Int)) else none
  | 0, i => by simp [zeros, askc]
  | n + 1, 0 => by simp [zeros, List.replicate_succ, askc]
  | n + 1, 1 => by simp [zeros, List.replicate_succ, askc]; omega
  | n + 1, i + 2 => by
    have := askc_zeros n i
    rw [show askc (zeros (n + 1)) = .int .u64 ((0 : Nat) : Int) :: .int .u64 ((0 : Nat) : Int) :: askc (zeros n) from rfl]
    simp only [List.getElem?_cons_succ]
    rw [this]
    by_cases h : i < 2 * n
    · rw [if_pos h, if_pos (by omega)]
    · rw [if_neg h, if_neg (by omega)]
theorem made_zeros (n : Nat) : (madeCells #[.int .u64 0, .int .u64 0] (n * 2)).toList = askc (zeros n) := by
  apply List.ext_getElem?
  intro i
  rw [askc_zeros]
  simp only [madeCells, Array.toList_map, Array.toList_range, List.getElem?_map]
  by_cases h : i < 2 * n
  · rw [if_pos h, List.getElem?_range (show i < n * 2 by omega)]
    have h3 : i % 2 = 0 ∨ i % 2 = 1 := by omega
    rcases h3 with h3 | h3 <;> simp [h3]
  · rw [if_neg h, List.getElem?_eq_none (by simp; omega)]
    rfl
theorem sum_zeros (n F T : Nat) : ∀ k, sumIn (zeros n) F T k = 0
  | 0 => rfl
  | k + 1 => by
    have : (zeros n).getD k (0, 0) = (0, 0) := by
      rw [List.getD_eq_getElem?_getD]
      unfold zeros
      rw [List.getElem?_replicate]
      split <;> rfl
    rw [sumIn, sum_zeros n F T k, this]
    split <;> rfl
theorem fits_zeros (n d b k : Nat) : IsFits n d b (zeros k) k := by
  have hl : (zeros k).length = k := by simp [zeros]
  refine ⟨by rw [hl]; exact Nat.le_refl _, fun j hj h => ?_, fun h => by rw [hl] at h; exact absurd h (Nat.lt_irrefl _)⟩
  obtain ⟨f, t, _, _, _, _, h3⟩ := h
  rw [sum_zeros] at h3
  exact Nat.not_lt_zero _ h3
theorem may_good : May 1 10 3 := may_works
set_option maxRecDepth 100000 in
set_option maxHeartbeats 2000000 in
theorem fits_long' (w : World) (n d b : Nat) (A : Option Addr) (m c : Nat) (hm : May n d b) (hl : 4096 < m) : Calls Try.prog 26 #[bv n d b, .slice A m c] w fun e w' => e = .returned (.tuple #[.int .i64 0, .int .i64 4]) ∧ ∀ S, Keeps S w w' := by
  have HC := fun w => Lib.hid (check_ w n d b)
  rw [show chk n d b = 0 from by unfold chk; rw [if_pos hm]] at HC
  unfold bv at HC ⊢
  obtain ⟨w0, hw0⟩ : ∃ x, x = (w.alloc (.cells #[.int .u64 (n : Int), .int .u64 (d : Int), .int .u64 (b : Int)] 24)).alloc (.cells #[.slice A m c] 36) := ⟨_, rfl⟩
  have B3 := Blk.new (w.alloc (.cells #[.int .u64 (n : Int), .int .u64 (d : Int), .int .u64 (b : Int)] 24)) 36 #[.slice A m c]
  rw [World.size_alloc] at B3
  rw [← hw0] at B3
  have k0 : ∀ S, Keeps S w w0 := fun S => by rw [hw0]; exact ((Keeps.refl S w).alloc _).alloc _
  have K0 := Lib.hid k0
  have V0 := Lib.hid B3
  have m1 : (4096 : Int) < (m : Int) := by omega
  clear hm hl B3 k0
  go_enter Try.func26, Try.ntmps26
  go_wp2_with fail
  rw [← hw0]
  clear hw0
  refine (HC _).out.mono ?_
  rintro e w1 ⟨rfl, k1⟩
  obtain ⟨P3, hP3⟩ : ∃ x, x = w.heap.size + 1 := ⟨_, rfl⟩
  rw [← hP3] at V0 ⊢
  have x3 : w1.cell? ⟨P3, 0, none⟩ = some (.slice A m c) := by rw [(Blk.keeps V0.out (k1 (fun _ => False)) (fun z => z)).cell]; rfl
  have K1 : Hid (∀ S, Keeps S w w1) := Lib.hid (fun S => (K0.out S).trans (k1 S))
  clear k1 V0 hP3 HC K0
  go_wp2
  try rw [Exit.noGoto_ret]
  go_ret2
  exact ⟨rfl, K1.out⟩
/-- the literals' blocks -/
structure Lits (w : World) (G S1 S2 S3 S4 : Nat) : Prop where
  good : Blk w G 24 [.int .u64 1, .int .u64 10, .int .u64 3]
  bk : Blk w S1 24 (u64s bks)
  tk : Blk w S2 22 (u64s tks)
  st : Blk w S3 22 (u64s sts)
  nb : Blk w S4 22 (u64s nbs)
theorem Lits.keeps {w w' : World} {G S1 S2 S3 S4 : Nat} (h : Lits w G S1 S2 S3 S4) (k : ∀ S, Keeps S w w') : Lits w' G S1 S2 S3 S4 :=
  ⟨Blk.keeps h.good (k (fun _ => False)) (fun z => z), Blk.keeps h.bk (k (fun _ => False)) (fun z => z), Blk.keeps h.tk (k (fun _ => False)) (fun z => z), Blk.keeps h.st (k (fun _ => False)) (fun z => z), Blk.keeps h.nb (k (fun _ => False)) (fun z => z)⟩
theorem Lits.bucket {w : World} {G S1 S2 S3 S4 : Nat} (h : Lits w G S1 S2 S3 S4) (i : Nat) (hi : i < 11) : ∃ n d b : Nat, w.cell? ⟨S1, i * 3, none⟩ = some (.int .u64 (n : Int)) ∧ w.cell? ⟨S1, i * 3 + 1, none⟩ = some (.int .u64 (d : Int)) ∧ w.cell? ⟨S1, i * 3 + 2, none⟩ = some (.int .u64 (b : Int)) := by
  have hs : ∀ x ∈ bks, x < 18446744073709551616 := by decide
  have hl : bks.length = 33 := rfl
  obtain ⟨n, _, h1⟩ := lit_at h.bk hs (i * 3) (by omega)
  obtain ⟨d, _, h2⟩ := lit_at h.bk hs (i * 3 + 1) (by omega)
  obtain ⟨b, _, h3⟩ := lit_at h.bk hs (i * 3 + 2) (by omega)
  exact ⟨n, d, b, h1, h2, h3⟩
theorem lits_new (w : World) : Lits (((((w.alloc (.cells #[.int .u64 1, .int .u64 10, .int .u64 3] 24)).alloc (.cells #[.int .u64 1, .int .u64 10, .int .u64 3, .int .u64 65536, .int .u64 65536, .int .u64 1048576, .int .u64 65537, .int .u64 1, .int .u64 1, .int .u64 1, .int .u64 65537, .int .u64 1, .int .u64 1, .int .u64 1, .int .u64 1048577, .int .u64 1, .int .u64 1, .int .u64 0, .int .u64 1, .int .u64 0, .int .u64 1, .int .u64 0, .int .u64 1, .int .u64 1, .int .u64 65536, .int .u64 1, .int .u64 1, .int .u64 1, .int .u64 65536, .int .u64 1048576, .int .u64 3, .int .u64 7, .int .u64 5] 24)).alloc (.cells #[.int .u64 0, .int .u64 1, .int .u64 7, .int .u64 9, .int .u64 10, .int .u64 25, .int .u64 100, .int .u64 1099511627776, .int .u64 1099511627777, .int .u64 18446744073709551615] 22)).alloc (.cells #[.int .u64 0, .int .u64 5, .int .u64 20, .int .u64 25, .int .u64 30, .int .u64 31, .int .u64 99, .int .u64 72057594037927936, .int .u64 72057662757404672, .int .u64 72057662757404673, .int .u64 18446744073709551615, .int .u64 18446744073709551608] 22)).alloc (.cells #[.int .u64 0, .int .u64 1, .int .u64 2, .int .u64 3, .int .u64 4, .int .u64 5, .int .u64 1048576, .int .u64 1048577, .int .u64 281474976710656, .int .u64 18446744073709551615] 22)) w.heap.size (w.heap.size + 1) (w.heap.size + 1 + 1) (w.heap.size + 1 + 1 + 1) (w.heap.size + 1 + 1 + 1 + 1) := by
  refine ⟨(((((Blk.new w 24 #[.int .u64 1, .int .u64 10, .int .u64 3]).alloc _).alloc _).alloc _).alloc _), ?_, ?_, ?_, ?_⟩
  · have := ((((Blk.new (w.alloc (.cells #[.int .u64 1, .int .u64 10, .int .u64 3] 24)) 24 #[.int .u64 1, .int .u64 10, .int .u64 3, .int .u64 65536, .int .u64 65536, .int .u64 1048576, .int .u64 65537, .int .u64 1, .int .u64 1, .int .u64 1, .int .u64 65537, .int .u64 1, .int .u64 1, .int .u64 1, .int .u64 1048577, .int .u64 1, .int .u64 1, .int .u64 0, .int .u64 1, .int .u64 0, .int .u64 1, .int .u64 0, .int .u64 1, .int .u64 1, .int .u64 65536, .int .u64 1, .int .u64 1, .int .u64 1, .int .u64 65536, .int .u64 1048576, .int .u64 3, .int .u64 7, .int .u64 5]).alloc (.cells #[.int .u64 0, .int .u64 1, .int .u64 7, .int .u64 9, .int .u64 10, .int .u64 25, .int .u64 100, .int .u64 1099511627776, .int .u64 1099511627777, .int .u64 18446744073709551615] 22)).alloc (.cells #[.int .u64 0, .int .u64 5, .int .u64 20, .int .u64 25, .int .u64 30, .int .u64 31, .int .u64 99, .int .u64 72057594037927936, .int .u64 72057662757404672, .int .u64 72057662757404673, .int .u64 18446744073709551615, .int .u64 18446744073709551608] 22)).alloc (.cells #[.int .u64 0, .int .u64 1, .int .u64 2, .int .u64 3, .int .u64 4, .int .u64 5, .int .u64 1048576, .int .u64 1048577, .int .u64 281474976710656, .int .u64 18446744073709551615] 22))
    rw [World.size_alloc] at this; exact this
  · have := (((Blk.new ((w.alloc (.cells #[.int .u64 1, .int .u64 10, .int .u64 3] 24)).alloc (.cells #[.int .u64 1, .int .u64 10, .int .u64 3, .int .u64 65536, .int .u64 65536, .int .u64 1048576, .int .u64 65537, .int .u64 1, .int .u64 1, .int .u64 1, .int .u64 65537, .int .u64 1, .int .u64 1, .int .u64 1, .int .u64 1048577, .int .u64 1, .int .u64 1, .int .u64 0, .int .u64 1, .int .u64 0, .int .u64 1, .int .u64 0, .int .u64 1, .int .u64 1, .int .u64 65536, .int .u64 1, .int .u64 1, .int .u64 1, .int .u64 65536, .int .u64 1048576, .int .u64 3, .int .u64 7, .int .u64 5] 24)) 22 #[.int .u64 0, .int .u64 1, .int .u64 7, .int .u64 9, .int .u64 10, .int .u64 25, .int .u64 100, .int .u64 1099511627776, .int .u64 1099511627777, .int .u64 18446744073709551615]).alloc (.cells #[.int .u64 0, .int .u64 5, .int .u64 20, .int .u64 25, .int .u64 30, .int .u64 31, .int .u64 99, .int .u64 72057594037927936, .int .u64 72057662757404672, .int .u64 72057662757404673, .int .u64 18446744073709551615, .int .u64 18446744073709551608] 22)).alloc (.cells #[.int .u64 0, .int .u64 1, .int .u64 2, .int .u64 3, .int .u64 4, .int .u64 5, .int .u64 1048576, .int .u64 1048577, .int .u64 281474976710656, .int .u64 18446744073709551615] 22))
    rw [World.size_alloc, World.size_alloc] at this; exact this
  · have := ((Blk.new (((w.alloc (.cells #[.int .u64 1, .int .u64 10, .int .u64 3] 24)).alloc (.cells #[.int .u64 1, .int .u64 10, .int .u64 3, .int .u64 65536, .int .u64 65536, .int .u64 1048576, .int .u64 65537, .int .u64 1, .int .u64 1, .int .u64 1, .int .u64 65537, .int .u64 1, .int .u64 1, .int .u64 1, .int .u64 1048577, .int .u64 1, .int .u64 1, .int .u64 0, .int .u64 1, .int .u64 0, .int .u64 1, .int .u64 0, .int .u64 1, .int .u64 1, .int .u64 65536, .int .u64 1, .int .u64 1, .int .u64 1, .int .u64 65536, .int .u64 1048576, .int .u64 3, .int .u64 7, .int .u64 5] 24)).alloc (.cells #[.int .u64 0, .int .u64 1, .int .u64 7, .int .u64 9, .int .u64 10, .int .u64 25, .int .u64 100, .int .u64 1099511627776, .int .u64 1099511627777, .int .u64 18446744073709551615] 22)) 22 #[.int .u64 0, .int .u64 5, .int .u64 20, .int .u64 25, .int .u64 30, .int .u64 31, .int .u64 99, .int .u64 72057594037927936, .int .u64 72057662757404672, .int .u64 72057662757404673, .int .u64 18446744073709551615, .int .u64 18446744073709551608]).alloc (.cells #[.int .u64 0, .int .u64 1, .int .u64 2, .int .u64 3, .int .u64 4, .int .u64 5, .int .u64 1048576, .int .u64 1048577, .int .u64 281474976710656, .int .u64 18446744073709551615] 22))
    rw [World.size_alloc, World.size_alloc, World.size_alloc] at this; exact this
  · have := (Blk.new ((((w.alloc (.cells #[.int .u64 1, .int .u64 10, .int .u64 3] 24)).alloc (.cells #[.int .u64 1, .int .u64 10, .int .u64 3, .int .u64 65536, .int .u64 65536, .int .u64 1048576, .int .u64 65537, .int .u64 1, .int .u64 1, .int .u64 1, .int .u64 65537, .int .u64 1, .int .u64 1, .int .u64 1, .int .u64 1048577, .int .u64 1, .int .u64 1, .int .u64 0, .int .u64 1, .int .u64 0, .int .u64 1, .int .u64 0, .int .u64 1, .int .u64 1, .int .u64 65536, .int .u64 1, .int .u64 1, .int .u64 1, .int .u64 65536, .int .u64 1048576, .int .u64 3, .int .u64 7, .int .u64 5] 24)).alloc (.cells #[.int .u64 0, .int .u64 1, .int .u64 7, .int .u64 9, .int .u64 10, .int .u64 25, .int .u64 100, .int .u64 1099511627776, .int .u64 1099511627777, .int .u64 18446744073709551615] 22)).alloc (.cells #[.int .u64 0, .int .u64 5, .int .u64 20, .int .u64 25, .int .u64 30, .int .u64 31, .int .u64 99, .int .u64 72057594037927936, .int .u64 72057662757404672, .int .u64 72057662757404673, .int .u64 18446744073709551615, .int .u64 18446744073709551608] 22)) 22 #[.int .u64 0, .int .u64 1, .int .u64 2, .int .u64 3, .int .u64 4, .int .u64 5, .int .u64 1048576, .int .u64 1048577, .int .u64 281474976710656, .int .u64 18446744073709551615])
    rw [World.size_alloc, World.size_alloc, World.size_alloc, World.size_alloc] at this; exact this
set_option maxRecDepth 100000 in
set_option maxHeartbeats 16000000 in
theorem known_walk (w : World) : Calls Try.prog 9 #[] w fun e w' => e = .returned (.bool true) ∧ ∀ S, Keeps S w w' := by
  have HT := Lib.hid (fun (w : World) (n d b s t k : Nat) (hs : s < 18446744073709551616) (hk : k < 18446744073709551616) => tells_walk w n d b s t k hs hk)
  have HR := Lib.hid (fun (w : World) (n d b : Nat) (A : Option Addr) (m c : Nat) (l : List (Nat × Nat)) (ha : Asks w w.heap.size A l) (hl : l.length = m) (hmc : m ≤ c) (hm9 : c ≤ 1000000000000000) => runs_walk w n d b A m c l ha hl hmc hm9)
  unfold bv av at HT
  unfold bv at HR
  have HO := fun w => Lib.hid (works_said w)
  have LN := Lib.hid (lits_new w)
  have KN : Hid (∀ S, Keeps S w (((((w.alloc (.cells #[.int .u64 1, .int .u64 10, .int .u64 3] 24)).alloc (.cells #[.int .u64 1, .int .u64 10, .int .u64 3, .int .u64 65536, .int .u64 65536, .int .u64 1048576, .int .u64 65537, .int .u64 1, .int .u64 1, .int .u64 1, .int .u64 65537, .int .u64 1, .int .u64 1, .int .u64 1, .int .u64 1048577, .int .u64 1, .int .u64 1, .int .u64 0, .int .u64 1, .int .u64 0, .int .u64 1, .int .u64 0, .int .u64 1, .int .u64 1, .int .u64 65536, .int .u64 1, .int .u64 1, .int .u64 1, .int .u64 65536, .int .u64 1048576, .int .u64 3, .int .u64 7, .int .u64 5] 24)).alloc (.cells #[.int .u64 0, .int .u64 1, .int .u64 7, .int .u64 9, .int .u64 10, .int .u64 25, .int .u64 100, .int .u64 1099511627776, .int .u64 1099511627777, .int .u64 18446744073709551615] 22)).alloc (.cells #[.int .u64 0, .int .u64 5, .int .u64 20, .int .u64 25, .int .u64 30, .int .u64 31, .int .u64 99, .int .u64 72057594037927936, .int .u64 72057662757404672, .int .u64 72057662757404673, .int .u64 18446744073709551615, .int .u64 18446744073709551608] 22)).alloc (.cells #[.int .u64 0, .int .u64 1, .int .u64 2, .int .u64 3, .int .u64 4, .int .u64 5, .int .u64 1048576, .int .u64 1048577, .int .u64 281474976710656, .int .u64 18446744073709551615] 22))) := Lib.hid (fun S => (((((Keeps.refl S w).alloc _).alloc _).alloc _).alloc _).alloc _)
  go_enter Try.func9, Try.ntmps9
  go_wp2_with fail
  obtain ⟨w5, hw5⟩ : ∃ x, x = (((((w.alloc (.cells #[.int .u64 1, .int .u64 10, .int .u64 3] 24)).alloc (.cells #[.int .u64 1, .int .u64 10, .int .u64 3, .int .u64 65536, .int .u64 65536, .int .u64 1048576, .int .u64 65537, .int .u64 1, .int .u64 1, .int .u64 1, .int .u64 65537, .int .u64 1, .int .u64 1, .int .u64 1, .int .u64 1048577, .int .u64 1, .int .u64 1, .int .u64 0, .int .u64 1, .int .u64 0, .int .u64 1, .int .u64 0, .int .u64 1, .int .u64 1, .int .u64 65536, .int .u64 1, .int .u64 1, .int .u64 1, .int .u64 65536, .int .u64 1048576, .int .u64 3, .int .u64 7, .int .u64 5] 24)).alloc (.cells #[.int .u64 0, .int .u64 1, .int .u64 7, .int .u64 9, .int .u64 10, .int .u64 25, .int .u64 100, .int .u64 1099511627776, .int .u64 1099511627777, .int .u64 18446744073709551615] 22)).alloc (.cells #[.int .u64 0, .int .u64 5, .int .u64 20, .int .u64 25, .int .u64 30, .int .u64 31, .int .u64 99, .int .u64 72057594037927936, .int .u64 72057662757404672, .int .u64 72057662757404673, .int .u64 18446744073709551615, .int .u64 18446744073709551608] 22)).alloc (.cells #[.int .u64 0, .int .u64 1, .int .u64 2, .int .u64 3, .int .u64 4, .int .u64 5, .int .u64 1048576, .int .u64 1048577, .int .u64 281474976710656, .int .u64 18446744073709551615] 22)) := ⟨_, rfl⟩
  rw [← hw5] at LN KN ⊢
  obtain ⟨S4, h4⟩ : ∃ x, x = w.heap.size + 1 + 1 + 1 + 1 := ⟨_, rfl⟩
  rw [← h4] at LN ⊢
  obtain ⟨S3, h3⟩ : ∃ x, x = w.heap.size + 1 + 1 + 1 := ⟨_, rfl⟩
  rw [← h3] at LN ⊢
  obtain ⟨S2, h2⟩ : ∃ x, x = w.heap.size + 1 + 1 := ⟨_, rfl⟩
  rw [← h2] at LN ⊢
  obtain ⟨S1, h1⟩ : ∃ x, x = w.heap.size + 1 := ⟨_, rfl⟩
  rw [← h1] at LN ⊢
  clear hw5 h1 h2 h3 h4
  go_loopw [7] (fun iv wr => ∃ i : Nat, iv = .int .i64 (i : Int) ∧ i ≤ 11 ∧ ∀ S, Keeps S w5 wr) (fun iv _ => 12 - (intOf iv).toNat)
  case atStart => exact ⟨0, rfl, by omega, fun S => Keeps.refl S w5⟩
  case round =>
    obtain ⟨i, rfl, hi, hk⟩ := hrel
    have K1 : Hid (∀ S, Keeps S w5 wr) := Lib.hid hk
    have i0 : (0 : Int) ≤ (i : Int) := by omega
    rcases Nat.lt_or_ge i 11 with hlt | hlt
    · have hlt' : (i : Int) < 11 := by omega
      have HI := Lib.hid hlt
      clear hi hk hlt
      go_wp2_with fail
      go_loopw [8] (fun jv wr => ∃ j : Nat, jv = .int .i64 (j : Int) ∧ j ≤ 10 ∧ ∀ S, Keeps S w5 wr) (fun jv _ => 11 - (intOf jv).toNat)
      case atStart => exact ⟨0, rfl, by omega, K1.out⟩
      case round =>
        clear K1
        obtain ⟨j, rfl, hj, hk⟩ := hrel
        have K1 : Hid (∀ S, Keeps S w5 wr) := Lib.hid hk
        have j0 : (0 : Int) ≤ (j : Int) := by omega
        rcases Nat.lt_or_ge j 10 with hlj | hlj
        · have hlj' : (j : Int) < 10 := by omega
          have HJ := Lib.hid hlj
          clear hj hk hlj
          go_wp2_with fail
          go_loopw [9] (fun mv wr => ∃ m : Nat, mv = .int .i64 (m : Int) ∧ m ≤ 12 ∧ ∀ S, Keeps S w5 wr) (fun mv _ => 13 - (intOf mv).toNat)
          case atStart => exact ⟨0, rfl, by omega, K1.out⟩
          case round =>
            clear K1
            obtain ⟨m, rfl, hm, hk⟩ := hrel
            have K1 : Hid (∀ S, Keeps S w5 wr) := Lib.hid hk
            have m0 : (0 : Int) ≤ (m : Int) := by omega
            rcases Nat.lt_or_ge m 12 with hlm | hlm
            · have hlm' : (m : Int) < 12 := by omega
              have HM := Lib.hid hlm
              clear hm hk hlm
              go_wp2_with fail
              go_loopw [10] (fun nv wr => ∃ n : Nat, nv = .int .i64 (n : Int) ∧ n ≤ 10 ∧ ∀ S, Keeps S w5 wr) (fun nv _ => 11 - (intOf nv).toNat)
              case atStart => exact ⟨0, rfl, by omega, K1.out⟩
              case round =>
                clear K1
                obtain ⟨n, rfl, hn, hk⟩ := hrel
                have K1 : Hid (∀ S, Keeps S w5 wr) := Lib.hid hk
                have n0 : (0 : Int) ≤ (n : Int) := by omega
                rcases Nat.lt_or_ge n 10 with hln | hln
                · have hln' : (n : Int) < 10 := by omega
                  have HN := Lib.hid hln
                  have L := LN.out.keeps hk
                  obtain ⟨bn, bd, bb, x0, x1, x2⟩ := L.bucket i HI.out
                  obtain ⟨tv, ht, x3⟩ := lit_at L.tk (by decide) j (show j < tks.length from HJ.out)
                  obtain ⟨sv, hs, x4⟩ := lit_at L.st (by decide) m (show m < sts.length from HM.out)
                  obtain ⟨nv, hv, x5⟩ := lit_at L.nb (by decide) n (show n < nbs.length from hln)
                  have HC := fun W => Lib.hid (HT.out W bn bd bb sv tv nv hs hv)
                  clear hn hk hln L ht hs hv
                  go_wp2_with fail
                  go_region_held3 (fun w' => w'.cell? ⟨S1, i * 3, none⟩ = some (.int .u64 (bn : Int)) ∧ w'.cell? ⟨S1, i * 3 + 1, none⟩ = some (.int .u64 (bd : Int)) ∧ w'.cell? ⟨S1, i * 3 + 2, none⟩ = some (.int .u64 (bb : Int)) ∧ w'.cell? ⟨S2, j, none⟩ = some (.int .u64 (tv : Int)) ∧ w'.cell? ⟨S3, m, none⟩ = some (.int .u64 (sv : Int)) ∧ w'.cell? ⟨S4, n, none⟩ = some (.int .u64 (nv : Int)))
                    (first | exact ⟨x0, x1, x2, x3, x4, x5⟩ | exact ⟨z0, z1, z2, z3, z4, z5⟩)
                    ((first
                      | (go_at_call 3; refine (HC _).out.mono ?_; rintro e w3 ⟨rfl, k3⟩; have z0 := Keeps.cell (k3 (fun _ => False)) (show wr.drew.cell? _ = _ from x0) (fun z => z); have z1 := Keeps.cell (k3 (fun _ => False)) (show wr.drew.cell? _ = _ from x1) (fun z => z); have z2 := Keeps.cell (k3 (fun _ => False)) (show wr.drew.cell? _ = _ from x2) (fun z => z); have z3 := Keeps.cell (k3 (fun _ => False)) (show wr.drew.cell? _ = _ from x3) (fun z => z); have z4 := Keeps.cell (k3 (fun _ => False)) (show wr.drew.cell? _ = _ from x4) (fun z => z); have z5 := Keeps.cell (k3 (fun _ => False)) (show wr.drew.cell? _ = _ from x5) (fun z => z); have K3 : Hid (∀ S, Keeps S w5 w3) := Lib.hid (fun S => (K1.out S).drew.trans (k3 S)); clear k3)))
                  clear x0 x1 x2 x3 x4 x5 z0 z1 z2 z3 z4 z5 HC K1
                  go_wp2
                  go_roundw
                  case rel => exact ⟨n + 1, by first | rfl | go_num, HN.out, K3.out⟩
                  case measure => have := HN.out; simp only [intOf]; omega
                · have hln' : ¬ (n : Int) < 10 := by omega
                  clear hn hk hln
                  go_wp2
                  go_roundw
                  case rel => exact ⟨m + 1, by first | rfl | go_num, HM.out, K1.out⟩
                  case measure => have := HM.out; simp only [intOf]; omega
            · have hlm' : ¬ (m : Int) < 12 := by omega
              clear hm hk hlm
              go_wp2
              go_roundw
              case rel => exact ⟨j + 1, by first | rfl | go_num, HJ.out, K1.out⟩
              case measure => have := HJ.out; simp only [intOf]; omega
        · have hlj' : ¬ (j : Int) < 10 := by omega
          have L := LN.out.keeps hk
          obtain ⟨bn, bd, bb, x0, x1, x2⟩ := L.bucket i HI.out
          clear hj hk hlj L
          go_wp2_with fail
          refine (HR.out _ bn bd bb (some ⟨wr.heap.size, 0, none⟩) 7 7 [(0, 3), (0, 1), (10, 1), (5, 1), (20, 1), (20, 2), (0, 0)] (Asks.of_blk (l := [(0, 3), (0, 1), (10, 1), (5, 1), (20, 1), (20, 2), (0, 0)]) (Blk.new wr 50 #[.int .u64 0, .int .u64 3, .int .u64 0, .int .u64 1, .int .u64 10, .int .u64 1, .int .u64 5, .int .u64 1, .int .u64 20, .int .u64 1, .int .u64 20, .int .u64 2, .int .u64 0, .int .u64 0]) (by simp)) rfl (Nat.le_refl _) (by omega)).mono ?_
          rintro e v1 ⟨rfl, kv1⟩
          have kkv1 : ∀ S, Keeps S wr v1 := fun S => ((Keeps.refl S wr).alloc _).trans (kv1 S)
          have Kv1 : Hid (∀ S, Keeps S w5 v1) := Lib.hid (fun S => (K1.out S).trans (kkv1 S))
          have y0 := Keeps.cell (kkv1 (fun _ => False)) x0 (fun z => z)
          have y1 := Keeps.cell (kkv1 (fun _ => False)) x1 (fun z => z)
          have y2 := Keeps.cell (kkv1 (fun _ => False)) x2 (fun z => z)
          clear x0 x1 x2 kv1 kkv1
          have x0 := y0
          have x1 := y1
          have x2 := y2
          clear y0 y1 y2
          go_wp2_with fail
          refine (HR.out _ bn bd bb (some ⟨v1.heap.size, 0, none⟩) 3 3 [(20, 2), (0, 3), (10, 1)] (Asks.of_blk (l := [(20, 2), (0, 3), (10, 1)]) (Blk.new v1 50 #[.int .u64 20, .int .u64 2, .int .u64 0, .int .u64 3, .int .u64 10, .int .u64 1]) (by simp)) rfl (Nat.le_refl _) (by omega)).mono ?_
          rintro e v2 ⟨rfl, kv2⟩
          have kkv2 : ∀ S, Keeps S v1 v2 := fun S => ((Keeps.refl S v1).alloc _).trans (kv2 S)
          have Kv2 : Hid (∀ S, Keeps S w5 v2) := Lib.hid (fun S => (Kv1.out S).trans (kkv2 S))
          have y0 := Keeps.cell (kkv2 (fun _ => False)) x0 (fun z => z)
          have y1 := Keeps.cell (kkv2 (fun _ => False)) x1 (fun z => z)
          have y2 := Keeps.cell (kkv2 (fun _ => False)) x2 (fun z => z)
          clear x0 x1 x2 kv2 kkv2
          have x0 := y0
          have x1 := y1
          have x2 := y2
          clear y0 y1 y2
          go_wp2_with fail
          refine (HR.out _ bn bd bb (some ⟨v2.heap.size, 0, none⟩) 2 2 [(1099511627776, 18446744073709551615), (0, 18446744073709551615)] (Asks.of_blk (l := [(1099511627776, 18446744073709551615), (0, 18446744073709551615)]) (Blk.new v2 50 #[.int .u64 1099511627776, .int .u64 18446744073709551615, .int .u64 0, .int .u64 18446744073709551615]) (by simp)) rfl (Nat.le_refl _) (by omega)).mono ?_
          rintro e v3 ⟨rfl, kv3⟩
          have kkv3 : ∀ S, Keeps S v2 v3 := fun S => ((Keeps.refl S v2).alloc _).trans (kv3 S)
          have Kv3 : Hid (∀ S, Keeps S w5 v3) := Lib.hid (fun S => (Kv2.out S).trans (kkv3 S))
          have y0 := Keeps.cell (kkv3 (fun _ => False)) x0 (fun z => z)
          have y1 := Keeps.cell (kkv3 (fun _ => False)) x1 (fun z => z)
          have y2 := Keeps.cell (kkv3 (fun _ => False)) x2 (fun z => z)
          clear x0 x1 x2 kv3 kkv3
          have x0 := y0
          have x1 := y1
          have x2 := y2
          clear y0 y1 y2
          go_wp2_with fail
          refine (HR.out _ bn bd bb (some ⟨v3.heap.size, 0, none⟩) 1 1 [(1099511627777, 0)] (Asks.of_blk (l := [(1099511627777, 0)]) (Blk.new v3 50 #[.int .u64 1099511627777, .int .u64 0]) (by simp)) rfl (Nat.le_refl _) (by omega)).mono ?_
          rintro e v4 ⟨rfl, kv4⟩
          have kkv4 : ∀ S, Keeps S v3 v4 := fun S => ((Keeps.refl S v3).alloc _).trans (kv4 S)
          have Kv4 : Hid (∀ S, Keeps S w5 v4) := Lib.hid (fun S => (Kv3.out S).trans (kkv4 S))
          have y0 := Keeps.cell (kkv4 (fun _ => False)) x0 (fun z => z)
          have y1 := Keeps.cell (kkv4 (fun _ => False)) x1 (fun z => z)
          have y2 := Keeps.cell (kkv4 (fun _ => False)) x2 (fun z => z)
          clear x0 x1 x2 kv4 kkv4
          have x0 := y0
          have x1 := y1
          have x2 := y2
          clear y0 y1 y2
          go_wp2_with fail
          refine (HR.out _ bn bd bb none 0 0 [] ⟨fun i v h => by simp [askc] at h, fun p h => by simp at h⟩ rfl (Nat.le_refl _) (by omega)).mono ?_
          rintro e v9 ⟨rfl, kv9⟩
          have K9 : Hid (∀ S, Keeps S w5 v9) := Lib.hid (fun S => (Kv4.out S).trans (kv9 S))
          clear x0 x1 x2 kv9
          go_wp2
          go_roundw
          case rel => exact ⟨i + 1, by first | rfl | go_num, HI.out, K9.out⟩
          case measure => have := HI.out; simp only [intOf]; omega
    · have hlt' : ¬ (i : Int) < 11 := by omega
      have L := LN.out.keeps hk
      obtain ⟨Z1, hZ1⟩ : ∃ Z : World → World, ∀ W, Z W = W.alloc (.cells (madeCells #[.int .u64 0, .int .u64 0] (4097 * 2)) 50) := ⟨_, fun _ => rfl⟩
      obtain ⟨Z2, hZ2⟩ : ∃ Z : World → World, ∀ W, Z W = W.alloc (.cells (madeCells #[.int .u64 0, .int .u64 0] (4096 * 2)) 50) := ⟨_, fun _ => rfl⟩
      have hmk1 : ∀ W, (Instr.makeSlice 36 (.int .i64 4097) (.int .i64 4097)).run Try.prog W = .ok (.slice (some ⟨W.heap.size, 0, none⟩) 4097 4097) (Z1 W) := fun W => by rw [hZ1]; exact make_pairs 4097 W (by omega)
      have hmk2 : ∀ W, (Instr.makeSlice 36 (.int .i64 4096) (.int .i64 4096)).run Try.prog W = .ok (.slice (some ⟨W.heap.size, 0, none⟩) 4096 4096) (Z2 W) := fun W => by rw [hZ2]; exact make_pairs 4096 W (by omega)
      have hk1 : ∀ W S, Keeps S W (Z1 W) := fun W S => by rw [hZ1]; exact (Keeps.refl S W).alloc _
      have hk2 : ∀ W S, Keeps S W (Z2 W) := fun W S => by rw [hZ2]; exact (Keeps.refl S W).alloc _
      have hf1 : ∀ (W : World) (A : Option Addr), Calls Try.prog 26 #[.agg #[.int .u64 1, .int .u64 10, .int .u64 3], .slice A 4097 4097] W fun e w' => e = .returned (.tuple #[.int .i64 0, .int .i64 4]) ∧ ∀ S, Keeps S W w' := fun W A => fits_long' W 1 10 3 A 4097 4097 may_works (by omega)
      have hf2 : ∀ (W : World), Calls Try.prog 26 #[.agg #[.int .u64 1, .int .u64 10, .int .u64 3], .slice (some ⟨W.heap.size, 0, none⟩) 4096 4096] (Z2 W) fun e w' => e = .returned (.tuple #[.int .i64 4096, .int .i64 0]) ∧ ∀ S, Keeps S (Z2 W) w' := fun W => by
        have hb := Blk.new W 50 (madeCells #[.int .u64 0, .int .u64 0] (4096 * 2))
        rw [made_zeros, ← hZ2] at hb
        refine (fits_ok (Z2 W) 1 10 3 (some ⟨W.heap.size, 0, none⟩) 4096 4096 (zeros 4096) may_works (Asks.of_blk hb (fun p hp => by rw [List.eq_of_mem_replicate hp]; decide)) (by simp [zeros]) (by omega) (fun p hp => by rw [List.eq_of_mem_replicate hp]; decide)).mono ?_
        rintro r w' ⟨k, rfl, hk, kk⟩
        exact ⟨by rw [hk.one (fits_zeros 1 10 3 4096)]; rfl, kk⟩
      have hf3 : ∀ (W : World) (A : Option Addr), Calls Try.prog 26 #[.agg #[.int .u64 0, .int .u64 0, .int .u64 0], .slice A 4097 4097] W fun e w' => e = .returned (.tuple #[.int .i64 0, .int .i64 2]) ∧ ∀ S, Keeps S W w' := fun W A => fits_no' W 0 0 0 A 4097 4097 (by unfold May; omega)
      have HF1 := fun W A => Lib.hid (hf1 W A)
      have HF2 := fun W => Lib.hid (hf2 W)
      have HF3 := fun W A => Lib.hid (hf3 W A)
      have HK1 := Lib.hid hk1
      have HK2 := Lib.hid hk2
      have K1' : Hid (∀ S, Keeps S w wr) := Lib.hid (fun S => (KN.out S).trans (K1.out S))
      have x0 : wr.cell? ⟨w.heap.size, 0, none⟩ = some (.int .u64 1) := by rw [L.good.cell]; rfl
      have x1 : wr.cell? ⟨w.heap.size, 1, none⟩ = some (.int .u64 10) := by rw [L.good.cell]; rfl
      have x2 : wr.cell? ⟨w.heap.size, 2, none⟩ = some (.int .u64 3) := by rw [L.good.cell]; rfl
      have cz1 : ∀ (W : World) (b i : Nat) (v : Value), W.cell? ⟨b, i, none⟩ = some v → (Z1 W).cell? ⟨b, i, none⟩ = some v := fun W b i v h => Keeps.cell (hk1 W (fun _ => False)) h (fun z => z)
      have cz2 : ∀ (W : World) (b i : Nat) (v : Value), W.cell? ⟨b, i, none⟩ = some v → (Z2 W).cell? ⟨b, i, none⟩ = some v := fun W b i v h => Keeps.cell (hk2 W (fun _ => False)) h (fun z => z)
      have CZ1 := Lib.hid cz1
      have CZ2 := Lib.hid cz2
      clear hi hk hlt L hZ1 hZ2 hk1 hk2 hf1 hf2 hf3 cz1 cz2 HT HR
      go_wp2_with fail
      have KZ1 := Lib.hid (fun S => (Keeps.refl S wr).drew.trans (HK1.out wr.drew S))
      go_region_held3 (fun w' => w'.cell? ⟨w.heap.size, 0, none⟩ = some (.int .u64 1) ∧ w'.cell? ⟨w.heap.size, 1, none⟩ = some (.int .u64 10) ∧ w'.cell? ⟨w.heap.size, 2, none⟩ = some (.int .u64 3))
        (first | exact ⟨x0, x1, x2⟩ | exact ⟨y0, y1, y2⟩ | exact ⟨CZ1.out _ _ _ _ x0, CZ1.out _ _ _ _ x1, CZ1.out _ _ _ _ x2⟩)
        ((first
          | (go_at_call 26; refine (HF1 _ _).out.mono ?_; rintro e wa ⟨rfl, ka⟩; have y0 := Keeps.cell ((KZ1.out (fun _ => False)).trans (ka _)) x0 (fun z => z); have y1 := Keeps.cell ((KZ1.out (fun _ => False)).trans (ka _)) x1 (fun z => z); have y2 := Keeps.cell ((KZ1.out (fun _ => False)).trans (ka _)) x2 (fun z => z); have KA : Hid (∀ S, Keeps S w wa) := Lib.hid (fun S => (K1'.out S).trans ((KZ1.out S).trans (ka S))); clear ka)))
      clear x0 x1 x2 K1' KZ1
      go_wp2_with fail
      have KZ2 := Lib.hid (fun S => (Keeps.refl S wa).drew.trans (HK2.out wa.drew S))
      go_region_held3 (fun w' => w'.cell? ⟨w.heap.size, 0, none⟩ = some (.int .u64 1) ∧ w'.cell? ⟨w.heap.size, 1, none⟩ = some (.int .u64 10) ∧ w'.cell? ⟨w.heap.size, 2, none⟩ = some (.int .u64 3))
        (first | exact ⟨y0, y1, y2⟩ | exact ⟨z0, z1, z2⟩ | exact ⟨CZ2.out _ _ _ _ y0, CZ2.out _ _ _ _ y1, CZ2.out _ _ _ _ y2⟩)
        ((first
          | (go_at_call 26; refine (HF2 _).out.mono ?_; rintro e wb ⟨rfl, kb⟩; have z0 := Keeps.cell ((KZ2.out (fun _ => False)).trans (kb _)) y0 (fun z => z); have z1 := Keeps.cell ((KZ2.out (fun _ => False)).trans (kb _)) y1 (fun z => z); have z2 := Keeps.cell ((KZ2.out (fun _ => False)).trans (kb _)) y2 (fun z => z); have KB : Hid (∀ S, Keeps S w wb) := Lib.hid (fun S => (KA.out S).trans ((KZ2.out S).trans (kb S))); clear kb)))
      clear y0 y1 y2 z0 z1 z2 KA KZ2
      go_wp2_with fail
      refine (HF3 _ _).out.mono ?_
      rintro e wc ⟨rfl, kc⟩
      have KC : Hid (∀ S, Keeps S w wc) := Lib.hid (fun S => ((KB.out S).trans (HK1.out _ S)).trans (kc S))
      clear kc KB
      go_wp2_with fail
      refine (HO _).out.mono ?_
      rintro e wd ⟨rfl, kd⟩
      have KD : Hid (∀ S, Keeps S w wd) := Lib.hid (fun S => (KC.out S).trans (kd S))
      clear kd KC
      go_wp2
      try rw [Exit.noGoto_ret]
      go_ret
      exact ⟨rfl, KD.out⟩
end Go.Proofs.Ytbiadglhfpapaaa.bp
