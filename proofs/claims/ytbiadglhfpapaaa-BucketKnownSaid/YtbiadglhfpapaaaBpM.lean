/-
  bucket: Most, Level, When.
-/
import Derived.Test.YtbiadglhfpapaaaBpT
set_option linter.unusedVariables false
namespace Go.Proofs.Ytbiadglhfpapaaa.bp
open Go.RowKit Go.Proofs.Ytbiadglhfpapaaa.oc Go.Proofs.Ytbiadglhfpapaaa.mz Go.Proofs.Ytbiadglhfpapaaa.bk
section
variable (w : World) (n d b : Nat)
set_option maxRecDepth 100000 in
set_option maxHeartbeats 1000000 in
theorem most_err (now : Nat) (he : ¬ err n d b now = 0) : Calls Try.prog 18 #[bv n d b, .int .u64 (now : Int)] w fun e w' => e = .returned (.tuple #[.int .u64 0, .int .i64 (err n d b now)]) ∧ ∀ S, Keeps S w w' := by
  have HW := fun w => Lib.hid (wrong_ w n d b now)
  unfold bv at HW ⊢
  generalize err n d b now = er at *
  have q1 : (er == 0) = false := by simp; omega
  have q2 : (er != 0) = true := by simp; omega
  go_enter Try.func18, Try.ntmps18
  go_wp2_with fail
  refine (HW _).out.mono ?_
  rintro e w1 ⟨rfl, k1⟩
  have K1 : Hid (∀ S, Keeps S w w1) := Lib.hid (fun S => ((Keeps.refl S w).alloc _).trans (k1 S))
  clear k1
  go_wp2
  try rw [Exit.noGoto_ret]
  go_ret2
  exact ⟨rfl, K1.out⟩
set_option maxRecDepth 100000 in
set_option maxHeartbeats 1000000 in
theorem most_ok (now : Nat) (he : err n d b now = 0) : Calls Try.prog 18 #[bv n d b, .int .u64 (now : Int)] w fun e w' => e = .returned (.tuple #[.int .u64 ((b + now * n / d : Nat) : Int), .int .i64 0]) ∧ ∀ S, Keeps S w w' := by
  have HW := fun w => Lib.hid (wrong_ w n d b now)
  rw [he] at HW
  obtain ⟨⟨⟨n0, n1⟩, ⟨d0, d1⟩, b0, b1⟩, hnow⟩ := err_ok he
  have hp : now * n ≤ 1099511627776 * 65536 := Nat.mul_le_mul hnow n1
  have hq : now * n / d ≤ now * n := Nat.div_le_self _ _
  have HE := Lib.hid (show IntKind.u64.wrap ((b : Int) + IntKind.u64.wrap ((IntKind.u64.wrap ((now : Int) * (n : Int))).tdiv (d : Int))) = ((b + now * n / d : Nat) : Int) by
    rw [wrap_u64, wrap_u64, wrap_u64, show ((now : Int) * (n : Int)) % 18446744073709551616 = ((now * n : Nat) : Int) by rw [← Int.natCast_mul]; omega, Int.tdiv_eq_ediv_of_nonneg (Int.natCast_nonneg _), ← Int.natCast_ediv]
    clear HW
    generalize now * n / d = z at *
    omega)
  have hd1 : ¬ (d : Int) = 0 := by omega
  have hd2 : ((d : Int) == 0) = false := by simp; omega
  have hd3 : ¬ d = 0 := by omega
  unfold bv at HW ⊢
  clear he n0 n1 d0 d1 b0 b1 hp hq hnow
  go_enter Try.func18, Try.ntmps18
  go_wp2_with fail
  have B0 := Blk.new w 24 #[.int .u64 (n : Int), .int .u64 (d : Int), .int .u64 (b : Int)]
  refine (HW _).out.mono ?_
  rintro e w1 ⟨rfl, k1⟩
  have K1 : Hid (∀ S, Keeps S w w1) := Lib.hid (fun S => ((Keeps.refl S w).alloc _).trans (k1 S))
  have B1 := Blk.keeps B0 (k1 (fun _ => False)) (fun z => z)
  have x0 : w1.cell? ⟨w.heap.size, 0, none⟩ = some (.int .u64 (n : Int)) := by rw [B1.cell]; rfl
  have x1 : w1.cell? ⟨w.heap.size, 1, none⟩ = some (.int .u64 (d : Int)) := by rw [B1.cell]; rfl
  have x2 : w1.cell? ⟨w.heap.size, 2, none⟩ = some (.int .u64 (b : Int)) := by rw [B1.cell]; rfl
  clear k1 B0 B1
  go_wp2_with fail
  go_region_held3 (fun w' => w'.cell? ⟨w.heap.size, 0, none⟩ = some (.int .u64 (n : Int)) ∧ w'.cell? ⟨w.heap.size, 1, none⟩ = some (.int .u64 (d : Int)) ∧ w'.cell? ⟨w.heap.size, 2, none⟩ = some (.int .u64 (b : Int))) (first | exact ⟨x0, x1, x2⟩) ((first | fail))
  go_wp2
  try rw [Exit.noGoto_ret]
  rw [HE.out]
  go_ret2
  exact ⟨rfl, fun S => (K1.out S).drew⟩
set_option maxRecDepth 100000 in
set_option maxHeartbeats 1000000 in
theorem level_err (s now : Nat) (he : ¬ err n d b now = 0) : Calls Try.prog 14 #[bv n d b, .int .u64 (s : Int), .int .u64 (now : Int)] w fun e w' => e = .returned (.tuple #[.int .u64 0, .int .i64 (err n d b now)]) ∧ ∀ S, Keeps S w w' := by
  have HW := fun w => Lib.hid (wrong_ w n d b now)
  unfold bv at HW ⊢
  generalize err n d b now = er at *
  have q1 : (er == 0) = false := by simp; omega
  have q2 : (er != 0) = true := by simp; omega
  go_enter Try.func14, Try.ntmps14
  go_wp2_with fail
  refine (HW _).out.mono ?_
  rintro e w1 ⟨rfl, k1⟩
  have K1 : Hid (∀ S, Keeps S w w1) := Lib.hid (fun S => ((Keeps.refl S w).alloc _).trans (k1 S))
  clear k1
  go_wp2
  try rw [Exit.noGoto_ret]
  go_ret2
  exact ⟨rfl, K1.out⟩
set_option maxRecDepth 100000 in
set_option maxHeartbeats 4000000 in
theorem level_ok (s now : Nat) (he : err n d b now = 0) (hs : s < 18446744073709551616) : Calls Try.prog 14 #[bv n d b, .int .u64 (s : Int), .int .u64 (now : Int)] w fun e w' => e = .returned (.tuple #[.int .u64 ((level n d b s now : Nat) : Int), .int .i64 0]) ∧ ∀ S, Keeps S w w' := by
  have HW := fun w => Lib.hid (wrong_ w n d b now)
  rw [he] at HW
  obtain ⟨⟨⟨n0, n1⟩, ⟨d0, d1⟩, b0, b1⟩, hnow⟩ := err_ok he
  have hp : now * n ≤ 1099511627776 * 65536 := Nat.mul_le_mul hnow n1
  have hbd : b * d ≤ 1048576 * 65536 := Nat.mul_le_mul b1 d1
  obtain ⟨i, hi⟩ : ∃ x, x = now * n := ⟨_, rfl⟩
  obtain ⟨f, hf⟩ : ∃ x, x = b * d := ⟨_, rfl⟩
  have e1 : IntKind.u64.wrap ((now : Int) * (n : Int)) = (i : Int) := by rw [mul_, wrap_ _ (by omega), hi]
  have e2 : IntKind.u64.wrap ((b : Int) * (d : Int)) = (f : Int) := by rw [mul_, wrap_ _ (by omega), hf]
  obtain ⟨ah, hah⟩ : ∃ x, x = s - i := ⟨_, rfl⟩
  obtain ⟨v, hv⟩ : ∃ x, x = f - ah := ⟨_, rfl⟩
  obtain ⟨q, hq⟩ : ∃ x, x = v / d := ⟨_, rfl⟩
  have hl : level n d b s now = q := by
    unfold level
    rw [aOf_eq, ← hi, ← hf, hq, hv, hah]
  rw [hl]
  have hvq : v / d ≤ v := Nat.div_le_self _ _
  have e5 : IntKind.u64.wrap ((v : Int).tdiv (d : Int)) = (q : Int) := by
    rw [Int.tdiv_eq_ediv_of_nonneg (Int.natCast_nonneg _), ← Int.natCast_ediv, wrap_ _ (by omega), hq]
  have e6 : IntKind.u64.wrap (v : Int) = (v : Int) := wrap_ _ (by omega)
  have hd1 : ¬ (d : Int) = 0 := by omega
  have hd2 : ((d : Int) == 0) = false := by simp; omega
  have hd3 : ¬ d = 0 := by omega
  have HMX := Lib.hid (show (s < i ∧ f = v) ∨ (¬ s < i ∧ f < ah ∧ v = 0) ∨ (¬ s < i ∧ ¬ f < ah ∧ IntKind.u64.wrap ((s : Int) - (i : Int)) = (ah : Int) ∧ IntKind.u64.wrap ((f : Int) - (ah : Int)) = (v : Int)) from by
    rw [IntKind.wrap_u64, IntKind.wrap_u64]; clear e5; omega)
  have HA := Lib.hid (show ¬ s < i → IntKind.u64.wrap ((s : Int) - (i : Int)) = (ah : Int) from fun h => by rw [IntKind.wrap_u64]; clear e5; omega)
  have hq0 : v = 0 → q = 0 := fun h => by rw [hq, h, Nat.zero_div]
  have HQ0 := Lib.hid hq0
  have e5' : IntKind.u64.wrap ((v : Int) / (d : Int)) = (q : Int) := by rw [← Int.natCast_ediv, wrap_ _ (by omega), hq]
  have E5 := Lib.hid (And.intro e5 (And.intro e6 e5'))
  unfold bv at HW ⊢
  clear he n0 n1 d0 d1 b0 b1 hp hbd hnow hi hf hah hv hq hvq hl hs e5 e6 hq0 e5'
  rcases HMX.out with ⟨hc, hfv⟩ | ⟨hc, hg, hv⟩ | ⟨hc, hg, e3, e4⟩
  · have qc : (s : Int) < (i : Int) := by omega
    rw [hfv] at e2
    clear hc HMX HA hfv
    go_enter Try.func14, Try.ntmps14
    go_wp2_with fail
    have B0 := Blk.new w 24 #[.int .u64 (n : Int), .int .u64 (d : Int), .int .u64 (b : Int)]
    refine (HW _).out.mono ?_
    rintro e w1 ⟨rfl, k1⟩
    have K1 : Hid (∀ S, Keeps S w w1) := Lib.hid (fun S => ((Keeps.refl S w).alloc _).trans (k1 S))
    have B1 := Blk.keeps B0 (k1 (fun _ => False)) (fun z => z)
    have x0 : w1.cell? ⟨w.heap.size, 0, none⟩ = some (.int .u64 (n : Int)) := by rw [B1.cell]; rfl
    have x1 : w1.cell? ⟨w.heap.size, 1, none⟩ = some (.int .u64 (d : Int)) := by rw [B1.cell]; rfl
    have x2 : w1.cell? ⟨w.heap.size, 2, none⟩ = some (.int .u64 (b : Int)) := by rw [B1.cell]; rfl
    clear k1 B0 B1
    go_wp2_with fail
    go_region_held3 (fun w' => w'.cell? ⟨w.heap.size, 0, none⟩ = some (.int .u64 (n : Int)) ∧ w'.cell? ⟨w.heap.size, 1, none⟩ = some (.int .u64 (d : Int)) ∧ w'.cell? ⟨w.heap.size, 2, none⟩ = some (.int .u64 (b : Int))) (first | exact ⟨x0, x1, x2⟩) ((first | fail))
    have K2 : Hid (∀ S, Keeps S w w1.drew) := Lib.hid (fun S => (K1.out S).drew)
    have y0 : w1.drew.cell? ⟨w.heap.size, 0, none⟩ = some (.int .u64 (n : Int)) := x0
    have y1 : w1.drew.cell? ⟨w.heap.size, 1, none⟩ = some (.int .u64 (d : Int)) := x1
    have y2 : w1.drew.cell? ⟨w.heap.size, 2, none⟩ = some (.int .u64 (b : Int)) := x2
    clear x0 x1 x2 K1
    generalize w1.drew = w2 at *
    go_wp2
    try rw [Exit.noGoto_ret]
    go_ret2
    exact ⟨by first | (rw [E5.out.2.1, E5.out.1]; rfl) | (rw [E5.out.2.1, E5.out.2.2]; rfl) | (rw [E5.out.1]; rfl) | (rw [E5.out.2.2]; rfl), K2.out⟩
  · have qc : ¬ (s : Int) < (i : Int) := by omega
    have e3 := HA.out hc
    have qg : (f : Int) < (ah : Int) := by omega
    have hz := HQ0.out hv
    rw [hz]
    clear hc hg hv HMX HA hz HQ0 E5
    go_enter Try.func14, Try.ntmps14
    go_wp2_with fail
    have B0 := Blk.new w 24 #[.int .u64 (n : Int), .int .u64 (d : Int), .int .u64 (b : Int)]
    refine (HW _).out.mono ?_
    rintro e w1 ⟨rfl, k1⟩
    have K1 : Hid (∀ S, Keeps S w w1) := Lib.hid (fun S => ((Keeps.refl S w).alloc _).trans (k1 S))
    have B1 := Blk.keeps B0 (k1 (fun _ => False)) (fun z => z)
    have x0 : w1.cell? ⟨w.heap.size, 0, none⟩ = some (.int .u64 (n : Int)) := by rw [B1.cell]; rfl
    have x1 : w1.cell? ⟨w.heap.size, 1, none⟩ = some (.int .u64 (d : Int)) := by rw [B1.cell]; rfl
    have x2 : w1.cell? ⟨w.heap.size, 2, none⟩ = some (.int .u64 (b : Int)) := by rw [B1.cell]; rfl
    clear k1 B0 B1
    go_wp2_with fail
    go_region_held3 (fun w' => w'.cell? ⟨w.heap.size, 0, none⟩ = some (.int .u64 (n : Int)) ∧ w'.cell? ⟨w.heap.size, 1, none⟩ = some (.int .u64 (d : Int)) ∧ w'.cell? ⟨w.heap.size, 2, none⟩ = some (.int .u64 (b : Int))) (first | exact ⟨x0, x1, x2⟩) ((first | fail))
    have K2 : Hid (∀ S, Keeps S w w1.drew) := Lib.hid (fun S => (K1.out S).drew)
    have y0 : w1.drew.cell? ⟨w.heap.size, 0, none⟩ = some (.int .u64 (n : Int)) := x0
    have y1 : w1.drew.cell? ⟨w.heap.size, 1, none⟩ = some (.int .u64 (d : Int)) := x1
    have y2 : w1.drew.cell? ⟨w.heap.size, 2, none⟩ = some (.int .u64 (b : Int)) := x2
    clear x0 x1 x2 K1
    generalize w1.drew = w2 at *
    go_wp2
    try rw [Exit.noGoto_ret]
    go_ret2
    exact ⟨by first | rfl | simp, K2.out⟩
  · have qc : ¬ (s : Int) < (i : Int) := by omega
    have qg : ¬ (f : Int) < (ah : Int) := by omega
    clear hc hg HMX HA HQ0
    go_enter Try.func14, Try.ntmps14
    go_wp2_with fail
    have B0 := Blk.new w 24 #[.int .u64 (n : Int), .int .u64 (d : Int), .int .u64 (b : Int)]
    refine (HW _).out.mono ?_
    rintro e w1 ⟨rfl, k1⟩
    have K1 : Hid (∀ S, Keeps S w w1) := Lib.hid (fun S => ((Keeps.refl S w).alloc _).trans (k1 S))
    have B1 := Blk.keeps B0 (k1 (fun _ => False)) (fun z => z)
    have x0 : w1.cell? ⟨w.heap.size, 0, none⟩ = some (.int .u64 (n : Int)) := by rw [B1.cell]; rfl
    have x1 : w1.cell? ⟨w.heap.size, 1, none⟩ = some (.int .u64 (d : Int)) := by rw [B1.cell]; rfl
    have x2 : w1.cell? ⟨w.heap.size, 2, none⟩ = some (.int .u64 (b : Int)) := by rw [B1.cell]; rfl
    clear k1 B0 B1
    go_wp2_with fail
    go_region_held3 (fun w' => w'.cell? ⟨w.heap.size, 0, none⟩ = some (.int .u64 (n : Int)) ∧ w'.cell? ⟨w.heap.size, 1, none⟩ = some (.int .u64 (d : Int)) ∧ w'.cell? ⟨w.heap.size, 2, none⟩ = some (.int .u64 (b : Int))) (first | exact ⟨x0, x1, x2⟩) ((first | fail))
    have K2 : Hid (∀ S, Keeps S w w1.drew) := Lib.hid (fun S => (K1.out S).drew)
    have y0 : w1.drew.cell? ⟨w.heap.size, 0, none⟩ = some (.int .u64 (n : Int)) := x0
    have y1 : w1.drew.cell? ⟨w.heap.size, 1, none⟩ = some (.int .u64 (d : Int)) := x1
    have y2 : w1.drew.cell? ⟨w.heap.size, 2, none⟩ = some (.int .u64 (b : Int)) := x2
    clear x0 x1 x2 K1
    generalize w1.drew = w2 at *
    go_wp2
    try rw [Exit.noGoto_ret]
    go_ret2
    exact ⟨by first | (rw [E5.out.1]; rfl) | (rw [E5.out.2.2]; rfl), K2.out⟩
end
/-- the tick at which so much has flowed in -/
def ceil (x n : Nat) : Nat := x / n + (if x % n = 0 then 0 else 1)
theorem ceil_le {x n t : Nat} (hn : 0 < n) : ceil x n ≤ t ↔ x ≤ t * n := by
  unfold ceil
  have h1 := Nat.div_add_mod x n
  have h2 := Nat.mod_lt x hn
  rw [Nat.mul_comm] at h1
  constructor
  · intro h
    have h3 : x / n * n ≤ x := Nat.div_mul_le_self _ _
    split at h
    · have := Nat.mul_le_mul (show x / n ≤ t by omega) (Nat.le_refl n); omega
    · have := Nat.mul_le_mul (show x / n + 1 ≤ t by omega) (Nat.le_refl n)
      rw [Nat.succ_mul] at this; omega
  · intro h
    split
    · rw [Nat.add_zero]; exact (Nat.div_le_iff_le_mul hn).2 (by omega)
    · rename_i hz
      have : x / n < t := by
        rw [Nat.div_lt_iff_lt_mul hn]
        rcases Nat.lt_or_ge x (t * n) with q | q
        · exact q
        · exfalso
          have e : x = t * n := by omega
          rw [e, Nat.mul_mod_left] at hz
          exact hz rfl
      omega
/-- let through, by what must have flowed in -/
theorem lets_ceil {n d b s t k : Nat} (hn : 0 < n) (hk : k ≤ b) : lets n d b s t k = true ↔ ceil (s - (b - k) * d) n ≤ t := by
  rw [ceil_le hn]
  unfold lets
  rw [aOf_eq, decide_eq_true_eq, Nat.sub_mul]
  have : k * d ≤ b * d := Nat.mul_le_mul hk (Nat.le_refl d)
  omega
theorem lets_over {n d b s t k : Nat} (hd : 0 < d) (hk : b < k) : lets n d b s t k = false := by
  unfold lets
  rw [decide_eq_false_iff_not]
  have : (b + 1) * d ≤ k * d := Nat.mul_le_mul hk (Nat.le_refl d)
  rw [Nat.succ_mul] at this
  omega
/-- what When answers -/
def WhenAns (n d b s now k : Nat) (w : World) (e : Ending) (w' : World) : Prop := (∀ S, Keeps S w w') ∧ ((lets n d b s 1099511627776 k = false ∧ e = .returned (.tuple #[.int .u64 0, .bool false, .int .i64 0])) ∨ ∃ low : Nat, IsWhen n d b s now k low ∧ e = .returned (.tuple #[.int .u64 (low : Int), .bool true, .int .i64 0]))
section
variable (w : World) (n d b : Nat)
set_option maxRecDepth 100000 in
set_option maxHeartbeats 1000000 in
theorem when_err (s now k : Nat) (he : ¬ err n d b now = 0) : Calls Try.prog 16 #[bv n d b, .int .u64 (s : Int), .int .u64 (now : Int), .int .u64 (k : Int)] w fun e w' => e = .returned (.tuple #[.int .u64 0, .bool false, .int .i64 (err n d b now)]) ∧ ∀ S, Keeps S w w' := by
  have HW := fun w => Lib.hid (wrong_ w n d b now)
  unfold bv at HW ⊢
  generalize err n d b now = er at *
  have q1 : (er == 0) = false := by simp; omega
  have q2 : (er != 0) = true := by simp; omega
  go_enter Try.func16, Try.ntmps16
  go_wp2_with fail
  refine (HW _).out.mono ?_
  rintro e w1 ⟨rfl, k1⟩
  have K1 : Hid (∀ S, Keeps S w w1) := Lib.hid (fun S => ((Keeps.refl S w).alloc _).trans (k1 S))
  clear k1
  go_wp2
  try rw [Exit.noGoto_ret]
  go_ret3
  exact ⟨rfl, K1.out⟩
set_option maxRecDepth 100000 in
set_option maxHeartbeats 1000000 in
theorem when_over (s now k : Nat) (he : err n d b now = 0) (hk : b < k) : Calls Try.prog 16 #[bv n d b, .int .u64 (s : Int), .int .u64 (now : Int), .int .u64 (k : Int)] w (WhenAns n d b s now k w) := by
  have HW := fun w => Lib.hid (wrong_ w n d b now)
  rw [he] at HW
  have HL := Lib.hid (lets_over (n := n) (s := s) (t := 1099511627776) (err_ok he).1.2.1.1 hk)
  have qk : (b : Int) < (k : Int) := by omega
  unfold bv at HW ⊢
  clear he hk
  go_enter Try.func16, Try.ntmps16
  go_wp2_with fail
  have B0 := Blk.new w 24 #[.int .u64 (n : Int), .int .u64 (d : Int), .int .u64 (b : Int)]
  refine (HW _).out.mono ?_
  rintro e w1 ⟨rfl, k1⟩
  have K1 : Hid (∀ S, Keeps S w w1) := Lib.hid (fun S => ((Keeps.refl S w).alloc _).trans (k1 S))
  have B1 := Blk.keeps B0 (k1 (fun _ => False)) (fun z => z)
  have x0 : w1.cell? ⟨w.heap.size, 0, none⟩ = some (.int .u64 (n : Int)) := by rw [B1.cell]; rfl
  have x1 : w1.cell? ⟨w.heap.size, 1, none⟩ = some (.int .u64 (d : Int)) := by rw [B1.cell]; rfl
  have x2 : w1.cell? ⟨w.heap.size, 2, none⟩ = some (.int .u64 (b : Int)) := by rw [B1.cell]; rfl
  clear k1 B0 B1
  go_wp2
  try rw [Exit.noGoto_ret]
  go_ret3
  exact ⟨K1.out, .inl ⟨HL.out, rfl⟩⟩
set_option maxRecDepth 100000 in
set_option maxHeartbeats 8000000 in
theorem when_in (s now k : Nat) (he : err n d b now = 0) (hs : s < 18446744073709551616) (hk : k ≤ b) : Calls Try.prog 16 #[bv n d b, .int .u64 (s : Int), .int .u64 (now : Int), .int .u64 (k : Int)] w (WhenAns n d b s now k w) := by
  have HW := fun w => Lib.hid (wrong_ w n d b now)
  rw [he] at HW
  obtain ⟨⟨⟨n0, n1⟩, ⟨d0, d1⟩, b0, b1⟩, hnow⟩ := err_ok he
  have HCE := Lib.hid (fun t => lets_ceil (n := n) (d := d) (b := b) (s := s) (t := t) (k := k) n0 hk)
  have hbd : (b - k) * d ≤ 1048576 * 65536 := Nat.mul_le_mul (by omega) d1
  obtain ⟨bk, hbk⟩ : ∃ x, x = b - k := ⟨_, rfl⟩
  rw [← hbk] at hbd
  obtain ⟨rm, hrm⟩ : ∃ x, x = bk * d := ⟨_, rfl⟩
  rw [← hrm] at hbd
  obtain ⟨t, ht⟩ : ∃ x, x = max s rm := ⟨_, rfl⟩
  obtain ⟨ab, hab⟩ : ∃ x, x = t - rm := ⟨_, rfl⟩
  obtain ⟨q, hq⟩ : ∃ x, x = ab / n := ⟨_, rfl⟩
  obtain ⟨md, hmd⟩ : ∃ x, x = ab % n := ⟨_, rfl⟩
  have hqa : q ≤ ab := by rw [hq]; exact Nat.div_le_self _ _
  have hqm : q * n + md = ab := by rw [hq, hmd, Nat.mul_comm]; exact Nat.div_add_mod ab n
  have hmn : md < n := by rw [hmd]; exact Nat.mod_lt _ n0
  have hqo : md = 0 ∨ q + 1 < 18446744073709551616 := by
    rcases Nat.eq_zero_or_pos md with z | z
    · exact .inl z
    · right
      have h2 : 2 ≤ n := by omega
      have h3 : q * 2 ≤ q * n := Nat.mul_le_mul (Nat.le_refl q) h2
      omega
  have e1 : IntKind.u64.wrap ((b : Int) - (k : Int)) = (bk : Int) := by rw [IntKind.wrap_u64]; omega
  have e2 : IntKind.u64.wrap ((bk : Int) * (d : Int)) = (rm : Int) := by rw [mul_, ← hrm, wrap_ _ (by omega)]
  have e3 : IntKind.u64.wrap ((t : Int) - (rm : Int)) = (ab : Int) := by rw [IntKind.wrap_u64]; omega
  have e4 : IntKind.u64.wrap ((ab : Int).tdiv (n : Int)) = (q : Int) := by rw [Int.tdiv_eq_ediv_of_nonneg (Int.natCast_nonneg _), ← Int.natCast_ediv, ← hq, wrap_ _ (by omega)]
  have e5 : (ab : Int).tmod (n : Int) = (md : Int) := by rw [Int.tmod_eq_emod_of_nonneg (Int.natCast_nonneg _), ← Int.natCast_emod, ← hmd]
  have e6 : IntKind.u64.wrap (md : Int) = (md : Int) := wrap_ _ (by omega)
  have e4' : IntKind.u64.wrap ((ab : Int) / (n : Int)) = (q : Int) := by rw [← Int.natCast_ediv, ← hq, wrap_ _ (by omega)]
  have e5' : (ab : Int) % (n : Int) = (md : Int) := by rw [← Int.natCast_emod, ← hmd]
  obtain ⟨tk, htk⟩ : ∃ x, x = q + (if md = 0 then 0 else 1) := ⟨_, rfl⟩
  have hce : ceil (s - rm) n = tk := by
    unfold ceil
    rw [htk, hq, hmd, show s - rm = ab by omega]
  have e7 : md = 0 ∨ IntKind.u64.wrap ((q : Int) + 1) = (tk : Int) := by
    rcases hqo with z | z
    · exact .inl z
    · rcases Nat.eq_zero_or_pos md with z2 | z2
      · exact .inl z2
      · right; rw [IntKind.wrap_u64, htk, if_neg (by omega)]; omega
  have e8 : md = 0 → q = tk := fun z => by rw [htk, if_pos z, Nat.add_zero]
  have hd1 : ¬ (n : Int) = 0 := by omega
  have hd2 : ((n : Int) == 0) = false := by simp; omega
  have hd3 : ¬ n = 0 := by omega
  have qk : ¬ (b : Int) < (k : Int) := by omega
  rw [← hbk, ← hrm] at HCE
  obtain ⟨lw, hlw⟩ : ∃ x, x = max tk now := ⟨_, rfl⟩
  have HP := Lib.hid (show ((s < rm ∧ tk = 0) ∨ (¬ s < rm ∧ t = s)) ∧ (md = 0 ∨ 0 < md) ∧ ((tk < now ∧ lw = now) ∨ (¬ tk < now ∧ lw = tk)) ∧ (1099511627776 < lw ∨ lw ≤ 1099511627776) from by
    refine ⟨?_, by omega, by omega, by omega⟩
    rcases Nat.lt_or_ge s rm with z | z
    · left
      have h0 : ab = 0 := by omega
      rw [h0, Nat.zero_mod] at hmd
      rw [h0, Nat.zero_div] at hq
      exact ⟨z, by rw [htk, hq, hmd]; rfl⟩
    · right; exact ⟨by omega, by omega⟩)
  have HA1 : lw ≤ 1099511627776 → IsWhen n d b s now k lw := fun hl => ⟨by omega, hl, (HCE.out lw).2 (by rw [hce]; omega), fun u h1 h2 => by
    rw [← Bool.not_eq_true, HCE.out u, hce]; omega⟩
  have HA2 : 1099511627776 < lw → lets n d b s 1099511627776 k = false := fun hl => by
    rw [← Bool.not_eq_true, HCE.out, hce]; omega
  have HAA := Lib.hid (And.intro HA1 HA2)
  have E7 := Lib.hid (And.intro e7 e8)
  have HNW := Lib.hid hnow
  unfold bv at HW ⊢
  clear HA1 HA2 he n0 n1 d0 d1 b0 b1 hnow hs hk hbk hrm ht hab hq hmd hqa hqm hmn hqo hbd htk hce hlw HCE e7 e8
  obtain ⟨c1, c2, c3, c4⟩ := HP.out
  clear HP
  rcases c1 with ⟨hc, ht⟩ | ⟨hc, ht⟩
  · have hln : lw = now := by omega
    rw [hln] at HAA
    have HWN := Lib.hid (HAA.out.1 HNW.out)
    have qc : (s : Int) < (rm : Int) := by omega
    have qm : ¬ (1099511627776 : Int) < (now : Int) := by have := HNW.out; omega
    clear hc ht hln c2 c3 c4 E7 HAA HNW e3 e4 e5 e6 e4' e5'
    rcases Nat.eq_zero_or_pos now with hz | hz
    · subst hz
      go_enter Try.func16, Try.ntmps16
      go_wp2_with fail
      have B0 := Blk.new w 24 #[.int .u64 (n : Int), .int .u64 (d : Int), .int .u64 (b : Int)]
      refine (HW _).out.mono ?_
      rintro e w1 ⟨rfl, k1⟩
      have K1 : Hid (∀ S, Keeps S w w1) := Lib.hid (fun S => ((Keeps.refl S w).alloc _).trans (k1 S))
      have B1 := Blk.keeps B0 (k1 (fun _ => False)) (fun z => z)
      have x0 : w1.cell? ⟨w.heap.size, 0, none⟩ = some (.int .u64 (n : Int)) := by rw [B1.cell]; rfl
      have x1 : w1.cell? ⟨w.heap.size, 1, none⟩ = some (.int .u64 (d : Int)) := by rw [B1.cell]; rfl
      have x2 : w1.cell? ⟨w.heap.size, 2, none⟩ = some (.int .u64 (b : Int)) := by rw [B1.cell]; rfl
      clear k1 B0 B1
      go_wp2
      try rw [Exit.noGoto_ret]
      go_ret3
      exact ⟨K1.out, .inr ⟨0, HWN.out, by first | rfl | simp⟩⟩
    · have qn : (0 : Int) < (now : Int) := by omega
      clear hz
      go_enter Try.func16, Try.ntmps16
      go_wp2_with fail
      have B0 := Blk.new w 24 #[.int .u64 (n : Int), .int .u64 (d : Int), .int .u64 (b : Int)]
      refine (HW _).out.mono ?_
      rintro e w1 ⟨rfl, k1⟩
      have K1 : Hid (∀ S, Keeps S w w1) := Lib.hid (fun S => ((Keeps.refl S w).alloc _).trans (k1 S))
      have B1 := Blk.keeps B0 (k1 (fun _ => False)) (fun z => z)
      have x0 : w1.cell? ⟨w.heap.size, 0, none⟩ = some (.int .u64 (n : Int)) := by rw [B1.cell]; rfl
      have x1 : w1.cell? ⟨w.heap.size, 1, none⟩ = some (.int .u64 (d : Int)) := by rw [B1.cell]; rfl
      have x2 : w1.cell? ⟨w.heap.size, 2, none⟩ = some (.int .u64 (b : Int)) := by rw [B1.cell]; rfl
      clear k1 B0 B1
      go_wp2
      try rw [Exit.noGoto_ret]
      go_ret3
      exact ⟨K1.out, .inr ⟨now, HWN.out, by first | rfl | simp⟩⟩
  · rw [ht] at e3
    have qc : ¬ (s : Int) < (rm : Int) := by omega
    clear hc ht HNW
    rcases c2 with hz | hz
    all_goals
      first
        | (have hqt := E7.out.2 hz
           have qz : ((md : Int) == 0) = true := by simp; omega
           have qz2 : (md : Int) = 0 := by omega)
        | (have hqt := E7.out.1.resolve_left (show ¬ md = 0 by omega)
           have qz : ((md : Int) == 0) = false := by simp; omega
           have qz2 : ¬ (md : Int) = 0 := by omega)
      clear hz E7
      rcases c3 with ⟨hc, hl⟩ | ⟨hc, hl⟩
    all_goals
      first | have qt : (tk : Int) < (now : Int) := by omega | have qt : ¬ (tk : Int) < (now : Int) := by omega
      clear hc
      rw [hl] at HAA c4
      clear hl
      rcases c4 with hm | hm
    all_goals
      first
        | (have qm : (1099511627776 : Int) < ((_ : Nat) : Int) := Int.ofNat_lt.2 hm)
        | (have qm := Int.not_lt.2 (Int.ofNat_le.2 hm))
      have HM := Lib.hid hm
      clear hm
      try subst hqt
      go_enter Try.func16, Try.ntmps16
      go_wp2_with fail
      have B0 := Blk.new w 24 #[.int .u64 (n : Int), .int .u64 (d : Int), .int .u64 (b : Int)]
      refine (HW _).out.mono ?_
      rintro e w1 ⟨rfl, k1⟩
      have K1 : Hid (∀ S, Keeps S w w1) := Lib.hid (fun S => ((Keeps.refl S w).alloc _).trans (k1 S))
      have B1 := Blk.keeps B0 (k1 (fun _ => False)) (fun z => z)
      have x0 : w1.cell? ⟨w.heap.size, 0, none⟩ = some (.int .u64 (n : Int)) := by rw [B1.cell]; rfl
      have x1 : w1.cell? ⟨w.heap.size, 1, none⟩ = some (.int .u64 (d : Int)) := by rw [B1.cell]; rfl
      have x2 : w1.cell? ⟨w.heap.size, 2, none⟩ = some (.int .u64 (b : Int)) := by rw [B1.cell]; rfl
      clear k1 B0 B1
      go_wp2
      try rw [Exit.noGoto_ret]
      go_ret3
      first
        | exact ⟨K1.out, .inl ⟨HAA.out.2 HM.out, rfl⟩⟩
        | exact ⟨K1.out, .inr ⟨_, HAA.out.1 HM.out, rfl⟩⟩
end
end Go.Proofs.Ytbiadglhfpapaaa.bp
