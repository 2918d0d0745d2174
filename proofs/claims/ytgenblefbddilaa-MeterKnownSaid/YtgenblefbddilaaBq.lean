/-
  The program's bucket (Check, wrong, take, Take, Level), apart from the reference.
-/
import Derived.Test.YtgenblefbddilaaMzK2
import Derived.Test.YtgenblefbddilaaProg
import Derived.WalkLawsBesides
import Derived.WalkSpells
import Derived.Outline
import Derived.Lib.Hide
import Derived.IntWalk
import Derived.WalkMore
import Derived.Deep.RegionHeld3
import Derived.StillTailTactics
import Derived.Deep.QuietTactic
import Derived.BigQuiet
import Derived.BigRegion
import Derived.Laws.Bits64b
import Derived.Laws.Externs
set_option linter.unusedVariables false
namespace Go.Proofs.Ytgenblefbddilaa.bk
open Go.RowKit Go.Proofs.Ytgenblefbddilaa.oc Go.Proofs.Ytgenblefbddilaa.mz
/-- a bucket -/
def bv (n d b : Nat) : Value := .agg #[.int .u64 (n : Int), .int .u64 (d : Int), .int .u64 (b : Int)]
/-- may it be? -/
def May (n d b : Nat) : Prop := (1 ≤ n ∧ n ≤ 65536) ∧ (1 ≤ d ∧ d ≤ 65536) ∧ 1 ≤ b ∧ b ≤ 1048576
instance (n d b : Nat) : Decidable (May n d b) := by unfold May; infer_instance
/-- the error of a bucket and a tick -/
def err (n d b now : Nat) : Int := if May n d b then (if now ≤ 1099511627776 then 0 else 5) else 2
/-- how far it stands, how far ahead -/
def tOf (n s now : Nat) : Nat := max s (now * n)
def aOf (n s now : Nat) : Nat := max s (now * n) - now * n
@[irreducible] def hiOf (x y : Nat) : Nat := x * y / 18446744073709551616
@[irreducible] def loOf (x y : Nat) : Nat := x * y % 18446744073709551616
/-- is it let through? -/
def lets (n d b s now k : Nat) : Bool := decide (aOf n s now + k * d ≤ b * d)
theorem err_ok {n d b now : Nat} (he : err n d b now = 0) : May n d b ∧ now ≤ 1099511627776 := by
  unfold err at he
  by_cases h1 : May n d b
  · refine ⟨h1, ?_⟩
    simp [h1] at he
    omega
  · simp [h1] at he
/-- how many can be taken at once -/
def level (n d b s now : Nat) : Nat := (b * d - aOf n s now) / d
theorem aOf_eq (n s now : Nat) : aOf n s now = s - now * n := by unfold aOf; omega
/-- the state behind a Take -/
def takeOf (n d b s now k : Nat) : Nat := if lets n d b s now k then (tOf n s now + k * d) % 18446744073709551616 else s
theorem times_core (p1 p2 p3 p4 : Nat) (h1 : p1 ≤ 18446744065119617025) (h2 : p2 ≤ 18446744065119617025) (h3 : p3 ≤ 18446744065119617025) (h4 : p4 ≤ 18446744065119617025) :
    let mid := p2 + p4 / 4294967296
    let nx := p3 + mid % 4294967296
    p1 * 18446744073709551616 + (p2 + p3) * 4294967296 + p4 = (p1 + mid / 4294967296 + nx / 4294967296) * 18446744073709551616 + ((nx % 4294967296) * 4294967296 + p4 % 4294967296) := by
  intro mid nx
  omega
theorem prod_le {x y : Nat} (hx : x < 4294967296) (hy : y < 4294967296) : x * y ≤ 18446744065119617025 := by
  have := Nat.mul_le_mul (show x ≤ 4294967295 by omega) (show y ≤ 4294967295 by omega)
  omega
theorem prod_split (a b : Nat) : a * b = (a / 4294967296) * (b / 4294967296) * 18446744073709551616 + ((a / 4294967296) * (b % 4294967296) + (a % 4294967296) * (b / 4294967296)) * 4294967296 + (a % 4294967296) * (b % 4294967296) := by
  have ha : a = (a / 4294967296) * 4294967296 + a % 4294967296 := by omega
  have hb : b = (b / 4294967296) * 4294967296 + b % 4294967296 := by omega
  generalize a / 4294967296 = x at *
  generalize a % 4294967296 = y at *
  generalize b / 4294967296 = u at *
  generalize b % 4294967296 = v at *
  subst ha; subst hb
  rw [Nat.add_mul, Nat.mul_add, Nat.mul_add, Nat.add_mul]
  have e1 : x * 4294967296 * (u * 4294967296) = x * u * 18446744073709551616 := by
    rw [Nat.mul_mul_mul_comm]
  have e2 : x * 4294967296 * v = x * v * 4294967296 := by rw [Nat.mul_right_comm]
  have e3 : y * (u * 4294967296) = y * u * 4294967296 := by rw [Nat.mul_assoc]
  omega
end Go.Proofs.Ytgenblefbddilaa.bk
namespace Go.Proofs.Ytgenblefbddilaa.bp
open Go.RowKit Go.Proofs.Ytgenblefbddilaa.oc Go.Proofs.Ytgenblefbddilaa.mz Go.Proofs.Ytgenblefbddilaa.bk
/-- is x not from 1 to y? -/
def outs (x y : Nat) : Bool := decide (x < 1 ∨ y < x)
section
variable (w : World) (n d b : Nat)
set_option maxRecDepth 100000 in
set_option maxHeartbeats 1000000 in
theorem outside_ (x y : Nat) : Calls Try.prog 34 #[.int .u64 (x : Int), .int .u64 (y : Int)] w fun e w' => e = .returned (.bool (outs x y)) ∧ ∀ S, Keeps S w w' := by
  rcases Nat.lt_or_ge x 1 with h1 | h1
  · have q1 : (x : Int) < 1 := by omega
    rw [show outs x y = true from by unfold outs; simp; omega]
    clear h1
    go_enter Try.func34, Try.ntmps34
    go_wp2
    try rw [Exit.noGoto_ret]
    go_ret
    exact ⟨rfl, fun S => Keeps.refl S w⟩
  · have q1 : ¬ (x : Int) < 1 := by omega
    rcases Nat.lt_or_ge y x with h2 | h2
    · have q2 : (y : Int) < (x : Int) := by omega
      rw [show outs x y = true from by unfold outs; simp; omega]
      clear h1 h2
      go_enter Try.func34, Try.ntmps34
      go_wp2
      try rw [Exit.noGoto_ret]
      go_ret
      exact ⟨rfl, fun S => Keeps.refl S w⟩
    · have q2 : ¬ (y : Int) < (x : Int) := by omega
      rw [show outs x y = false from by unfold outs; simp; omega]
      clear h1 h2
      go_enter Try.func34, Try.ntmps34
      go_wp2
      try rw [Exit.noGoto_ret]
      go_ret
      exact ⟨rfl, fun S => Keeps.refl S w⟩
theorem may_outs : (outs n 65536 || outs d 65536 || outs b 1048576) = !decide (May n d b) := by
  have h : May n d b ↔ ¬ (((n < 1 ∨ 65536 < n) ∨ (d < 1 ∨ 65536 < d)) ∨ (b < 1 ∨ 1048576 < b)) := by unfold May; omega
  by_cases hm : May n d b
  · rw [decide_eq_true hm]
    have := h.1 hm
    unfold outs
    simp only [Bool.not_true, Bool.or_eq_false_iff, decide_eq_false_iff_not]
    omega
  · rw [decide_eq_false hm]
    have : ((n < 1 ∨ 65536 < n) ∨ (d < 1 ∨ 65536 < d)) ∨ (b < 1 ∨ 1048576 < b) := Decidable.byContradiction (fun q => hm (h.2 q))
    unfold outs
    simp only [Bool.not_false, Bool.or_eq_true, decide_eq_true_eq]
    exact this
set_option maxRecDepth 100000 in
set_option maxHeartbeats 1000000 in
theorem check_go (o1 o2 o3 : Bool) (h1 : outs n 65536 = o1) (h2 : outs d 65536 = o2) (h3 : outs b 1048576 = o3) : Calls Try.prog 20 #[bv n d b] w fun e w' => e = .returned (.int .i64 (if o1 || o2 || o3 then 2 else 0)) ∧ ∀ S, Keeps S w w' := by
  have H1 := fun w => outside_ w n 65536
  have H2 := fun w => outside_ w d 65536
  have H3 := fun w => outside_ w b 1048576
  rw [h1] at H1
  rw [h2] at H2
  rw [h3] at H3
  have c1 : ((65536 : Nat) : Int) = 65536 := rfl
  have c2 : ((1048576 : Nat) : Int) = 1048576 := rfl
  simp only [c1, c2] at H1 H2 H3
  have G1 := fun w => Lib.hid (H1 w)
  have G2 := fun w => Lib.hid (H2 w)
  have G3 := fun w => Lib.hid (H3 w)
  clear H1 H2 H3 h1 h2 h3 c1 c2
  unfold bv
  cases o1
  · cases o2
    · go_enter Try.func20, Try.ntmps20
      go_wp2_with fail
      have B0 := Blk.new w 24 #[.int .u64 (n : Int), .int .u64 (d : Int), .int .u64 (b : Int)]
      refine (G1 _).out.mono ?_
      rintro e w1 ⟨rfl, k1⟩
      have B1 := Blk.keeps B0 (k1 (fun _ => False)) (fun z => z)
      have K1 : Hid (∀ S, Keeps S w w1) := Lib.hid (fun S => ((Keeps.refl S w).alloc _).trans (k1 S))
      have x1 : w1.cell? ⟨w.heap.size, 1, none⟩ = some (.int .u64 (d : Int)) := by rw [B1.cell]; rfl
      clear k1 B0
      go_wp2_with fail
      refine (G2 _).out.mono ?_
      rintro e w2 ⟨rfl, k2⟩
      have B2 := Blk.keeps B1 (k2 (fun _ => False)) (fun z => z)
      have K2 : Hid (∀ S, Keeps S w w2) := Lib.hid (fun S => (K1.out S).trans (k2 S))
      have x2 : w2.cell? ⟨w.heap.size, 2, none⟩ = some (.int .u64 (b : Int)) := by rw [B2.cell]; rfl
      clear k2 B1 x1 B2
      go_wp2_with fail
      refine (G3 _).out.mono ?_
      rintro e w3 ⟨rfl, k3⟩
      have K3 : Hid (∀ S, Keeps S w w3) := Lib.hid (fun S => (K2.out S).trans (k3 S))
      clear k3 x2
      cases o3
      all_goals
        go_wp2
        try rw [Exit.noGoto_ret]
        go_ret
        exact ⟨rfl, K3.out⟩
    · go_enter Try.func20, Try.ntmps20
      go_wp2_with fail
      have B0 := Blk.new w 24 #[.int .u64 (n : Int), .int .u64 (d : Int), .int .u64 (b : Int)]
      refine (G1 _).out.mono ?_
      rintro e w1 ⟨rfl, k1⟩
      have B1 := Blk.keeps B0 (k1 (fun _ => False)) (fun z => z)
      have K1 : Hid (∀ S, Keeps S w w1) := Lib.hid (fun S => ((Keeps.refl S w).alloc _).trans (k1 S))
      have x1 : w1.cell? ⟨w.heap.size, 1, none⟩ = some (.int .u64 (d : Int)) := by rw [B1.cell]; rfl
      clear k1 B0 B1
      go_wp2_with fail
      refine (G2 _).out.mono ?_
      rintro e w2 ⟨rfl, k2⟩
      have K2 : Hid (∀ S, Keeps S w w2) := Lib.hid (fun S => (K1.out S).trans (k2 S))
      clear k2 x1
      go_wp2
      try rw [Exit.noGoto_ret]
      go_ret
      exact ⟨rfl, K2.out⟩
  · go_enter Try.func20, Try.ntmps20
    go_wp2_with fail
    refine (G1 _).out.mono ?_
    rintro e w1 ⟨rfl, k1⟩
    have K1 : Hid (∀ S, Keeps S w w1) := Lib.hid (fun S => ((Keeps.refl S w).alloc _).trans (k1 S))
    clear k1
    go_wp2
    try rw [Exit.noGoto_ret]
    go_ret
    exact ⟨by simp, K1.out⟩
/-- what Check answers -/
def chk (n d b : Nat) : Int := if May n d b then 0 else 2
theorem check_ : Calls Try.prog 20 #[bv n d b] w fun e w' => e = .returned (.int .i64 (chk n d b)) ∧ ∀ S, Keeps S w w' := by
  have h := check_go w n d b _ _ _ rfl rfl rfl
  rw [may_outs] at h
  have e : (if (!decide (May n d b)) = true then (2 : Int) else 0) = chk n d b := by
    unfold chk
    by_cases hm : May n d b <;> simp [hm]
  rw [e] at h
  exact h
set_option maxRecDepth 100000 in
set_option maxHeartbeats 1000000 in
theorem wrong_ (now : Nat) : Calls Try.prog 43 #[bv n d b, .int .u64 (now : Int)] w fun e w' => e = .returned (.int .i64 (err n d b now)) ∧ ∀ S, Keeps S w w' := by
  have HC := fun w => Lib.hid (check_ w n d b)
  unfold bv at HC ⊢
  by_cases hm : May n d b
  · rw [show chk n d b = 0 from by unfold chk; rw [if_pos hm]] at HC
    rcases Nat.lt_or_ge 1099511627776 now with h | h
    · have he : err n d b now = 5 := by simp [err, hm]; omega
      rw [he]
      have q1 : (1099511627776 : Int) < (now : Int) := by omega
      clear hm he h
      go_enter Try.func43, Try.ntmps43
      go_wp2_with fail
      refine (HC _).out.mono ?_
      rintro e w1 ⟨rfl, k1⟩
      have K1 : Hid (∀ S, Keeps S w w1) := Lib.hid (fun S => ((Keeps.refl S w).alloc _).trans (k1 S))
      clear k1
      go_wp2
      try rw [Exit.noGoto_ret]
      go_ret
      exact ⟨rfl, K1.out⟩
    · have he : err n d b now = 0 := by simp [err, hm]; omega
      rw [he]
      have q1 : ¬ (1099511627776 : Int) < (now : Int) := by omega
      clear hm he h
      go_enter Try.func43, Try.ntmps43
      go_wp2_with fail
      refine (HC _).out.mono ?_
      rintro e w1 ⟨rfl, k1⟩
      have K1 : Hid (∀ S, Keeps S w w1) := Lib.hid (fun S => ((Keeps.refl S w).alloc _).trans (k1 S))
      clear k1
      go_wp2
      try rw [Exit.noGoto_ret]
      go_ret
      exact ⟨rfl, K1.out⟩
  · rw [show chk n d b = 2 from by unfold chk; rw [if_neg hm]] at HC
    have he : err n d b now = 2 := by simp [err, hm]
    rw [he]
    clear hm he
    go_enter Try.func43, Try.ntmps43
    go_wp2_with fail
    refine (HC _).out.mono ?_
    rintro e w1 ⟨rfl, k1⟩
    have K1 : Hid (∀ S, Keeps S w w1) := Lib.hid (fun S => ((Keeps.refl S w).alloc _).trans (k1 S))
    clear k1
    go_wp2
    try rw [Exit.noGoto_ret]
    go_ret
    exact ⟨rfl, K1.out⟩
end
theorem mul_ (a b : Nat) : (a : Int) * (b : Int) = ((a * b : Nat) : Int) := (Int.natCast_mul a b).symm
theorem add_' (a b : Nat) : (a : Int) + (b : Int) = ((a + b : Nat) : Int) := (Int.natCast_add a b).symm
theorem wrap_ (a : Nat) (ha : a < 18446744073709551616) : IntKind.u64.wrap (a : Int) = (a : Int) := by rw [IntKind.wrap_u64]; omega
theorem wrapm_ (a : Nat) : IntKind.u64.wrap (a : Int) = ((a % 18446744073709551616 : Nat) : Int) := by rw [IntKind.wrap_u64]; omega
section
variable (w : World)
theorem low32 (a : Nat) (ha : a < 18446744073709551616) : bits .and .u64 (a : Int) 4294967295 = ((a % 4294967296 : Nat) : Int) :=
  (bits_and_u64_nat a 4294967295 ha (by omega)).trans (congrArg (fun z : Nat => (z : Int)) (Nat.and_two_pow_sub_one_eq_mod a 32))
/-- the steps by which two words are multiplied, each under a name -/
structure Steps (x y x0 x1 y0 y1 p1 p2 p3 p4 q4 t t0 t1 v s u hi lo : Nat) : Prop where
  f1 : bits .and .u64 (x : Int) 4294967295 = (x0 : Int)
  f2 : (x : Int) / 4294967296 = (x1 : Int)
  f3 : bits .and .u64 (y : Int) 4294967295 = (y0 : Int)
  f4 : (y : Int) / 4294967296 = (y1 : Int)
  f5 : IntKind.u64.wrap ((x0 : Int) * (y0 : Int)) = (p4 : Int)
  f6 : IntKind.u64.wrap ((x1 : Int) * (y0 : Int)) = (p2 : Int)
  f7 : (p4 : Int) / 4294967296 = (q4 : Int)
  f8 : IntKind.u64.wrap ((p2 : Int) + (q4 : Int)) = (t : Int)
  f9 : bits .and .u64 (t : Int) 4294967295 = (t0 : Int)
  f10 : (t : Int) / 4294967296 = (t1 : Int)
  f11 : IntKind.u64.wrap ((x0 : Int) * (y1 : Int)) = (p3 : Int)
  f12 : IntKind.u64.wrap ((t0 : Int) + (p3 : Int)) = (v : Int)
  f13 : IntKind.u64.wrap ((x1 : Int) * (y1 : Int)) = (p1 : Int)
  f14 : IntKind.u64.wrap ((p1 : Int) + (t1 : Int)) = (s : Int)
  f15 : (v : Int) / 4294967296 = (u : Int)
  f16 : IntKind.u64.wrap ((s : Int) + (u : Int)) = (hi : Int)
  f17 : IntKind.u64.wrap ((x : Int) * (y : Int)) = (lo : Int)
theorem add_le (a c z : Nat) (h : a + c = z) (hz : z < 18446744073709551616) : IntKind.u64.wrap ((a : Int) + (c : Int)) = (z : Int) := by rw [add_', h, wrap_ _ hz]
theorem mul_le' (a c z : Nat) (h : a * c = z) (hz : z < 18446744073709551616) : IntKind.u64.wrap ((a : Int) * (c : Int)) = (z : Int) := by rw [mul_, h, wrap_ _ hz]
theorem steps_ex (x y : Nat) (hx : x < 18446744073709551616) (hy : y < 18446744073709551616) : ∃ x0 x1 y0 y1 p1 p2 p3 p4 q4 t t0 t1 v s u : Nat, Steps x y x0 x1 y0 y1 p1 p2 p3 p4 q4 t t0 t1 v s u (x * y / 18446744073709551616) (x * y % 18446744073709551616) := by
  have b1 := prod_le (show x / 4294967296 < 4294967296 by omega) (show y / 4294967296 < 4294967296 by omega)
  have b2 := prod_le (show x / 4294967296 < 4294967296 by omega) (show y % 4294967296 < 4294967296 by omega)
  have b3 := prod_le (show x % 4294967296 < 4294967296 by omega) (show y / 4294967296 < 4294967296 by omega)
  have b4 := prod_le (show x % 4294967296 < 4294967296 by omega) (show y % 4294967296 < 4294967296 by omega)
  have hs := prod_split x y
  have hc := times_core _ _ _ _ b1 b2 b3 b4
  simp only at hc
  rw [← hs] at hc
  have hxy : x * y < 18446744073709551616 * 18446744073709551616 := Nat.mul_lt_mul'' hx hy
  have g17 : IntKind.u64.wrap ((x : Int) * (y : Int)) = ((x * y % 18446744073709551616 : Nat) : Int) := by rw [mul_, wrapm_]
  have g1 := low32 x hx
  have g3 := low32 y hy
  have g2 : (x : Int) / 4294967296 = ((x / 4294967296 : Nat) : Int) := by omega
  have g4 : (y : Int) / 4294967296 = ((y / 4294967296 : Nat) : Int) := by omega
  generalize x * y = z at *
  generalize hp1 : (x / 4294967296) * (y / 4294967296) = p1 at *
  generalize hp2 : (x / 4294967296) * (y % 4294967296) = p2 at *
  generalize hp3 : (x % 4294967296) * (y / 4294967296) = p3 at *
  generalize hp4 : (x % 4294967296) * (y % 4294967296) = p4 at *
  obtain ⟨t, ht⟩ : ∃ t, p2 + p4 / 4294967296 = t := ⟨_, rfl⟩
  obtain ⟨v, hv⟩ : ∃ v, t % 4294967296 + p3 = v := ⟨_, rfl⟩
  have hv2 : p3 + t % 4294967296 = v := by rw [← hv, Nat.add_comm]
  rw [ht, hv2] at hc
  have hhi : p1 + t / 4294967296 + v / 4294967296 = z / 18446744073709551616 := by clear g1 g2 g3 g4 g17; omega
  have hzd : z / 18446744073709551616 < 18446744073709551616 := (Nat.div_lt_iff_lt_mul (by decide)).2 hxy
  have tl : t < 18446744073709551616 := by clear g1 g2 g3 g4 g17; omega
  have vl : v < 18446744073709551616 := by clear g1 g2 g3 g4 g17; omega
  refine ⟨_, _, _, _, p1, p2, p3, p4, p4 / 4294967296, t, t % 4294967296, t / 4294967296, v, p1 + t / 4294967296, v / 4294967296, ⟨g1, g2, g3, g4, mul_le' _ _ _ hp4 ?_, mul_le' _ _ _ hp2 ?_, ?_, add_le _ _ _ ht tl, low32 t tl, ?_, mul_le' _ _ _ hp3 ?_, add_le _ _ _ hv vl, mul_le' _ _ _ hp1 ?_, add_le _ _ _ rfl ?_, ?_, add_le _ _ _ hhi hzd, g17⟩⟩
  all_goals (clear g1 g2 g3 g4 g17; omega)
set_option maxRecDepth 100000 in
set_option maxHeartbeats 2000000 in
theorem mul64_ (x y : Nat) (hx : x < 18446744073709551616) (hy : y < 18446744073709551616) : Calls Try.prog 57 #[.int .u64 (x : Int), .int .u64 (y : Int)] w fun e w' => e = .returned (.tuple #[.int .u64 (hiOf x y : Int), .int .u64 (loOf x y : Int)]) ∧ ∀ S, Keeps S w w' := by
  unfold hiOf loOf
  obtain ⟨x0, x1, y0, y1, p1, p2, p3, p4, q4, t, t0, t1, v, s, u, hst⟩ := steps_ex x y hx hy
  generalize x * y / 18446744073709551616 = hi at *
  generalize x * y % 18446744073709551616 = lo at *
  have HST := Lib.hid hst
  clear hst hx hy
  go_enter Try.func57, Try.ntmps57
  go_wp2
  obtain ⟨f1, f2, f3, f4, f5, f6, f7, f8, f9, f10, f11, f12, f13, f14, f15, f16, f17⟩ := HST.out
  simp only [f1, f2, f3, f4, f5, f6, f7, f8, f9, f10, f11, f12, f13, f14, f15, f16, f17]
  try rw [Exit.noGoto_ret]
  go_ret2
  exact ⟨rfl, fun S => Keeps.refl S w⟩
/-- the carry and the sum -/
@[irreducible] def carry (x y : Nat) : Nat := (x + y) / 18446744073709551616
@[irreducible] def sumlo (x y : Nat) : Nat := (x + y) % 18446744073709551616
theorem add64_ (x y : Nat) : (callFunc 58 #[.int .u64 (x : Int), .int .u64 (y : Int), .int .u64 0]).run Try.prog w = .ok (.value (.tuple #[.int .u64 (sumlo x y : Int), .int .u64 (carry x y : Int)])) w := by
  rw [run_callFunc_extern Try.func58 (by kernel_rfl) (by kernel_rfl) (by kernel_rfl) (e := add64Entry) (by kernel_rfl), run_add64 (x : Int) (y : Int) 0 (by omega) (by omega) (by omega) (by omega)]
  simp only [Result.andThen, sumlo, carry]
  congr 5 <;> omega
/-- a wide number in a block of its own -/
def Wi (w : World) (W hi lo : Nat) : Prop := Blk w W 132 [.int .u64 (hi : Int), .int .u64 (lo : Int)]
set_option maxRecDepth 100000 in
set_option maxHeartbeats 2000000 in
theorem wtimes_ (W x n : Nat) (h : Wi w W 0 x) (hx : x < 18446744073709551616) (hn : n < 18446744073709551616) : Calls Try.prog 52 #[.pointer (some ⟨W, 0, none⟩), .int .u64 (n : Int)] w fun e w' => e = .returned (.tuple #[]) ∧ Keeps (· = W) w w' ∧ Wi w' W (hiOf x n) (loOf x n) := by
  have HM := fun w => Lib.hid (mul64_ w x n hx hn)
  have hm : IntKind.u64.wrap ((x : Int) * (n : Int)) = (loOf x n : Int) := by unfold loOf; rw [mul_, wrapm_]
  have hh : IntKind.u64.wrap (hiOf x n : Int) = (hiOf x n : Int) := by
    refine wrap_ _ ?_
    unfold hiOf
    have h1 : x * n < 18446744073709551616 * 18446744073709551616 := Nat.mul_lt_mul'' hx hn
    exact (Nat.div_lt_iff_lt_mul (by decide)).2 h1
  have H := Lib.hid h
  have x0 : w.cell? ⟨W, 0, none⟩ = some (.int .u64 0) := by rw [h.cell]; rfl
  have x1 : w.cell? ⟨W, 1, none⟩ = some (.int .u64 (x : Int)) := by rw [h.cell]; rfl
  have HMM := Lib.hid hm
  have HHH := Lib.hid hh
  clear h hx hn hm hh
  generalize hiOf x n = hi at *
  generalize loOf x n = lo at *
  go_enter Try.func52, Try.ntmps52
  go_wp2_with fail
  refine (HM _).out.mono ?_
  rintro e w1 ⟨rfl, k1⟩
  have B1 := Blk.keeps H.out (k1 (fun _ => False)) (fun z => z)
  have K1 := Lib.hid (k1 (· = W))
  have x0 : w1.cell? ⟨W, 0, none⟩ = some (.int .u64 0) := by rw [B1.cell]; rfl
  have x1 : w1.cell? ⟨W, 1, none⟩ = some (.int .u64 (x : Int)) := by rw [B1.cell]; rfl
  have f0 := B1.frozen 0
  have f1 := B1.frozen 1
  have HB := Lib.hid B1
  clear k1 B1
  go_wp2
  go_end0
  refine ⟨rfl, ((K1.out.trans (Keeps.here _)).trans (Keeps.here _)).trans (Keeps.here _), ?_⟩
  rw [HHH.out, HMM.out]
  have := ((HB.out.put 0 (.int .u64 0)).put 0 (.int .u64 (hi : Int))).put 1 (.int .u64 (lo : Int))
  simpa [Wi] using this
set_option maxRecDepth 100000 in
set_option maxHeartbeats 2000000 in
theorem wadd_ (W hi lo n : Nat) (h : Wi w W hi lo) (hh : hi + carry lo n < 18446744073709551616) : Calls Try.prog 53 #[.pointer (some ⟨W, 0, none⟩), .int .u64 (n : Int)] w fun e w' => e = .returned (.tuple #[]) ∧ Keeps (· = W) w w' ∧ Wi w' W (hi + carry lo n) (sumlo lo n) := by
  have HADD := fun w => add64_ w lo n
  have hs : IntKind.u64.wrap ((lo : Int) + (n : Int)) = (sumlo lo n : Int) := by unfold sumlo; rw [add_', wrapm_]
  have hc : IntKind.u64.wrap ((hi : Int) + (carry lo n : Int)) = ((hi + carry lo n : Nat) : Int) := by rw [add_', wrap_ _ hh]
  obtain ⟨ht, eht⟩ : ∃ x, x = hi + carry lo n := ⟨_, rfl⟩
  rw [← eht] at hc ⊢
  have H := Lib.hid h
  have x0 : w.cell? ⟨W, 0, none⟩ = some (.int .u64 (hi : Int)) := by rw [h.cell]; rfl
  have x1 : w.cell? ⟨W, 1, none⟩ = some (.int .u64 (lo : Int)) := by rw [h.cell]; rfl
  have f0 := h.frozen 0
  have f1 := h.frozen 1
  have HSS := Lib.hid hs
  have HCC := Lib.hid hc
  clear h hh hs hc eht
  generalize carry lo n = cy at *
  generalize sumlo lo n = sl at *
  go_enter Try.func53, Try.ntmps53
  go_wp2
  go_end0
  refine ⟨rfl, (Keeps.here _).trans (Keeps.here _), ?_⟩
  rw [HCC.out, HSS.out]
  have := (H.out.put 0 (.int .u64 (ht : Int))).put 1 (.int .u64 (sl : Int))
  simpa [Wi] using this
set_option maxRecDepth 100000 in
set_option maxHeartbeats 2000000 in
theorem wabove_ (W hi lo n : Nat) (h : Wi w W hi lo) : Calls Try.prog 54 #[.pointer (some ⟨W, 0, none⟩), .int .u64 (n : Int)] w fun e w' => e = .returned (.bool (decide (0 < hi ∨ n < lo))) ∧ ∀ S, Keeps S w w' := by
  have x0 : w.cell? ⟨W, 0, none⟩ = some (.int .u64 (hi : Int)) := by rw [h.cell]; rfl
  have x1 : w.cell? ⟨W, 1, none⟩ = some (.int .u64 (lo : Int)) := by rw [h.cell]; rfl
  clear h
  by_cases h1 : 0 < hi
  · rw [decide_eq_true (Or.inl h1)]
    have q1 : (0 : Int) < (hi : Int) := by omega
    clear h1
    go_enter Try.func54, Try.ntmps54
    go_wp2
    try rw [Exit.noGoto_ret]
    go_ret
    exact ⟨rfl, fun S => Keeps.refl S w⟩
  · have q1 : ¬ (0 : Int) < (hi : Int) := by omega
    by_cases h2 : n < lo
    · rw [decide_eq_true (Or.inr h2)]
      have q2 : (n : Int) < (lo : Int) := by omega
      clear h1 h2
      go_enter Try.func54, Try.ntmps54
      go_wp2
      try rw [Exit.noGoto_ret]
      go_ret
      exact ⟨rfl, fun S => Keeps.refl S w⟩
    · rw [decide_eq_false (show ¬ (0 < hi ∨ n < lo) by omega)]
      have q2 : ¬ (n : Int) < (lo : Int) := by omega
      clear h1 h2
      go_enter Try.func54, Try.ntmps54
      go_wp2
      try rw [Exit.noGoto_ret]
      go_ret
      exact ⟨rfl, fun S => Keeps.refl S w⟩
theorem glue_ {S S' : Nat → Prop} {a b c : World} (h : Keeps S a b) (k : Keeps S' b c) (hs : ∀ x, x < a.heap.size → S' x → S x) : Keeps S a c :=
  ⟨Nat.le_trans h.size k.size, fun x hx hxs => by rw [k.block x (Nat.lt_of_lt_of_le hx h.size) (fun e => hxs (hs x hx e)), h.block x hx hxs], h.same.trans k.same⟩
theorem wide_val (x n t : Nat) : (hiOf x n + carry (loOf x n) t) * 18446744073709551616 + sumlo (loOf x n) t = x * n + t ∧ sumlo (loOf x n) t < 18446744073709551616 := by
  unfold hiOf loOf carry sumlo
  generalize x * n = z
  omega
variable (n d b : Nat)
set_option maxRecDepth 100000 in
set_option maxHeartbeats 4000000 in
theorem ptake_ (s now k : Nat) (hm : May n d b) (hnow : now ≤ 1099511627776) (hs : s < 18446744073709551616) (hk : k < 18446744073709551616) : Calls Try.prog 44 #[bv n d b, .int .u64 (s : Int), .int .u64 (now : Int), .int .u64 (k : Int)] w fun e w' => e = .returned (.tuple #[.int .u64 ((takeOf n d b s now k : Nat) : Int), .bool (lets n d b s now k)]) ∧ ∀ S, Keeps S w w' := by
  obtain ⟨⟨n0, n1⟩, ⟨d0, d1⟩, b0, b1⟩ := hm
  have hp : now * n ≤ 1099511627776 * 65536 := Nat.mul_le_mul hnow n1
  have hbd : b * d ≤ 1048576 * 65536 := Nat.mul_le_mul b1 d1
  have hkd : k * d ≤ 18446744073709551616 * 65536 := Nat.mul_le_mul (by omega) d1
  obtain ⟨i, hi⟩ : ∃ x, x = now * n := ⟨_, rfl⟩
  obtain ⟨f, hf⟩ : ∃ x, x = b * d := ⟨_, rfl⟩
  obtain ⟨g, hg⟩ : ∃ x, x = i + f := ⟨_, rfl⟩
  obtain ⟨t, ht⟩ : ∃ x, x = max s i := ⟨_, rfl⟩
  obtain ⟨v1, v2⟩ := wide_val k d t
  obtain ⟨h2, hh2⟩ : ∃ x, x = hiOf k d + carry (loOf k d) t := ⟨_, rfl⟩
  obtain ⟨l2, hl2⟩ : ∃ x, x = sumlo (loOf k d) t := ⟨_, rfl⟩
  rw [← hh2, ← hl2] at v1
  rw [← hl2] at v2
  have e1 : IntKind.u64.wrap ((now : Int) * (n : Int)) = (i : Int) := by rw [mul_, wrap_ _ (by omega), hi]
  have e2 : IntKind.u64.wrap ((b : Int) * (d : Int)) = (f : Int) := by rw [mul_, wrap_ _ (by omega), hf]
  have e3 : IntKind.u64.wrap ((i : Int) + (f : Int)) = (g : Int) := by rw [add_', wrap_ _ (by omega), hg]
  have HT := fun w W h => Lib.hid (wtimes_ w W k d h hk (by omega))
  have HA := fun w W h => Lib.hid (wadd_ w W (hiOf k d) (loOf k d) t h (by rw [← hh2]; omega))
  have HB := fun w W h => Lib.hid (wabove_ w W h2 l2 g h)
  rw [← hh2, ← hl2] at HA
  have htk : takeOf n d b s now k = if lets n d b s now k then l2 else s := by
    unfold takeOf tOf
    rw [← hi, ← ht]
    cases lets n d b s now k
    · rfl
    · simp only [if_true]; omega
  have hlt : lets n d b s now k = !decide (0 < h2 ∨ g < l2) := by
    unfold lets
    rw [aOf_eq, ← hi, ← hf, ← decide_not]
    apply decide_eq_decide.2
    omega
  rw [htk, hlt]
  have HMX := Lib.hid (show (s < i ∧ t = i) ∨ (¬ s < i ∧ t = s) from by omega)
  clear v1 v2 n0 n1 d0 d1 b0 b1 hp hbd hkd hi hf hg ht hh2 hl2 htk hlt hnow hs hk
  generalize hiOf k d = h1 at *
  generalize loOf k d = l1 at *
  generalize decide (0 < h2 ∨ g < l2) = ab at *
  unfold bv
  rcases HMX.out with ⟨hc, ht⟩ | ⟨hc, ht⟩
  · have qc : (s : Int) < (i : Int) := by omega
    rw [ht] at HA
    clear hc ht HMX
    go_enter Try.func44, Try.ntmps44
    go_wp2_with fail
    have W0 : Wi ((w.alloc (.cells #[.int .u64 (n : Int), .int .u64 (d : Int), .int .u64 (b : Int)] 24)).alloc (.cells #[.int .u64 0, .int .u64 (k : Int)] 132)) (w.heap.size + 1) 0 k := by
      have := Blk.new (w.alloc (.cells #[.int .u64 (n : Int), .int .u64 (d : Int), .int .u64 (b : Int)] 24)) 132 #[.int .u64 0, .int .u64 (k : Int)]
      rw [World.size_alloc] at this
      exact this
    have B0 := (Blk.new w 24 #[.int .u64 (n : Int), .int .u64 (d : Int), .int .u64 (b : Int)]).alloc (.cells #[.int .u64 0, .int .u64 (k : Int)] 132)
    refine (HT _ _ W0).out.mono ?_
    rintro e w1 ⟨rfl, k1, W1⟩
    have B1 := Blk.keeps B0 k1 (by omega)
    have K1 : Hid (∀ S, Keeps S w w1) := Lib.hid (fun S => glue_ (((Keeps.refl S w).alloc _).alloc _) k1 (fun x hx hxe => by omega))
    obtain ⟨Z, hZ⟩ : ∃ Z, Z = w.heap.size + 1 := ⟨_, rfl⟩
    rw [← hZ] at W1 ⊢
    have HZ := Lib.hid hZ
    clear W0 B0 k1 HT hZ
    have HW1 := Lib.hid W1
    have HB1 := Lib.hid B1
    clear W1 B1
    go_wp2_with fail
    refine (HA _ _ HW1.out).out.mono ?_
    rintro e w2 ⟨rfl, k2, W2⟩
    have B2 := Blk.keeps HB1.out k2 (by have := HZ.out; omega)
    have K2 : Hid (∀ S, Keeps S w w2) := Lib.hid (fun S => glue_ (K1.out S) k2 (fun x hx hxe => by have := HZ.out; omega))
    have x1 : w2.cell? ⟨w.heap.size, 1, none⟩ = some (.int .u64 (d : Int)) := by rw [B2.cell]; rfl
    have x2 : w2.cell? ⟨w.heap.size, 2, none⟩ = some (.int .u64 (b : Int)) := by rw [B2.cell]; rfl
    have HW2 := Lib.hid W2
    clear W2 B2 k2 K1 HA HW1 HB1
    go_wp2_with fail
    refine (HB _ _ HW2.out).out.mono ?_
    rintro e w3 ⟨rfl, k3⟩
    have W3 := Blk.keeps HW2.out (k3 (fun _ => False)) (fun z => z)
    have K3 : Hid (∀ S, Keeps S w w3) := Lib.hid (fun S => (K2.out S).trans (k3 S))
    have y1 : w3.cell? ⟨Z, 1, none⟩ = some (.int .u64 (l2 : Int)) := by rw [W3.cell]; rfl
    clear W3 k3 K2 x1 x2 HB HW2
    cases ab
    · go_wp2
      try rw [Exit.noGoto_ret]
      go_ret2
      exact ⟨rfl, K3.out⟩
    · go_wp2
      try rw [Exit.noGoto_ret]
      go_ret2
      exact ⟨rfl, K3.out⟩
  · have qc : ¬ (s : Int) < (i : Int) := by omega
    rw [ht] at HA
    clear hc ht HMX
    go_enter Try.func44, Try.ntmps44
    go_wp2_with fail
    have W0 : Wi ((w.alloc (.cells #[.int .u64 (n : Int), .int .u64 (d : Int), .int .u64 (b : Int)] 24)).alloc (.cells #[.int .u64 0, .int .u64 (k : Int)] 132)) (w.heap.size + 1) 0 k := by
      have := Blk.new (w.alloc (.cells #[.int .u64 (n : Int), .int .u64 (d : Int), .int .u64 (b : Int)] 24)) 132 #[.int .u64 0, .int .u64 (k : Int)]
      rw [World.size_alloc] at this
      exact this
    have B0 := (Blk.new w 24 #[.int .u64 (n : Int), .int .u64 (d : Int), .int .u64 (b : Int)]).alloc (.cells #[.int .u64 0, .int .u64 (k : Int)] 132)
    refine (HT _ _ W0).out.mono ?_
    rintro e w1 ⟨rfl, k1, W1⟩
    have B1 := Blk.keeps B0 k1 (by omega)
    have K1 : Hid (∀ S, Keeps S w w1) := Lib.hid (fun S => glue_ (((Keeps.refl S w).alloc _).alloc _) k1 (fun x hx hxe => by omega))
    obtain ⟨Z, hZ⟩ : ∃ Z, Z = w.heap.size + 1 := ⟨_, rfl⟩
    rw [← hZ] at W1 ⊢
    have HZ := Lib.hid hZ
    clear W0 B0 k1 HT hZ
    have HW1 := Lib.hid W1
    have HB1 := Lib.hid B1
    clear W1 B1
    go_wp2_with fail
    refine (HA _ _ HW1.out).out.mono ?_
    rintro e w2 ⟨rfl, k2, W2⟩
    have B2 := Blk.keeps HB1.out k2 (by have := HZ.out; omega)
    have K2 : Hid (∀ S, Keeps S w w2) := Lib.hid (fun S => glue_ (K1.out S) k2 (fun x hx hxe => by have := HZ.out; omega))
    have x1 : w2.cell? ⟨w.heap.size, 1, none⟩ = some (.int .u64 (d : Int)) := by rw [B2.cell]; rfl
    have x2 : w2.cell? ⟨w.heap.size, 2, none⟩ = some (.int .u64 (b : Int)) := by rw [B2.cell]; rfl
    have HW2 := Lib.hid W2
    clear W2 B2 k2 K1 HA HW1 HB1
    go_wp2_with fail
    refine (HB _ _ HW2.out).out.mono ?_
    rintro e w3 ⟨rfl, k3⟩
    have W3 := Blk.keeps HW2.out (k3 (fun _ => False)) (fun z => z)
    have K3 : Hid (∀ S, Keeps S w w3) := Lib.hid (fun S => (K2.out S).trans (k3 S))
    have y1 : w3.cell? ⟨Z, 1, none⟩ = some (.int .u64 (l2 : Int)) := by rw [W3.cell]; rfl
    clear W3 k3 K2 x1 x2 HB HW2
    cases ab
    · go_wp2
      try rw [Exit.noGoto_ret]
      go_ret2
      exact ⟨rfl, K3.out⟩
    · go_wp2
      try rw [Exit.noGoto_ret]
      go_ret2
      exact ⟨rfl, K3.out⟩
set_option maxRecDepth 100000 in
set_option maxHeartbeats 2000000 in
theorem take_ok (s now k : Nat) (he : err n d b now = 0) (hs : s < 18446744073709551616) (hk : k < 18446744073709551616) : Calls Try.prog 31 #[bv n d b, .int .u64 (s : Int), .int .u64 (now : Int), .int .u64 (k : Int)] w fun e w' => e = .returned (.tuple #[.int .u64 ((takeOf n d b s now k : Nat) : Int), .bool (lets n d b s now k), .int .i64 0]) ∧ ∀ S, Keeps S w w' := by
  obtain ⟨hm, hnow⟩ := err_ok he
  have HW := fun w => Lib.hid (wrong_ w n d b now)
  rw [he] at HW
  have HT := fun w => Lib.hid (ptake_ w n d b s now k hm hnow hs hk)
  unfold bv at HW HT ⊢
  clear he hm hnow hs hk
  generalize takeOf n d b s now k = tk at *
  generalize lets n d b s now k = le at *
  go_enter Try.func31, Try.ntmps31
  go_wp2_with fail
  have B0 := Blk.new w 24 #[.int .u64 (n : Int), .int .u64 (d : Int), .int .u64 (b : Int)]
  refine (HW _).out.mono ?_
  rintro e w1 ⟨rfl, k1⟩
  have K1 : Hid (∀ S, Keeps S w w1) := Lib.hid (fun S => ((Keeps.refl S w).alloc _).trans (k1 S))
  have B1 := Blk.keeps B0 (k1 (fun _ => False)) (fun z => z)
  have x0 : w1.cell? ⟨w.heap.size, 0, none⟩ = some (.int .u64 (n : Int)) := by rw [B1.cell]; rfl
  have x1 : w1.cell? ⟨w.heap.size, 1, none⟩ = some (.int .u64 (d : Int)) := by rw [B1.cell]; rfl
  have x2 : w1.cell? ⟨w.heap.size, 2, none⟩ = some (.int .u64 (b : Int)) := by rw [B1.cell]; rfl
  clear k1 B0 B1
  go_wp2_with fail
  refine (HT _).out.mono ?_
  rintro e w2 ⟨rfl, k2⟩
  have K2 : Hid (∀ S, Keeps S w w2) := Lib.hid (fun S => (K1.out S).trans (k2 S))
  clear k2 x0 x1 x2
  go_wp2
  try rw [Exit.noGoto_ret]
  go_ret3
  exact ⟨rfl, K2.out⟩
set_option maxRecDepth 100000 in
set_option maxHeartbeats 1000000 in
theorem take_err (s now k : Nat) (he : ¬ err n d b now = 0) : Calls Try.prog 31 #[bv n d b, .int .u64 (s : Int), .int .u64 (now : Int), .int .u64 (k : Int)] w fun e w' => e = .returned (.tuple #[.int .u64 0, .bool false, .int .i64 (err n d b now)]) ∧ ∀ S, Keeps S w w' := by
  have HW := fun w => Lib.hid (wrong_ w n d b now)
  unfold bv at HW ⊢
  generalize err n d b now = er at *
  have q1 : (er == 0) = false := by simp; omega
  have q2 : (er != 0) = true := by simp; omega
  go_enter Try.func31, Try.ntmps31
  go_wp2_with fail
  refine (HW _).out.mono ?_
  rintro e w1 ⟨rfl, k1⟩
  have K1 : Hid (∀ S, Keeps S w w1) := Lib.hid (fun S => ((Keeps.refl S w).alloc _).trans (k1 S))
  clear k1
  go_wp2
  try rw [Exit.noGoto_ret]
  go_ret3
  exact ⟨rfl, K1.out⟩
end
section
variable (w : World) (n d b : Nat)
set_option maxRecDepth 100000 in
set_option maxHeartbeats 1000000 in
theorem level_err (s now : Nat) (he : ¬ err n d b now = 0) : Calls Try.prog 33 #[bv n d b, .int .u64 (s : Int), .int .u64 (now : Int)] w fun e w' => e = .returned (.tuple #[.int .u64 0, .int .i64 (err n d b now)]) ∧ ∀ S, Keeps S w w' := by
  have HW := fun w => Lib.hid (wrong_ w n d b now)
  unfold bv at HW ⊢
  generalize err n d b now = er at *
  have q1 : (er == 0) = false := by simp; omega
  have q2 : (er != 0) = true := by simp; omega
  go_enter Try.func33, Try.ntmps33
  go_wp2_with fail
  refine (HW _).out.mono ?_
  rintro e w1 ⟨rfl, k1⟩
  have K1 : Hid (∀ S, Keeps S w w1) := Lib.hid (fun S => ((Keeps.refl S w).alloc _).trans (k1 S))
  clear k1
  go_wp2
  try rw [Exit.noGoto_ret]
  go_ret2
  exact ⟨rfl, K1.out⟩
set_option maxRecDepth 100000 in
set_option maxHeartbeats 4000000 in
theorem level_ok (s now : Nat) (he : err n d b now = 0) (hs : s < 18446744073709551616) : Calls Try.prog 33 #[bv n d b, .int .u64 (s : Int), .int .u64 (now : Int)] w fun e w' => e = .returned (.tuple #[.int .u64 ((level n d b s now : Nat) : Int), .int .i64 0]) ∧ ∀ S, Keeps S w w' := by
  have HW := fun w => Lib.hid (wrong_ w n d b now)
  rw [he] at HW
  obtain ⟨⟨⟨n0, n1⟩, ⟨d0, d1⟩, b0, b1⟩, hnow⟩ := err_ok he
  have hp : now * n ≤ 1099511627776 * 65536 := Nat.mul_le_mul hnow n1
  have hbd : b * d ≤ 1048576 * 65536 := Nat.mul_le_mul b1 d1
  obtain ⟨i, hi⟩ : ∃ x, x = now * n := ⟨_, rfl⟩
  obtain ⟨f, hf⟩ : ∃ x, x = b * d := ⟨_, rfl⟩
  have e1 : IntKind.u64.wrap ((now : Int) * (n : Int)) = (i : Int) := by rw [mul_, wrap_ _ (by omega), hi]
  have e2 : IntKind.u64.wrap ((b : Int) * (d : Int)) = (f : Int) := by rw [mul_, wrap_ _ (by omega), hf]
  obtain ⟨ah, hah⟩ : ∃ x, x = s - i := ⟨_, rfl⟩
  obtain ⟨v, hv⟩ : ∃ x, x = f - ah := ⟨_, rfl⟩
  obtain ⟨q, hq⟩ : ∃ x, x = v / d := ⟨_, rfl⟩
  have hl : level n d b s now = q := by
    unfold level
    rw [aOf_eq, ← hi, ← hf, hq, hv, hah]
  rw [hl]
  have hvq : v / d ≤ v := Nat.div_le_self _ _
  have e5 : IntKind.u64.wrap ((v : Int).tdiv (d : Int)) = (q : Int) := by
    rw [Int.tdiv_eq_ediv_of_nonneg (Int.natCast_nonneg _), ← Int.natCast_ediv, wrap_ _ (by omega), hq]
  have e6 : IntKind.u64.wrap (v : Int) = (v : Int) := wrap_ _ (by omega)
  have hd1 : ¬ (d : Int) = 0 := by omega
  have hd2 : ((d : Int) == 0) = false := by simp; omega
  have hd3 : ¬ d = 0 := by omega
  have HMX := Lib.hid (show (s < i ∧ f = v) ∨ (¬ s < i ∧ f < ah ∧ v = 0) ∨ (¬ s < i ∧ ¬ f < ah ∧ IntKind.u64.wrap ((s : Int) - (i : Int)) = (ah : Int) ∧ IntKind.u64.wrap ((f : Int) - (ah : Int)) = (v : Int)) from by
    rw [IntKind.wrap_u64, IntKind.wrap_u64]; clear e5; omega)
  have HA := Lib.hid (show ¬ s < i → IntKind.u64.wrap ((s : Int) - (i : Int)) = (ah : Int) from fun h => by rw [IntKind.wrap_u64]; clear e5; omega)
  have hq0 : v = 0 → q = 0 := fun h => by rw [hq, h, Nat.zero_div]
  have HQ0 := Lib.hid hq0
  have e5' : IntKind.u64.wrap ((v : Int) / (d : Int)) = (q : Int) := by rw [← Int.natCast_ediv, wrap_ _ (by omega), hq]
  have E5 := Lib.hid (And.intro e5 (And.intro e6 e5'))
  unfold bv at HW ⊢
  clear he n0 n1 d0 d1 b0 b1 hp hbd hnow hi hf hah hv hq hvq hl hs e5 e6 hq0 e5'
  rcases HMX.out with ⟨hc, hfv⟩ | ⟨hc, hg, hv⟩ | ⟨hc, hg, e3, e4⟩
  · have qc : (s : Int) < (i : Int) := by omega
    rw [hfv] at e2
    clear hc HMX HA hfv
    go_enter Try.func33, Try.ntmps33
    go_wp2_with fail
    have B0 := Blk.new w 24 #[.int .u64 (n : Int), .int .u64 (d : Int), .int .u64 (b : Int)]
    refine (HW _).out.mono ?_
    rintro e w1 ⟨rfl, k1⟩
    have K1 : Hid (∀ S, Keeps S w w1) := Lib.hid (fun S => ((Keeps.refl S w).alloc _).trans (k1 S))
    have B1 := Blk.keeps B0 (k1 (fun _ => False)) (fun z => z)
    have x0 : w1.cell? ⟨w.heap.size, 0, none⟩ = some (.int .u64 (n : Int)) := by rw [B1.cell]; rfl
    have x1 : w1.cell? ⟨w.heap.size, 1, none⟩ = some (.int .u64 (d : Int)) := by rw [B1.cell]; rfl
    have x2 : w1.cell? ⟨w.heap.size, 2, none⟩ = some (.int .u64 (b : Int)) := by rw [B1.cell]; rfl
    clear k1 B0 B1
    go_wp2_with fail
    go_region_held3 (fun w' => w'.cell? ⟨w.heap.size, 0, none⟩ = some (.int .u64 (n : Int)) ∧ w'.cell? ⟨w.heap.size, 1, none⟩ = some (.int .u64 (d : Int)) ∧ w'.cell? ⟨w.heap.size, 2, none⟩ = some (.int .u64 (b : Int))) (first | exact ⟨x0, x1, x2⟩) ((first | fail))
    have K2 : Hid (∀ S, Keeps S w w1.drew) := Lib.hid (fun S => (K1.out S).drew)
    have y0 : w1.drew.cell? ⟨w.heap.size, 0, none⟩ = some (.int .u64 (n : Int)) := x0
    have y1 : w1.drew.cell? ⟨w.heap.size, 1, none⟩ = some (.int .u64 (d : Int)) := x1
    have y2 : w1.drew.cell? ⟨w.heap.size, 2, none⟩ = some (.int .u64 (b : Int)) := x2
    clear x0 x1 x2 K1
    generalize w1.drew = w2 at *
    go_wp2
    try rw [Exit.noGoto_ret]
    go_ret2
    exact ⟨by first | (rw [E5.out.2.1, E5.out.1]; rfl) | (rw [E5.out.2.1, E5.out.2.2]; rfl) | (rw [E5.out.1]; rfl) | (rw [E5.out.2.2]; rfl), K2.out⟩
  · have qc : ¬ (s : Int) < (i : Int) := by omega
    have e3 := HA.out hc
    have qg : (f : Int) < (ah : Int) := by omega
    have hz := HQ0.out hv
    rw [hz]
    clear hc hg hv HMX HA hz HQ0 E5
    go_enter Try.func33, Try.ntmps33
    go_wp2_with fail
    have B0 := Blk.new w 24 #[.int .u64 (n : Int), .int .u64 (d : Int), .int .u64 (b : Int)]
    refine (HW _).out.mono ?_
    rintro e w1 ⟨rfl, k1⟩
    have K1 : Hid (∀ S, Keeps S w w1) := Lib.hid (fun S => ((Keeps.refl S w).alloc _).trans (k1 S))
    have B1 := Blk.keeps B0 (k1 (fun _ => False)) (fun z => z)
    have x0 : w1.cell? ⟨w.heap.size, 0, none⟩ = some (.int .u64 (n : Int)) := by rw [B1.cell]; rfl
    have x1 : w1.cell? ⟨w.heap.size, 1, none⟩ = some (.int .u64 (d : Int)) := by rw [B1.cell]; rfl
    have x2 : w1.cell? ⟨w.heap.size, 2, none⟩ = some (.int .u64 (b : Int)) := by rw [B1.cell]; rfl
    clear k1 B0 B1
    go_wp2_with fail
    go_region_held3 (fun w' => w'.cell? ⟨w.heap.size, 0, none⟩ = some (.int .u64 (n : Int)) ∧ w'.cell? ⟨w.heap.size, 1, none⟩ = some (.int .u64 (d : Int)) ∧ w'.cell? ⟨w.heap.size, 2, none⟩ = some (.int .u64 (b : Int))) (first | exact ⟨x0, x1, x2⟩) ((first | fail))
    have K2 : Hid (∀ S, Keeps S w w1.drew) := Lib.hid (fun S => (K1.out S).drew)
    have y0 : w1.drew.cell? ⟨w.heap.size, 0, none⟩ = some (.int .u64 (n : Int)) := x0
    have y1 : w1.drew.cell? ⟨w.heap.size, 1, none⟩ = some (.int .u64 (d : Int)) := x1
    have y2 : w1.drew.cell? ⟨w.heap.size, 2, none⟩ = some (.int .u64 (b : Int)) := x2
    clear x0 x1 x2 K1
    generalize w1.drew = w2 at *
    go_wp2
    try rw [Exit.noGoto_ret]
    go_ret2
    exact ⟨by first | rfl | simp, K2.out⟩
  · have qc : ¬ (s : Int) < (i : Int) := by omega
    have qg : ¬ (f : Int) < (ah : Int) := by omega
    clear hc hg HMX HA HQ0
    go_enter Try.func33, Try.ntmps33
    go_wp2_with fail
    have B0 := Blk.new w 24 #[.int .u64 (n : Int), .int .u64 (d : Int), .int .u64 (b : Int)]
    refine (HW _).out.mono ?_
    rintro e w1 ⟨rfl, k1⟩
    have K1 : Hid (∀ S, Keeps S w w1) := Lib.hid (fun S => ((Keeps.refl S w).alloc _).trans (k1 S))
    have B1 := Blk.keeps B0 (k1 (fun _ => False)) (fun z => z)
    have x0 : w1.cell? ⟨w.heap.size, 0, none⟩ = some (.int .u64 (n : Int)) := by rw [B1.cell]; rfl
    have x1 : w1.cell? ⟨w.heap.size, 1, none⟩ = some (.int .u64 (d : Int)) := by rw [B1.cell]; rfl
    have x2 : w1.cell? ⟨w.heap.size, 2, none⟩ = some (.int .u64 (b : Int)) := by rw [B1.cell]; rfl
    clear k1 B0 B1
    go_wp2_with fail
    go_region_held3 (fun w' => w'.cell? ⟨w.heap.size, 0, none⟩ = some (.int .u64 (n : Int)) ∧ w'.cell? ⟨w.heap.size, 1, none⟩ = some (.int .u64 (d : Int)) ∧ w'.cell? ⟨w.heap.size, 2, none⟩ = some (.int .u64 (b : Int))) (first | exact ⟨x0, x1, x2⟩) ((first | fail))
    have K2 : Hid (∀ S, Keeps S w w1.drew) := Lib.hid (fun S => (K1.out S).drew)
    have y0 : w1.drew.cell? ⟨w.heap.size, 0, none⟩ = some (.int .u64 (n : Int)) := x0
    have y1 : w1.drew.cell? ⟨w.heap.size, 1, none⟩ = some (.int .u64 (d : Int)) := x1
    have y2 : w1.drew.cell? ⟨w.heap.size, 2, none⟩ = some (.int .u64 (b : Int)) := x2
    clear x0 x1 x2 K1
    generalize w1.drew = w2 at *
    go_wp2
    try rw [Exit.noGoto_ret]
    go_ret2
    exact ⟨by first | (rw [E5.out.1]; rfl) | (rw [E5.out.2.2]; rfl), K2.out⟩
end
end Go.Proofs.Ytgenblefbddilaa.bp
