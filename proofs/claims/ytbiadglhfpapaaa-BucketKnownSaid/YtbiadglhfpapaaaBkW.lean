/-
  patchbayref12's wide numbers: two words.
-/
import Derived.Test.YtbiadglhfpapaaaMzK2
import Derived.Test.YtbiadglhfpapaaaProg
import Derived.WalkLawsBesides
import Derived.WalkSpells
import Derived.Outline
import Derived.Lib.Hide
import Derived.IntWalk
import Derived.WalkMore
set_option linter.unusedVariables false
namespace Go.Proofs.Ytbiadglhfpapaaa.bk
open Go.RowKit Go.Proofs.Ytbiadglhfpapaaa.oc Go.Proofs.Ytbiadglhfpapaaa.mz
/-- a wide number -/
def wd (x : Nat) : Value := .agg #[.int .u64 ((x / 18446744073709551616 : Nat) : Int), .int .u64 ((x % 18446744073709551616 : Nat) : Int)]
theorem wd_of {x a b : Nat} (h : x = a * 18446744073709551616 + b) (hb : b < 18446744073709551616) : wd x = .agg #[.int .u64 (a : Int), .int .u64 (b : Int)] := by
  unfold wd
  rw [show x / 18446744073709551616 = a by omega, show x % 18446744073709551616 = b by omega]
theorem res_two {w' : World} {R : Nat} {ty : TypeId} {hi lo : Int} {x : Nat} (b : Blk w' R ty [.int .u64 hi, .int .u64 lo]) (h1 : hi = ((x / 18446744073709551616 : Nat) : Int)) (h2 : lo = ((x % 18446744073709551616 : Nat) : Int)) :
    w'.cell? ⟨R, 0, none⟩ = some (.int .u64 ((x / 18446744073709551616 : Nat) : Int)) ∧ w'.cell? ⟨R, 1, none⟩ = some (.int .u64 ((x % 18446744073709551616 : Nat) : Int)) := by
  subst h1; subst h2
  exact ⟨by rw [b.cell]; rfl, by rw [b.cell]; rfl⟩
theorem tmod_pos (x : Int) (m : Int) (h : 0 ≤ x) : x.tmod m = x % m := Int.tmod_eq_emod_of_nonneg h
theorem times_core (p1 p2 p3 p4 : Nat) (h1 : p1 ≤ 18446744065119617025) (h2 : p2 ≤ 18446744065119617025) (h3 : p3 ≤ 18446744065119617025) (h4 : p4 ≤ 18446744065119617025) :
    let mid := p2 + p4 / 4294967296
    let nx := p3 + mid % 4294967296
    p1 * 18446744073709551616 + (p2 + p3) * 4294967296 + p4 = (p1 + mid / 4294967296 + nx / 4294967296) * 18446744073709551616 + ((nx % 4294967296) * 4294967296 + p4 % 4294967296) := by
  intro mid nx
  omega
theorem prod_le {x y : Nat} (hx : x < 4294967296) (hy : y < 4294967296) : x * y ≤ 18446744065119617025 := by
  have := Nat.mul_le_mul (show x ≤ 4294967295 by omega) (show y ≤ 4294967295 by omega)
  omega
theorem prod_split (a b : Nat) : a * b = (a / 4294967296) * (b / 4294967296) * 18446744073709551616 + ((a / 4294967296) * (b % 4294967296) + (a % 4294967296) * (b / 4294967296)) * 4294967296 + (a % 4294967296) * (b % 4294967296) := by
  have ha : a = (a / 4294967296) * 4294967296 + a % 4294967296 := by omega
  have hb : b = (b / 4294967296) * 4294967296 + b % 4294967296 := by omega
  generalize a / 4294967296 = x at *
  generalize a % 4294967296 = y at *
  generalize b / 4294967296 = u at *
  generalize b % 4294967296 = v at *
  subst ha; subst hb
  rw [Nat.add_mul, Nat.mul_add, Nat.mul_add, Nat.add_mul]
  have e1 : x * 4294967296 * (u * 4294967296) = x * u * 18446744073709551616 := by
    rw [Nat.mul_mul_mul_comm]
  have e2 : x * 4294967296 * v = x * v * 4294967296 := by rw [Nat.mul_right_comm]
  have e3 : y * (u * 4294967296) = y * u * 4294967296 := by rw [Nat.mul_assoc]
  omega
theorem times_eq (a b : Nat) (ha : a < 18446744073709551616) (hb : b < 18446744073709551616) :
    IntKind.u64.wrap (IntKind.u64.wrap (IntKind.u64.wrap (((a : Int) / 4294967296) * ((b : Int) / 4294967296)) + IntKind.u64.wrap (IntKind.u64.wrap (((a : Int) / 4294967296) * ((b : Int) % 4294967296)) + IntKind.u64.wrap (((a : Int) % 4294967296) * ((b : Int) % 4294967296)) / 4294967296) / 4294967296) + IntKind.u64.wrap (IntKind.u64.wrap (((a : Int) % 4294967296) * ((b : Int) / 4294967296)) + (IntKind.u64.wrap (IntKind.u64.wrap (((a : Int) / 4294967296) * ((b : Int) % 4294967296)) + IntKind.u64.wrap (((a : Int) % 4294967296) * ((b : Int) % 4294967296)) / 4294967296)).tmod 4294967296) / 4294967296) = ((a * b / 18446744073709551616 : Nat) : Int) ∧ IntKind.u64.wrap (IntKind.u64.wrap (IntKind.u64.wrap (IntKind.u64.wrap (((a : Int) % 4294967296) * ((b : Int) / 4294967296)) + (IntKind.u64.wrap (IntKind.u64.wrap (((a : Int) / 4294967296) * ((b : Int) % 4294967296)) + IntKind.u64.wrap (((a : Int) % 4294967296) * ((b : Int) % 4294967296)) / 4294967296)).tmod 4294967296) * 4294967296) + (IntKind.u64.wrap (((a : Int) % 4294967296) * ((b : Int) % 4294967296))).tmod 4294967296) = ((a * b % 18446744073709551616 : Nat) : Int) := by
  have hx : a / 4294967296 < 4294967296 := by omega
  have hy : a % 4294967296 < 4294967296 := by omega
  have hu : b / 4294967296 < 4294967296 := by omega
  have hv : b % 4294967296 < 4294967296 := by omega
  have b1 := prod_le hx hu
  have b2 := prod_le hx hv
  have b3 := prod_le hy hu
  have b4 := prod_le hy hv
  have hs := prod_split a b
  have hc := times_core _ _ _ _ b1 b2 b3 b4
  have c1 : ((a : Int) / 4294967296) * ((b : Int) / 4294967296) = (((a / 4294967296) * (b / 4294967296) : Nat) : Int) := by
    rw [Int.natCast_mul]
    congr 1 <;> omega
  have c2 : ((a : Int) / 4294967296) * ((b : Int) % 4294967296) = (((a / 4294967296) * (b % 4294967296) : Nat) : Int) := by
    rw [Int.natCast_mul]
    congr 1 <;> omega
  have c3 : ((a : Int) % 4294967296) * ((b : Int) / 4294967296) = (((a % 4294967296) * (b / 4294967296) : Nat) : Int) := by
    rw [Int.natCast_mul]
    congr 1 <;> omega
  have c4 : ((a : Int) % 4294967296) * ((b : Int) % 4294967296) = (((a % 4294967296) * (b % 4294967296) : Nat) : Int) := by
    rw [Int.natCast_mul]
    congr 1 <;> omega
  rw [c1, c2, c3, c4]
  generalize (a / 4294967296) * (b / 4294967296) = p1 at *
  generalize (a / 4294967296) * (b % 4294967296) = p2 at *
  generalize (a % 4294967296) * (b / 4294967296) = p3 at *
  generalize (a % 4294967296) * (b % 4294967296) = p4 at *
  generalize a * b = z at *
  clear c1 c2 c3 c4 hx hy hu hv ha hb
  simp only [wrap_u64]
  have w1 : (p1 : Int) % 18446744073709551616 = p1 := by omega
  have w2 : (p2 : Int) % 18446744073709551616 = p2 := by omega
  have w3 : (p3 : Int) % 18446744073709551616 = p3 := by omega
  have w4 : (p4 : Int) % 18446744073709551616 = p4 := by omega
  rw [w1, w2, w3, w4]
  have w5 : ((p2 : Int) + p4 / 4294967296) % 18446744073709551616 = ((p2 + p4 / 4294967296 : Nat) : Int) := by omega
  rw [w5]
  rw [tmod_pos _ _ (show (0 : Int) ≤ ((p2 + p4 / 4294967296 : Nat) : Int) by omega), tmod_pos _ _ (show (0 : Int) ≤ (p4 : Int) by omega)]
  simp only at hc
  generalize p2 + p4 / 4294967296 = m at *
  have w6 : ((p3 : Int) + (m : Int) % 4294967296) % 18446744073709551616 = ((p3 + m % 4294967296 : Nat) : Int) := by omega
  rw [w6]
  generalize p3 + m % 4294967296 = nx at *
  rw [← hs] at hc
  constructor <;> omega
section
variable (w : World)
set_option maxRecDepth 100000 in
set_option maxHeartbeats 1000000 in
theorem word_ (a : Nat) (ha : a < 18446744073709551616) : Calls Try.prog 49 #[.int .u64 (a : Int)] w fun e w' => e = .returned (wd a) ∧ ∀ S, Keeps S w w' := by
  have h2 : (a : Int) = ((a % 18446744073709551616 : Nat) : Int) := by omega
  have h1 : (0 : Int) = ((a / 18446744073709551616 : Nat) : Int) := by omega
  have HR := Lib.hid (res_two (Blk.new w 60 #[.int .u64 0, .int .u64 (a : Int)]) h1 h2)
  clear ha h1 h2
  go_enter Try.func49, Try.ntmps49
  go_wp2
  obtain ⟨r0, r1⟩ := HR.out
  refine bodyPost_ret (v := wd a) (by simp [results, Try.results49, go_sem, r0, r1, wd]) rfl ⟨rfl, fun S => (Keeps.refl S w).alloc _⟩
set_option maxRecDepth 100000 in
set_option maxHeartbeats 1000000 in
theorem times_ (a b : Nat) (ha : a < 18446744073709551616) (hb : b < 18446744073709551616) : Calls Try.prog 37 #[.int .u64 (a : Int), .int .u64 (b : Int)] w fun e w' => e = .returned (wd (a * b)) ∧ ∀ S, Keeps S w w' := by
  have HE := Lib.hid (times_eq a b ha hb)
  clear ha hb
  go_enter Try.func37, Try.ntmps37
  go_wp2
  obtain ⟨r0, r1⟩ := res_two (Blk.new w 60 #[.int .u64 (IntKind.u64.wrap (IntKind.u64.wrap (IntKind.u64.wrap (((a : Int) / 4294967296) * ((b : Int) / 4294967296)) + IntKind.u64.wrap (IntKind.u64.wrap (((a : Int) / 4294967296) * ((b : Int) % 4294967296)) + IntKind.u64.wrap (((a : Int) % 4294967296) * ((b : Int) % 4294967296)) / 4294967296) / 4294967296) + IntKind.u64.wrap (IntKind.u64.wrap (((a : Int) % 4294967296) * ((b : Int) / 4294967296)) + (IntKind.u64.wrap (IntKind.u64.wrap (((a : Int) / 4294967296) * ((b : Int) % 4294967296)) + IntKind.u64.wrap (((a : Int) % 4294967296) * ((b : Int) % 4294967296)) / 4294967296)).tmod 4294967296) / 4294967296)), .int .u64 (IntKind.u64.wrap (IntKind.u64.wrap (IntKind.u64.wrap (IntKind.u64.wrap (((a : Int) % 4294967296) * ((b : Int) / 4294967296)) + (IntKind.u64.wrap (IntKind.u64.wrap (((a : Int) / 4294967296) * ((b : Int) % 4294967296)) + IntKind.u64.wrap (((a : Int) % 4294967296) * ((b : Int) % 4294967296)) / 4294967296)).tmod 4294967296) * 4294967296) + (IntKind.u64.wrap (((a : Int) % 4294967296) * ((b : Int) % 4294967296))).tmod 4294967296))]) HE.out.1 HE.out.2
  refine bodyPost_ret (v := wd (a * b)) (by simp [results, Try.results37, go_sem, r0, r1, wd]) rfl ⟨rfl, fun S => (Keeps.refl S w).alloc _⟩
end
end Go.Proofs.Ytbiadglhfpapaaa.bk
