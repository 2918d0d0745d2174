/-
  patchbaylaw09's call.
-/
import Derived.Test.YtebjmmckejbklaaRf9b
import Derived.Test.YtebjmmckejbklaaMzWith
set_option linter.unusedVariables false
namespace Go.Proofs.Ytebjmmckejbklaa.rf9
open Go.RowKit Go.Proofs.Ytebjmmckejbklaa.oc Go.Proofs.Ytebjmmckejbklaa.mz Go.Proofs.Ytebjmmckejbklaa.ep
/-- the code of a call of kind r -/
def codeOf (n r : Nat) (s : Int) (q : Nat) : List Ins := if r = 0 then nowCode else if r = 1 then (if there n s then pinCode s.toNat else failsCode 1 5) else if r = 2 then (if there n s then unpinCode s.toNat else failsCode 0 5) else if r = 3 then moveCode n else safeCode q
theorem out_code (n r : Nat) (s : Int) (q : Nat) (ws : List Nat) : (outOf n r s q ws).code = codeOf n r s q := by
  simp only [outOf, codeOf]
  (repeat' split) <;> rfl
theorem there_is {n k : Nat} (h : k < n) : there n (k : Int) = true := by unfold there; simp; omega
theorem there_low {n : Nat} {s : Int} (h : s < 0) : there n s = false := by unfold there; simp; omega
theorem there_high {n : Nat} {s : Int} (h : (n : Int) ≤ s) : there n s = false := by unfold there; simp; omega
theorem do_blk (kd sl : Int) (q : Nat) (w : World) : ∃ w1, w1 = (w.alloc (.cells #[.int .i64 kd, .int .i64 sl, .int .u64 (q : Int)] 40)).alloc (.cells #[.slice none 0 0, .slice none 0 0] 46) ∧ (∀ S, Keeps S w w1) ∧ Blk w1 w.heap.size 40 [.int .i64 kd, .int .i64 sl, .int .u64 (q : Int)] ∧ Blk w1 (w.heap.size + 1) 46 [.slice none 0 0, .slice none 0 0] := by
  have b2 := Blk.new (w.alloc (.cells #[.int .i64 kd, .int .i64 sl, .int .u64 (q : Int)] 40)) 46 #[.slice none 0 0, .slice none 0 0]
  rw [World.size_alloc] at b2
  exact ⟨_, rfl, fun S => ((Keeps.refl _ w).alloc _).alloc _, (Blk.new w _ _).alloc _, b2⟩
theorem call_end {w w1 w2 : World} {code : List Ins} {CA DA : Option Addr} {cc dc : Nat} (k1 : ∀ S, Keeps S w w1) (bc : Blk w1 (w.heap.size + 1) 46 [.slice none 0 0, .slice none 0 0]) (k2 : ∀ S, Keeps S w1 w2)
    (hb : ∀ w'', Keeps (fun b => b < w1.heap.size) w2 w'' → IsCode w'' w''.heap.size (.slice CA code.length cc) code ∧ IsData w'' w''.heap.size (.slice DA 0 dc) []) :
    CallMade w code (.returned (.agg #[.slice CA code.length cc, .slice DA 0 dc])) ((w2.setCell ⟨w.heap.size + 1, 0, none⟩ (.slice CA code.length cc)).setCell ⟨w.heap.size + 1, 1, none⟩ (.slice DA 0 dc)) := by
  have bc2 := Blk.keeps bc (k2 (fun _ => False)) (fun z => z)
  obtain ⟨r0, r1, hk⟩ := mz.stored (u := .slice CA code.length cc) (v := .slice DA 0 dc) bc2
  have hsz : w.heap.size + 1 < w1.heap.size := bc.lt
  refine ⟨_, _, rfl, fun w'' kk => hb w'' ((hk.mono (fun b _ e => by omega)).trans (kk.mono (fun b _ z => by omega))), fun S => ?_⟩
  have kw := ((k1 S).trans (k2 S))
  exact ⟨Nat.le_trans kw.size hk.size, fun b hb hs => by rw [hk.block b (Nat.lt_of_lt_of_le hb kw.size) (by omega), kw.block b hb hs], kw.same.trans hk.same⟩
section
variable (n q : Nat) (kd sl : Int) (w : World)
set_option maxRecDepth 100000 in
set_option maxHeartbeats 2000000 in
theorem call_0is (hn : n ≤ 16) (h0 : 1 ≤ n) (hr : kd % 5 = 0) (h1 : -9223372036854775808 ≤ kd) (h2 : kd ≤ 9223372036854775807) (k : Nat) (hk : k < n) (hsl : sl = (k : Int)) :
    Calls Try.prog 11 #[.int .i64 (n : Int), .agg #[.int .i64 kd, .int .i64 sl, .int .u64 (q : Int)]] w (CallMade w (codeOf n 0 sl q)) := by
  obtain ⟨w1, hw1, k1, bD, bC⟩ := do_blk kd sl q w
  have d0 : w1.cell? ⟨w.heap.size, 0, none⟩ = some (.int .i64 kd) := by rw [bD.cell]; rfl
  have d1 : w1.cell? ⟨w.heap.size, 1, none⟩ = some (.int .i64 sl) := by rw [bD.cell]; rfl
  have d2 : w1.cell? ⟨w.heap.size, 2, none⟩ = some (.int .u64 (q : Int)) := by rw [bD.cell]; rfl
  have HWI := Lib.hid (within_ kd 5 w1 (by omega) (by omega) h1 h2)
  have hc5 : ((5 : Nat) : Int) = 5 := rfl
  rw [hc5, hr] at HWI
  subst hsl
  have s0 : (0 : Int) ≤ (k : Int) := by omega
  have s1 : (k : Int) < (n : Int) := by omega
  have HP := Lib.hid (now_code w1)
  have hcode : codeOf n 0 (k : Int) q = nowCode := by simp [codeOf]
  rw [hcode]
  generalize nowCode = code at *
  have HW := Lib.hid hw1
  have K1 : Hid (∀ S, Keeps S w w1) := Lib.hid k1
  have BC := Lib.hid bC
  clear hw1 k1 bD bC hc5 hr h1 h2 hn h0 hcode hk
  go_enter Try.func11, Try.ntmps11
  go_wp2_with fail
  rw [← HW.out]
  go_wp2_with fail
  refine HWI.out.mono ?_
  rintro e w' ⟨rfl, rfl⟩
  go_wp2_with fail
  refine HP.out.mono ?_
  rintro e w2 ⟨cv, dv, rfl, hb, k2⟩
  obtain ⟨⟨CA, cc, hcv, _⟩, ⟨DA, dc, hdv, _⟩⟩ := hb w2 (Keeps.refl _ _)
  subst hcv
  subst hdv
  have bC2 := Blk.keeps BC.out (k2 (fun _ => False)) (fun z => z)
  have f0 := bC2.frozen 0
  have f1 := bC2.frozen 1
  have x0 : w2.cell? ⟨w.heap.size + 1, 0, none⟩ = some (.slice none 0 0) := by rw [bC2.cell]; rfl
  have x1 : w2.cell? ⟨w.heap.size + 1, 1, none⟩ = some (.slice none 0 0) := by rw [bC2.cell]; rfl
  have HB := Lib.hid (call_end K1.out BC.out k2 hb)
  have BC2 := Lib.hid bC2
  clear hb k2 bC2
  go_wp2_with fail
  obtain ⟨r0, r1, hk⟩ := mz.stored (u := .slice CA code.length cc) (v := .slice DA 0 dc) BC2.out
  exact bodyPost_ret (v := .agg #[.slice CA code.length cc, .slice DA 0 dc]) (by simp [results, Try.results11, go_sem, r0, r1]) rfl HB.out
set_option maxRecDepth 100000 in
set_option maxHeartbeats 2000000 in
theorem call_0low (hn : n ≤ 16) (h0 : 1 ≤ n) (hr : kd % 5 = 0) (h1 : -9223372036854775808 ≤ kd) (h2 : kd ≤ 9223372036854775807) (hsl : sl < 0) :
    Calls Try.prog 11 #[.int .i64 (n : Int), .agg #[.int .i64 kd, .int .i64 sl, .int .u64 (q : Int)]] w (CallMade w (codeOf n 0 sl q)) := by
  obtain ⟨w1, hw1, k1, bD, bC⟩ := do_blk kd sl q w
  have d0 : w1.cell? ⟨w.heap.size, 0, none⟩ = some (.int .i64 kd) := by rw [bD.cell]; rfl
  have d1 : w1.cell? ⟨w.heap.size, 1, none⟩ = some (.int .i64 sl) := by rw [bD.cell]; rfl
  have d2 : w1.cell? ⟨w.heap.size, 2, none⟩ = some (.int .u64 (q : Int)) := by rw [bD.cell]; rfl
  have HWI := Lib.hid (within_ kd 5 w1 (by omega) (by omega) h1 h2)
  have hc5 : ((5 : Nat) : Int) = 5 := rfl
  rw [hc5, hr] at HWI
  have s0 : decide ((0 : Int) ≤ sl) = false := decide_eq_false (by omega)
  have HP := Lib.hid (now_code w1)
  have hcode : codeOf n 0 sl q = nowCode := by simp [codeOf]
  rw [hcode]
  generalize nowCode = code at *
  have HW := Lib.hid hw1
  have K1 : Hid (∀ S, Keeps S w w1) := Lib.hid k1
  have BC := Lib.hid bC
  clear hw1 k1 bD bC hc5 hr h1 h2 hn h0 hcode hsl
  go_enter Try.func11, Try.ntmps11
  go_wp2_with fail
  rw [← HW.out]
  go_wp2_with fail
  refine HWI.out.mono ?_
  rintro e w' ⟨rfl, rfl⟩
  go_wp2_with fail
  refine HP.out.mono ?_
  rintro e w2 ⟨cv, dv, rfl, hb, k2⟩
  obtain ⟨⟨CA, cc, hcv, _⟩, ⟨DA, dc, hdv, _⟩⟩ := hb w2 (Keeps.refl _ _)
  subst hcv
  subst hdv
  have bC2 := Blk.keeps BC.out (k2 (fun _ => False)) (fun z => z)
  have f0 := bC2.frozen 0
  have f1 := bC2.frozen 1
  have x0 : w2.cell? ⟨w.heap.size + 1, 0, none⟩ = some (.slice none 0 0) := by rw [bC2.cell]; rfl
  have x1 : w2.cell? ⟨w.heap.size + 1, 1, none⟩ = some (.slice none 0 0) := by rw [bC2.cell]; rfl
  have HB := Lib.hid (call_end K1.out BC.out k2 hb)
  have BC2 := Lib.hid bC2
  clear hb k2 bC2
  go_wp2_with fail
  obtain ⟨r0, r1, hk⟩ := mz.stored (u := .slice CA code.length cc) (v := .slice DA 0 dc) BC2.out
  exact bodyPost_ret (v := .agg #[.slice CA code.length cc, .slice DA 0 dc]) (by simp [results, Try.results11, go_sem, r0, r1]) rfl HB.out
set_option maxRecDepth 100000 in
set_option maxHeartbeats 2000000 in
theorem call_0high (hn : n ≤ 16) (h0 : 1 ≤ n) (hr : kd % 5 = 0) (h1 : -9223372036854775808 ≤ kd) (h2 : kd ≤ 9223372036854775807) (hsl : (n : Int) ≤ sl) :
    Calls Try.prog 11 #[.int .i64 (n : Int), .agg #[.int .i64 kd, .int .i64 sl, .int .u64 (q : Int)]] w (CallMade w (codeOf n 0 sl q)) := by
  obtain ⟨w1, hw1, k1, bD, bC⟩ := do_blk kd sl q w
  have d0 : w1.cell? ⟨w.heap.size, 0, none⟩ = some (.int .i64 kd) := by rw [bD.cell]; rfl
  have d1 : w1.cell? ⟨w.heap.size, 1, none⟩ = some (.int .i64 sl) := by rw [bD.cell]; rfl
  have d2 : w1.cell? ⟨w.heap.size, 2, none⟩ = some (.int .u64 (q : Int)) := by rw [bD.cell]; rfl
  have HWI := Lib.hid (within_ kd 5 w1 (by omega) (by omega) h1 h2)
  have hc5 : ((5 : Nat) : Int) = 5 := rfl
  rw [hc5, hr] at HWI
  have s0 : (0 : Int) ≤ sl := by omega
  have s1 : decide (sl < (n : Int)) = false := decide_eq_false (by omega)
  have HP := Lib.hid (now_code w1)
  have hcode : codeOf n 0 sl q = nowCode := by simp [codeOf]
  rw [hcode]
  generalize nowCode = code at *
  have HW := Lib.hid hw1
  have K1 : Hid (∀ S, Keeps S w w1) := Lib.hid k1
  have BC := Lib.hid bC
  clear hw1 k1 bD bC hc5 hr h1 h2 hn h0 hcode hsl
  go_enter Try.func11, Try.ntmps11
  go_wp2_with fail
  rw [← HW.out]
  go_wp2_with fail
  refine HWI.out.mono ?_
  rintro e w' ⟨rfl, rfl⟩
  go_wp2_with fail
  refine HP.out.mono ?_
  rintro e w2 ⟨cv, dv, rfl, hb, k2⟩
  obtain ⟨⟨CA, cc, hcv, _⟩, ⟨DA, dc, hdv, _⟩⟩ := hb w2 (Keeps.refl _ _)
  subst hcv
  subst hdv
  have bC2 := Blk.keeps BC.out (k2 (fun _ => False)) (fun z => z)
  have f0 := bC2.frozen 0
  have f1 := bC2.frozen 1
  have x0 : w2.cell? ⟨w.heap.size + 1, 0, none⟩ = some (.slice none 0 0) := by rw [bC2.cell]; rfl
  have x1 : w2.cell? ⟨w.heap.size + 1, 1, none⟩ = some (.slice none 0 0) := by rw [bC2.cell]; rfl
  have HB := Lib.hid (call_end K1.out BC.out k2 hb)
  have BC2 := Lib.hid bC2
  clear hb k2 bC2
  go_wp2_with fail
  obtain ⟨r0, r1, hk⟩ := mz.stored (u := .slice CA code.length cc) (v := .slice DA 0 dc) BC2.out
  exact bodyPost_ret (v := .agg #[.slice CA code.length cc, .slice DA 0 dc]) (by simp [results, Try.results11, go_sem, r0, r1]) rfl HB.out
set_option maxRecDepth 100000 in
set_option maxHeartbeats 2000000 in
theorem call_1is (hn : n ≤ 16) (h0 : 1 ≤ n) (hr : kd % 5 = 1) (h1 : -9223372036854775808 ≤ kd) (h2 : kd ≤ 9223372036854775807) (k : Nat) (hk : k < n) (hsl : sl = (k : Int)) :
    Calls Try.prog 11 #[.int .i64 (n : Int), .agg #[.int .i64 kd, .int .i64 sl, .int .u64 (q : Int)]] w (CallMade w (codeOf n 1 sl q)) := by
  obtain ⟨w1, hw1, k1, bD, bC⟩ := do_blk kd sl q w
  have d0 : w1.cell? ⟨w.heap.size, 0, none⟩ = some (.int .i64 kd) := by rw [bD.cell]; rfl
  have d1 : w1.cell? ⟨w.heap.size, 1, none⟩ = some (.int .i64 sl) := by rw [bD.cell]; rfl
  have d2 : w1.cell? ⟨w.heap.size, 2, none⟩ = some (.int .u64 (q : Int)) := by rw [bD.cell]; rfl
  have HWI := Lib.hid (within_ kd 5 w1 (by omega) (by omega) h1 h2)
  have hc5 : ((5 : Nat) : Int) = 5 := rfl
  rw [hc5, hr] at HWI
  subst hsl
  have s0 : (0 : Int) ≤ (k : Int) := by omega
  have s1 : (k : Int) < (n : Int) := by omega
  have HP := Lib.hid (pin_code k w1 (by omega))
  have hcode : codeOf n 1 (k : Int) q = pinCode k := by simp [codeOf, there_is hk]
  rw [hcode]
  generalize pinCode k = code at *
  have HW := Lib.hid hw1
  have K1 : Hid (∀ S, Keeps S w w1) := Lib.hid k1
  have BC := Lib.hid bC
  clear hw1 k1 bD bC hc5 hr h1 h2 hn h0 hcode hk
  go_enter Try.func11, Try.ntmps11
  go_wp2_with fail
  rw [← HW.out]
  go_wp2_with fail
  refine HWI.out.mono ?_
  rintro e w' ⟨rfl, rfl⟩
  go_wp2_with fail
  refine HP.out.mono ?_
  rintro e w2 ⟨cv, dv, rfl, hb, k2⟩
  obtain ⟨⟨CA, cc, hcv, _⟩, ⟨DA, dc, hdv, _⟩⟩ := hb w2 (Keeps.refl _ _)
  subst hcv
  subst hdv
  have bC2 := Blk.keeps BC.out (k2 (fun _ => False)) (fun z => z)
  have f0 := bC2.frozen 0
  have f1 := bC2.frozen 1
  have x0 : w2.cell? ⟨w.heap.size + 1, 0, none⟩ = some (.slice none 0 0) := by rw [bC2.cell]; rfl
  have x1 : w2.cell? ⟨w.heap.size + 1, 1, none⟩ = some (.slice none 0 0) := by rw [bC2.cell]; rfl
  have HB := Lib.hid (call_end K1.out BC.out k2 hb)
  have BC2 := Lib.hid bC2
  clear hb k2 bC2
  go_wp2_with fail
  obtain ⟨r0, r1, hk⟩ := mz.stored (u := .slice CA code.length cc) (v := .slice DA 0 dc) BC2.out
  exact bodyPost_ret (v := .agg #[.slice CA code.length cc, .slice DA 0 dc]) (by simp [results, Try.results11, go_sem, r0, r1]) rfl HB.out
set_option maxRecDepth 100000 in
set_option maxHeartbeats 2000000 in
theorem call_1low (hn : n ≤ 16) (h0 : 1 ≤ n) (hr : kd % 5 = 1) (h1 : -9223372036854775808 ≤ kd) (h2 : kd ≤ 9223372036854775807) (hsl : sl < 0) :
    Calls Try.prog 11 #[.int .i64 (n : Int), .agg #[.int .i64 kd, .int .i64 sl, .int .u64 (q : Int)]] w (CallMade w (codeOf n 1 sl q)) := by
  obtain ⟨w1, hw1, k1, bD, bC⟩ := do_blk kd sl q w
  have d0 : w1.cell? ⟨w.heap.size, 0, none⟩ = some (.int .i64 kd) := by rw [bD.cell]; rfl
  have d1 : w1.cell? ⟨w.heap.size, 1, none⟩ = some (.int .i64 sl) := by rw [bD.cell]; rfl
  have d2 : w1.cell? ⟨w.heap.size, 2, none⟩ = some (.int .u64 (q : Int)) := by rw [bD.cell]; rfl
  have HWI := Lib.hid (within_ kd 5 w1 (by omega) (by omega) h1 h2)
  have hc5 : ((5 : Nat) : Int) = 5 := rfl
  rw [hc5, hr] at HWI
  have s0 : decide ((0 : Int) ≤ sl) = false := decide_eq_false (by omega)
  have HP := Lib.hid (fails1_code w1)
  have hcode : codeOf n 1 sl q = failsCode 1 5 := by simp [codeOf, there_low hsl]
  rw [hcode]
  generalize failsCode 1 5 = code at *
  have HW := Lib.hid hw1
  have K1 : Hid (∀ S, Keeps S w w1) := Lib.hid k1
  have BC := Lib.hid bC
  clear hw1 k1 bD bC hc5 hr h1 h2 hn h0 hcode hsl
  go_enter Try.func11, Try.ntmps11
  go_wp2_with fail
  rw [← HW.out]
  go_wp2_with fail
  refine HWI.out.mono ?_
  rintro e w' ⟨rfl, rfl⟩
  go_wp2_with fail
  refine HP.out.mono ?_
  rintro e w2 ⟨cv, dv, rfl, hb, k2⟩
  obtain ⟨⟨CA, cc, hcv, _⟩, ⟨DA, dc, hdv, _⟩⟩ := hb w2 (Keeps.refl _ _)
  subst hcv
  subst hdv
  have bC2 := Blk.keeps BC.out (k2 (fun _ => False)) (fun z => z)
  have f0 := bC2.frozen 0
  have f1 := bC2.frozen 1
  have x0 : w2.cell? ⟨w.heap.size + 1, 0, none⟩ = some (.slice none 0 0) := by rw [bC2.cell]; rfl
  have x1 : w2.cell? ⟨w.heap.size + 1, 1, none⟩ = some (.slice none 0 0) := by rw [bC2.cell]; rfl
  have HB := Lib.hid (call_end K1.out BC.out k2 hb)
  have BC2 := Lib.hid bC2
  clear hb k2 bC2
  go_wp2_with fail
  obtain ⟨r0, r1, hk⟩ := mz.stored (u := .slice CA code.length cc) (v := .slice DA 0 dc) BC2.out
  exact bodyPost_ret (v := .agg #[.slice CA code.length cc, .slice DA 0 dc]) (by simp [results, Try.results11, go_sem, r0, r1]) rfl HB.out
set_option maxRecDepth 100000 in
set_option maxHeartbeats 2000000 in
theorem call_1high (hn : n ≤ 16) (h0 : 1 ≤ n) (hr : kd % 5 = 1) (h1 : -9223372036854775808 ≤ kd) (h2 : kd ≤ 9223372036854775807) (hsl : (n : Int) ≤ sl) :
    Calls Try.prog 11 #[.int .i64 (n : Int), .agg #[.int .i64 kd, .int .i64 sl, .int .u64 (q : Int)]] w (CallMade w (codeOf n 1 sl q)) := by
  obtain ⟨w1, hw1, k1, bD, bC⟩ := do_blk kd sl q w
  have d0 : w1.cell? ⟨w.heap.size, 0, none⟩ = some (.int .i64 kd) := by rw [bD.cell]; rfl
  have d1 : w1.cell? ⟨w.heap.size, 1, none⟩ = some (.int .i64 sl) := by rw [bD.cell]; rfl
  have d2 : w1.cell? ⟨w.heap.size, 2, none⟩ = some (.int .u64 (q : Int)) := by rw [bD.cell]; rfl
  have HWI := Lib.hid (within_ kd 5 w1 (by omega) (by omega) h1 h2)
  have hc5 : ((5 : Nat) : Int) = 5 := rfl
  rw [hc5, hr] at HWI
  have s0 : (0 : Int) ≤ sl := by omega
  have s1 : decide (sl < (n : Int)) = false := decide_eq_false (by omega)
  have HP := Lib.hid (fails1_code w1)
  have hcode : codeOf n 1 sl q = failsCode 1 5 := by simp [codeOf, there_high hsl]
  rw [hcode]
  generalize failsCode 1 5 = code at *
  have HW := Lib.hid hw1
  have K1 : Hid (∀ S, Keeps S w w1) := Lib.hid k1
  have BC := Lib.hid bC
  clear hw1 k1 bD bC hc5 hr h1 h2 hn h0 hcode hsl
  go_enter Try.func11, Try.ntmps11
  go_wp2_with fail
  rw [← HW.out]
  go_wp2_with fail
  refine HWI.out.mono ?_
  rintro e w' ⟨rfl, rfl⟩
  go_wp2_with fail
  refine HP.out.mono ?_
  rintro e w2 ⟨cv, dv, rfl, hb, k2⟩
  obtain ⟨⟨CA, cc, hcv, _⟩, ⟨DA, dc, hdv, _⟩⟩ := hb w2 (Keeps.refl _ _)
  subst hcv
  subst hdv
  have bC2 := Blk.keeps BC.out (k2 (fun _ => False)) (fun z => z)
  have f0 := bC2.frozen 0
  have f1 := bC2.frozen 1
  have x0 : w2.cell? ⟨w.heap.size + 1, 0, none⟩ = some (.slice none 0 0) := by rw [bC2.cell]; rfl
  have x1 : w2.cell? ⟨w.heap.size + 1, 1, none⟩ = some (.slice none 0 0) := by rw [bC2.cell]; rfl
  have HB := Lib.hid (call_end K1.out BC.out k2 hb)
  have BC2 := Lib.hid bC2
  clear hb k2 bC2
  go_wp2_with fail
  obtain ⟨r0, r1, hk⟩ := mz.stored (u := .slice CA code.length cc) (v := .slice DA 0 dc) BC2.out
  exact bodyPost_ret (v := .agg #[.slice CA code.length cc, .slice DA 0 dc]) (by simp [results, Try.results11, go_sem, r0, r1]) rfl HB.out
set_option maxRecDepth 100000 in
set_option maxHeartbeats 2000000 in
theorem call_2is (hn : n ≤ 16) (h0 : 1 ≤ n) (hr : kd % 5 = 2) (h1 : -9223372036854775808 ≤ kd) (h2 : kd ≤ 9223372036854775807) (k : Nat) (hk : k < n) (hsl : sl = (k : Int)) :
    Calls Try.prog 11 #[.int .i64 (n : Int), .agg #[.int .i64 kd, .int .i64 sl, .int .u64 (q : Int)]] w (CallMade w (codeOf n 2 sl q)) := by
  obtain ⟨w1, hw1, k1, bD, bC⟩ := do_blk kd sl q w
  have d0 : w1.cell? ⟨w.heap.size, 0, none⟩ = some (.int .i64 kd) := by rw [bD.cell]; rfl
  have d1 : w1.cell? ⟨w.heap.size, 1, none⟩ = some (.int .i64 sl) := by rw [bD.cell]; rfl
  have d2 : w1.cell? ⟨w.heap.size, 2, none⟩ = some (.int .u64 (q : Int)) := by rw [bD.cell]; rfl
  have HWI := Lib.hid (within_ kd 5 w1 (by omega) (by omega) h1 h2)
  have hc5 : ((5 : Nat) : Int) = 5 := rfl
  rw [hc5, hr] at HWI
  subst hsl
  have s0 : (0 : Int) ≤ (k : Int) := by omega
  have s1 : (k : Int) < (n : Int) := by omega
  have HP := Lib.hid (unpin_code k w1 (by omega))
  have hcode : codeOf n 2 (k : Int) q = unpinCode k := by simp [codeOf, there_is hk]
  rw [hcode]
  generalize unpinCode k = code at *
  have HW := Lib.hid hw1
  have K1 : Hid (∀ S, Keeps S w w1) := Lib.hid k1
  have BC := Lib.hid bC
  clear hw1 k1 bD bC hc5 hr h1 h2 hn h0 hcode hk
  go_enter Try.func11, Try.ntmps11
  go_wp2_with fail
  rw [← HW.out]
  go_wp2_with fail
  refine HWI.out.mono ?_
  rintro e w' ⟨rfl, rfl⟩
  go_wp2_with fail
  refine HP.out.mono ?_
  rintro e w2 ⟨cv, dv, rfl, hb, k2⟩
  obtain ⟨⟨CA, cc, hcv, _⟩, ⟨DA, dc, hdv, _⟩⟩ := hb w2 (Keeps.refl _ _)
  subst hcv
  subst hdv
  have bC2 := Blk.keeps BC.out (k2 (fun _ => False)) (fun z => z)
  have f0 := bC2.frozen 0
  have f1 := bC2.frozen 1
  have x0 : w2.cell? ⟨w.heap.size + 1, 0, none⟩ = some (.slice none 0 0) := by rw [bC2.cell]; rfl
  have x1 : w2.cell? ⟨w.heap.size + 1, 1, none⟩ = some (.slice none 0 0) := by rw [bC2.cell]; rfl
  have HB := Lib.hid (call_end K1.out BC.out k2 hb)
  have BC2 := Lib.hid bC2
  clear hb k2 bC2
  go_wp2_with fail
  obtain ⟨r0, r1, hk⟩ := mz.stored (u := .slice CA code.length cc) (v := .slice DA 0 dc) BC2.out
  exact bodyPost_ret (v := .agg #[.slice CA code.length cc, .slice DA 0 dc]) (by simp [results, Try.results11, go_sem, r0, r1]) rfl HB.out
set_option maxRecDepth 100000 in
set_option maxHeartbeats 2000000 in
theorem call_2low (hn : n ≤ 16) (h0 : 1 ≤ n) (hr : kd % 5 = 2) (h1 : -9223372036854775808 ≤ kd) (h2 : kd ≤ 9223372036854775807) (hsl : sl < 0) :
    Calls Try.prog 11 #[.int .i64 (n : Int), .agg #[.int .i64 kd, .int .i64 sl, .int .u64 (q : Int)]] w (CallMade w (codeOf n 2 sl q)) := by
  obtain ⟨w1, hw1, k1, bD, bC⟩ := do_blk kd sl q w
  have d0 : w1.cell? ⟨w.heap.size, 0, none⟩ = some (.int .i64 kd) := by rw [bD.cell]; rfl
  have d1 : w1.cell? ⟨w.heap.size, 1, none⟩ = some (.int .i64 sl) := by rw [bD.cell]; rfl
  have d2 : w1.cell? ⟨w.heap.size, 2, none⟩ = some (.int .u64 (q : Int)) := by rw [bD.cell]; rfl
  have HWI := Lib.hid (within_ kd 5 w1 (by omega) (by omega) h1 h2)
  have hc5 : ((5 : Nat) : Int) = 5 := rfl
  rw [hc5, hr] at HWI
  have s0 : decide ((0 : Int) ≤ sl) = false := decide_eq_false (by omega)
  have HP := Lib.hid (fails0_code w1)
  have hcode : codeOf n 2 sl q = failsCode 0 5 := by simp [codeOf, there_low hsl]
  rw [hcode]
  generalize failsCode 0 5 = code at *
  have HW := Lib.hid hw1
  have K1 : Hid (∀ S, Keeps S w w1) := Lib.hid k1
  have BC := Lib.hid bC
  clear hw1 k1 bD bC hc5 hr h1 h2 hn h0 hcode hsl
  go_enter Try.func11, Try.ntmps11
  go_wp2_with fail
  rw [← HW.out]
  go_wp2_with fail
  refine HWI.out.mono ?_
  rintro e w' ⟨rfl, rfl⟩
  go_wp2_with fail
  refine HP.out.mono ?_
  rintro e w2 ⟨cv, dv, rfl, hb, k2⟩
  obtain ⟨⟨CA, cc, hcv, _⟩, ⟨DA, dc, hdv, _⟩⟩ := hb w2 (Keeps.refl _ _)
  subst hcv
  subst hdv
  have bC2 := Blk.keeps BC.out (k2 (fun _ => False)) (fun z => z)
  have f0 := bC2.frozen 0
  have f1 := bC2.frozen 1
  have x0 : w2.cell? ⟨w.heap.size + 1, 0, none⟩ = some (.slice none 0 0) := by rw [bC2.cell]; rfl
  have x1 : w2.cell? ⟨w.heap.size + 1, 1, none⟩ = some (.slice none 0 0) := by rw [bC2.cell]; rfl
  have HB := Lib.hid (call_end K1.out BC.out k2 hb)
  have BC2 := Lib.hid bC2
  clear hb k2 bC2
  go_wp2_with fail
  obtain ⟨r0, r1, hk⟩ := mz.stored (u := .slice CA code.length cc) (v := .slice DA 0 dc) BC2.out
  exact bodyPost_ret (v := .agg #[.slice CA code.length cc, .slice DA 0 dc]) (by simp [results, Try.results11, go_sem, r0, r1]) rfl HB.out
set_option maxRecDepth 100000 in
set_option maxHeartbeats 2000000 in
theorem call_2high (hn : n ≤ 16) (h0 : 1 ≤ n) (hr : kd % 5 = 2) (h1 : -9223372036854775808 ≤ kd) (h2 : kd ≤ 9223372036854775807) (hsl : (n : Int) ≤ sl) :
    Calls Try.prog 11 #[.int .i64 (n : Int), .agg #[.int .i64 kd, .int .i64 sl, .int .u64 (q : Int)]] w (CallMade w (codeOf n 2 sl q)) := by
  obtain ⟨w1, hw1, k1, bD, bC⟩ := do_blk kd sl q w
  have d0 : w1.cell? ⟨w.heap.size, 0, none⟩ = some (.int .i64 kd) := by rw [bD.cell]; rfl
  have d1 : w1.cell? ⟨w.heap.size, 1, none⟩ = some (.int .i64 sl) := by rw [bD.cell]; rfl
  have d2 : w1.cell? ⟨w.heap.size, 2, none⟩ = some (.int .u64 (q : Int)) := by rw [bD.cell]; rfl
  have HWI := Lib.hid (within_ kd 5 w1 (by omega) (by omega) h1 h2)
  have hc5 : ((5 : Nat) : Int) = 5 := rfl
  rw [hc5, hr] at HWI
  have s0 : (0 : Int) ≤ sl := by omega
  have s1 : decide (sl < (n : Int)) = false := decide_eq_false (by omega)
  have HP := Lib.hid (fails0_code w1)
  have hcode : codeOf n 2 sl q = failsCode 0 5 := by simp [codeOf, there_high hsl]
  rw [hcode]
  generalize failsCode 0 5 = code at *
  have HW := Lib.hid hw1
  have K1 : Hid (∀ S, Keeps S w w1) := Lib.hid k1
  have BC := Lib.hid bC
  clear hw1 k1 bD bC hc5 hr h1 h2 hn h0 hcode hsl
  go_enter Try.func11, Try.ntmps11
  go_wp2_with fail
  rw [← HW.out]
  go_wp2_with fail
  refine HWI.out.mono ?_
  rintro e w' ⟨rfl, rfl⟩
  go_wp2_with fail
  refine HP.out.mono ?_
  rintro e w2 ⟨cv, dv, rfl, hb, k2⟩
  obtain ⟨⟨CA, cc, hcv, _⟩, ⟨DA, dc, hdv, _⟩⟩ := hb w2 (Keeps.refl _ _)
  subst hcv
  subst hdv
  have bC2 := Blk.keeps BC.out (k2 (fun _ => False)) (fun z => z)
  have f0 := bC2.frozen 0
  have f1 := bC2.frozen 1
  have x0 : w2.cell? ⟨w.heap.size + 1, 0, none⟩ = some (.slice none 0 0) := by rw [bC2.cell]; rfl
  have x1 : w2.cell? ⟨w.heap.size + 1, 1, none⟩ = some (.slice none 0 0) := by rw [bC2.cell]; rfl
  have HB := Lib.hid (call_end K1.out BC.out k2 hb)
  have BC2 := Lib.hid bC2
  clear hb k2 bC2
  go_wp2_with fail
  obtain ⟨r0, r1, hk⟩ := mz.stored (u := .slice CA code.length cc) (v := .slice DA 0 dc) BC2.out
  exact bodyPost_ret (v := .agg #[.slice CA code.length cc, .slice DA 0 dc]) (by simp [results, Try.results11, go_sem, r0, r1]) rfl HB.out
set_option maxRecDepth 100000 in
set_option maxHeartbeats 2000000 in
theorem call_3is (hn : n ≤ 16) (h0 : 1 ≤ n) (hr : kd % 5 = 3) (h1 : -9223372036854775808 ≤ kd) (h2 : kd ≤ 9223372036854775807) (k : Nat) (hk : k < n) (hsl : sl = (k : Int)) :
    Calls Try.prog 11 #[.int .i64 (n : Int), .agg #[.int .i64 kd, .int .i64 sl, .int .u64 (q : Int)]] w (CallMade w (codeOf n 3 sl q)) := by
  obtain ⟨w1, hw1, k1, bD, bC⟩ := do_blk kd sl q w
  have d0 : w1.cell? ⟨w.heap.size, 0, none⟩ = some (.int .i64 kd) := by rw [bD.cell]; rfl
  have d1 : w1.cell? ⟨w.heap.size, 1, none⟩ = some (.int .i64 sl) := by rw [bD.cell]; rfl
  have d2 : w1.cell? ⟨w.heap.size, 2, none⟩ = some (.int .u64 (q : Int)) := by rw [bD.cell]; rfl
  have HWI := Lib.hid (within_ kd 5 w1 (by omega) (by omega) h1 h2)
  have hc5 : ((5 : Nat) : Int) = 5 := rfl
  rw [hc5, hr] at HWI
  subst hsl
  have s0 : (0 : Int) ≤ (k : Int) := by omega
  have s1 : (k : Int) < (n : Int) := by omega
  have HP := Lib.hid (move_code n w1 h0 hn)
  have hcode : codeOf n 3 (k : Int) q = moveCode n := by simp [codeOf]
  rw [hcode]
  generalize moveCode n = code at *
  have HW := Lib.hid hw1
  have K1 : Hid (∀ S, Keeps S w w1) := Lib.hid k1
  have BC := Lib.hid bC
  clear hw1 k1 bD bC hc5 hr h1 h2 hn h0 hcode hk
  go_enter Try.func11, Try.ntmps11
  go_wp2_with fail
  rw [← HW.out]
  go_wp2_with fail
  refine HWI.out.mono ?_
  rintro e w' ⟨rfl, rfl⟩
  go_wp2_with fail
  refine HP.out.mono ?_
  rintro e w2 ⟨cv, dv, rfl, hb, k2⟩
  obtain ⟨⟨CA, cc, hcv, _⟩, ⟨DA, dc, hdv, _⟩⟩ := hb w2 (Keeps.refl _ _)
  subst hcv
  subst hdv
  have bC2 := Blk.keeps BC.out (k2 (fun _ => False)) (fun z => z)
  have f0 := bC2.frozen 0
  have f1 := bC2.frozen 1
  have x0 : w2.cell? ⟨w.heap.size + 1, 0, none⟩ = some (.slice none 0 0) := by rw [bC2.cell]; rfl
  have x1 : w2.cell? ⟨w.heap.size + 1, 1, none⟩ = some (.slice none 0 0) := by rw [bC2.cell]; rfl
  have HB := Lib.hid (call_end K1.out BC.out k2 hb)
  have BC2 := Lib.hid bC2
  clear hb k2 bC2
  go_wp2_with fail
  obtain ⟨r0, r1, hk⟩ := mz.stored (u := .slice CA code.length cc) (v := .slice DA 0 dc) BC2.out
  exact bodyPost_ret (v := .agg #[.slice CA code.length cc, .slice DA 0 dc]) (by simp [results, Try.results11, go_sem, r0, r1]) rfl HB.out
set_option maxRecDepth 100000 in
set_option maxHeartbeats 2000000 in
theorem call_3low (hn : n ≤ 16) (h0 : 1 ≤ n) (hr : kd % 5 = 3) (h1 : -9223372036854775808 ≤ kd) (h2 : kd ≤ 9223372036854775807) (hsl : sl < 0) :
    Calls Try.prog 11 #[.int .i64 (n : Int), .agg #[.int .i64 kd, .int .i64 sl, .int .u64 (q : Int)]] w (CallMade w (codeOf n 3 sl q)) := by
  obtain ⟨w1, hw1, k1, bD, bC⟩ := do_blk kd sl q w
  have d0 : w1.cell? ⟨w.heap.size, 0, none⟩ = some (.int .i64 kd) := by rw [bD.cell]; rfl
  have d1 : w1.cell? ⟨w.heap.size, 1, none⟩ = some (.int .i64 sl) := by rw [bD.cell]; rfl
  have d2 : w1.cell? ⟨w.heap.size, 2, none⟩ = some (.int .u64 (q : Int)) := by rw [bD.cell]; rfl
  have HWI := Lib.hid (within_ kd 5 w1 (by omega) (by omega) h1 h2)
  have hc5 : ((5 : Nat) : Int) = 5 := rfl
  rw [hc5, hr] at HWI
  have s0 : decide ((0 : Int) ≤ sl) = false := decide_eq_false (by omega)
  have HP := Lib.hid (move_code n w1 h0 hn)
  have hcode : codeOf n 3 sl q = moveCode n := by simp [codeOf]
  rw [hcode]
  generalize moveCode n = code at *
  have HW := Lib.hid hw1
  have K1 : Hid (∀ S, Keeps S w w1) := Lib.hid k1
  have BC := Lib.hid bC
  clear hw1 k1 bD bC hc5 hr h1 h2 hn h0 hcode hsl
  go_enter Try.func11, Try.ntmps11
  go_wp2_with fail
  rw [← HW.out]
  go_wp2_with fail
  refine HWI.out.mono ?_
  rintro e w' ⟨rfl, rfl⟩
  go_wp2_with fail
  refine HP.out.mono ?_
  rintro e w2 ⟨cv, dv, rfl, hb, k2⟩
  obtain ⟨⟨CA, cc, hcv, _⟩, ⟨DA, dc, hdv, _⟩⟩ := hb w2 (Keeps.refl _ _)
  subst hcv
  subst hdv
  have bC2 := Blk.keeps BC.out (k2 (fun _ => False)) (fun z => z)
  have f0 := bC2.frozen 0
  have f1 := bC2.frozen 1
  have x0 : w2.cell? ⟨w.heap.size + 1, 0, none⟩ = some (.slice none 0 0) := by rw [bC2.cell]; rfl
  have x1 : w2.cell? ⟨w.heap.size + 1, 1, none⟩ = some (.slice none 0 0) := by rw [bC2.cell]; rfl
  have HB := Lib.hid (call_end K1.out BC.out k2 hb)
  have BC2 := Lib.hid bC2
  clear hb k2 bC2
  go_wp2_with fail
  obtain ⟨r0, r1, hk⟩ := mz.stored (u := .slice CA code.length cc) (v := .slice DA 0 dc) BC2.out
  exact bodyPost_ret (v := .agg #[.slice CA code.length cc, .slice DA 0 dc]) (by simp [results, Try.results11, go_sem, r0, r1]) rfl HB.out
set_option maxRecDepth 100000 in
set_option maxHeartbeats 2000000 in
theorem call_3high (hn : n ≤ 16) (h0 : 1 ≤ n) (hr : kd % 5 = 3) (h1 : -9223372036854775808 ≤ kd) (h2 : kd ≤ 9223372036854775807) (hsl : (n : Int) ≤ sl) :
    Calls Try.prog 11 #[.int .i64 (n : Int), .agg #[.int .i64 kd, .int .i64 sl, .int .u64 (q : Int)]] w (CallMade w (codeOf n 3 sl q)) := by
  obtain ⟨w1, hw1, k1, bD, bC⟩ := do_blk kd sl q w
  have d0 : w1.cell? ⟨w.heap.size, 0, none⟩ = some (.int .i64 kd) := by rw [bD.cell]; rfl
  have d1 : w1.cell? ⟨w.heap.size, 1, none⟩ = some (.int .i64 sl) := by rw [bD.cell]; rfl
  have d2 : w1.cell? ⟨w.heap.size, 2, none⟩ = some (.int .u64 (q : Int)) := by rw [bD.cell]; rfl
  have HWI := Lib.hid (within_ kd 5 w1 (by omega) (by omega) h1 h2)
  have hc5 : ((5 : Nat) : Int) = 5 := rfl
  rw [hc5, hr] at HWI
  have s0 : (0 : Int) ≤ sl := by omega
  have s1 : decide (sl < (n : Int)) = false := decide_eq_false (by omega)
  have HP := Lib.hid (move_code n w1 h0 hn)
  have hcode : codeOf n 3 sl q = moveCode n := by simp [codeOf]
  rw [hcode]
  generalize moveCode n = code at *
  have HW := Lib.hid hw1
  have K1 : Hid (∀ S, Keeps S w w1) := Lib.hid k1
  have BC := Lib.hid bC
  clear hw1 k1 bD bC hc5 hr h1 h2 hn h0 hcode hsl
  go_enter Try.func11, Try.ntmps11
  go_wp2_with fail
  rw [← HW.out]
  go_wp2_with fail
  refine HWI.out.mono ?_
  rintro e w' ⟨rfl, rfl⟩
  go_wp2_with fail
  refine HP.out.mono ?_
  rintro e w2 ⟨cv, dv, rfl, hb, k2⟩
  obtain ⟨⟨CA, cc, hcv, _⟩, ⟨DA, dc, hdv, _⟩⟩ := hb w2 (Keeps.refl _ _)
  subst hcv
  subst hdv
  have bC2 := Blk.keeps BC.out (k2 (fun _ => False)) (fun z => z)
  have f0 := bC2.frozen 0
  have f1 := bC2.frozen 1
  have x0 : w2.cell? ⟨w.heap.size + 1, 0, none⟩ = some (.slice none 0 0) := by rw [bC2.cell]; rfl
  have x1 : w2.cell? ⟨w.heap.size + 1, 1, none⟩ = some (.slice none 0 0) := by rw [bC2.cell]; rfl
  have HB := Lib.hid (call_end K1.out BC.out k2 hb)
  have BC2 := Lib.hid bC2
  clear hb k2 bC2
  go_wp2_with fail
  obtain ⟨r0, r1, hk⟩ := mz.stored (u := .slice CA code.length cc) (v := .slice DA 0 dc) BC2.out
  exact bodyPost_ret (v := .agg #[.slice CA code.length cc, .slice DA 0 dc]) (by simp [results, Try.results11, go_sem, r0, r1]) rfl HB.out
set_option maxRecDepth 100000 in
set_option maxHeartbeats 2000000 in
theorem call_4is (hn : n ≤ 16) (h0 : 1 ≤ n) (hr : kd % 5 = 4) (h1 : -9223372036854775808 ≤ kd) (h2 : kd ≤ 9223372036854775807) (k : Nat) (hk : k < n) (hsl : sl = (k : Int)) :
    Calls Try.prog 11 #[.int .i64 (n : Int), .agg #[.int .i64 kd, .int .i64 sl, .int .u64 (q : Int)]] w (CallMade w (codeOf n 4 sl q)) := by
  obtain ⟨w1, hw1, k1, bD, bC⟩ := do_blk kd sl q w
  have d0 : w1.cell? ⟨w.heap.size, 0, none⟩ = some (.int .i64 kd) := by rw [bD.cell]; rfl
  have d1 : w1.cell? ⟨w.heap.size, 1, none⟩ = some (.int .i64 sl) := by rw [bD.cell]; rfl
  have d2 : w1.cell? ⟨w.heap.size, 2, none⟩ = some (.int .u64 (q : Int)) := by rw [bD.cell]; rfl
  have HWI := Lib.hid (within_ kd 5 w1 (by omega) (by omega) h1 h2)
  have hc5 : ((5 : Nat) : Int) = 5 := rfl
  rw [hc5, hr] at HWI
  subst hsl
  have s0 : (0 : Int) ≤ (k : Int) := by omega
  have s1 : (k : Int) < (n : Int) := by omega
  have HP := Lib.hid (safe_code q w1)
  have hcode : codeOf n 4 (k : Int) q = safeCode q := by simp [codeOf]
  rw [hcode]
  generalize safeCode q = code at *
  have HW := Lib.hid hw1
  have K1 : Hid (∀ S, Keeps S w w1) := Lib.hid k1
  have BC := Lib.hid bC
  clear hw1 k1 bD bC hc5 hr h1 h2 hn h0 hcode hk
  go_enter Try.func11, Try.ntmps11
  go_wp2_with fail
  rw [← HW.out]
  go_wp2_with fail
  refine HWI.out.mono ?_
  rintro e w' ⟨rfl, rfl⟩
  go_wp2_with fail
  refine HP.out.mono ?_
  rintro e w2 ⟨cv, dv, rfl, hb, k2⟩
  obtain ⟨⟨CA, cc, hcv, _⟩, ⟨DA, dc, hdv, _⟩⟩ := hb w2 (Keeps.refl _ _)
  subst hcv
  subst hdv
  have bC2 := Blk.keeps BC.out (k2 (fun _ => False)) (fun z => z)
  have f0 := bC2.frozen 0
  have f1 := bC2.frozen 1
  have x0 : w2.cell? ⟨w.heap.size + 1, 0, none⟩ = some (.slice none 0 0) := by rw [bC2.cell]; rfl
  have x1 : w2.cell? ⟨w.heap.size + 1, 1, none⟩ = some (.slice none 0 0) := by rw [bC2.cell]; rfl
  have HB := Lib.hid (call_end K1.out BC.out k2 hb)
  have BC2 := Lib.hid bC2
  clear hb k2 bC2
  go_wp2_with fail
  obtain ⟨r0, r1, hk⟩ := mz.stored (u := .slice CA code.length cc) (v := .slice DA 0 dc) BC2.out
  exact bodyPost_ret (v := .agg #[.slice CA code.length cc, .slice DA 0 dc]) (by simp [results, Try.results11, go_sem, r0, r1]) rfl HB.out
set_option maxRecDepth 100000 in
set_option maxHeartbeats 2000000 in
theorem call_4low (hn : n ≤ 16) (h0 : 1 ≤ n) (hr : kd % 5 = 4) (h1 : -9223372036854775808 ≤ kd) (h2 : kd ≤ 9223372036854775807) (hsl : sl < 0) :
    Calls Try.prog 11 #[.int .i64 (n : Int), .agg #[.int .i64 kd, .int .i64 sl, .int .u64 (q : Int)]] w (CallMade w (codeOf n 4 sl q)) := by
  obtain ⟨w1, hw1, k1, bD, bC⟩ := do_blk kd sl q w
  have d0 : w1.cell? ⟨w.heap.size, 0, none⟩ = some (.int .i64 kd) := by rw [bD.cell]; rfl
  have d1 : w1.cell? ⟨w.heap.size, 1, none⟩ = some (.int .i64 sl) := by rw [bD.cell]; rfl
  have d2 : w1.cell? ⟨w.heap.size, 2, none⟩ = some (.int .u64 (q : Int)) := by rw [bD.cell]; rfl
  have HWI := Lib.hid (within_ kd 5 w1 (by omega) (by omega) h1 h2)
  have hc5 : ((5 : Nat) : Int) = 5 := rfl
  rw [hc5, hr] at HWI
  have s0 : decide ((0 : Int) ≤ sl) = false := decide_eq_false (by omega)
  have HP := Lib.hid (safe_code q w1)
  have hcode : codeOf n 4 sl q = safeCode q := by simp [codeOf]
  rw [hcode]
  generalize safeCode q = code at *
  have HW := Lib.hid hw1
  have K1 : Hid (∀ S, Keeps S w w1) := Lib.hid k1
  have BC := Lib.hid bC
  clear hw1 k1 bD bC hc5 hr h1 h2 hn h0 hcode hsl
  go_enter Try.func11, Try.ntmps11
  go_wp2_with fail
  rw [← HW.out]
  go_wp2_with fail
  refine HWI.out.mono ?_
  rintro e w' ⟨rfl, rfl⟩
  go_wp2_with fail
  refine HP.out.mono ?_
  rintro e w2 ⟨cv, dv, rfl, hb, k2⟩
  obtain ⟨⟨CA, cc, hcv, _⟩, ⟨DA, dc, hdv, _⟩⟩ := hb w2 (Keeps.refl _ _)
  subst hcv
  subst hdv
  have bC2 := Blk.keeps BC.out (k2 (fun _ => False)) (fun z => z)
  have f0 := bC2.frozen 0
  have f1 := bC2.frozen 1
  have x0 : w2.cell? ⟨w.heap.size + 1, 0, none⟩ = some (.slice none 0 0) := by rw [bC2.cell]; rfl
  have x1 : w2.cell? ⟨w.heap.size + 1, 1, none⟩ = some (.slice none 0 0) := by rw [bC2.cell]; rfl
  have HB := Lib.hid (call_end K1.out BC.out k2 hb)
  have BC2 := Lib.hid bC2
  clear hb k2 bC2
  go_wp2_with fail
  obtain ⟨r0, r1, hk⟩ := mz.stored (u := .slice CA code.length cc) (v := .slice DA 0 dc) BC2.out
  exact bodyPost_ret (v := .agg #[.slice CA code.length cc, .slice DA 0 dc]) (by simp [results, Try.results11, go_sem, r0, r1]) rfl HB.out
set_option maxRecDepth 100000 in
set_option maxHeartbeats 2000000 in
theorem call_4high (hn : n ≤ 16) (h0 : 1 ≤ n) (hr : kd % 5 = 4) (h1 : -9223372036854775808 ≤ kd) (h2 : kd ≤ 9223372036854775807) (hsl : (n : Int) ≤ sl) :
    Calls Try.prog 11 #[.int .i64 (n : Int), .agg #[.int .i64 kd, .int .i64 sl, .int .u64 (q : Int)]] w (CallMade w (codeOf n 4 sl q)) := by
  obtain ⟨w1, hw1, k1, bD, bC⟩ := do_blk kd sl q w
  have d0 : w1.cell? ⟨w.heap.size, 0, none⟩ = some (.int .i64 kd) := by rw [bD.cell]; rfl
  have d1 : w1.cell? ⟨w.heap.size, 1, none⟩ = some (.int .i64 sl) := by rw [bD.cell]; rfl
  have d2 : w1.cell? ⟨w.heap.size, 2, none⟩ = some (.int .u64 (q : Int)) := by rw [bD.cell]; rfl
  have HWI := Lib.hid (within_ kd 5 w1 (by omega) (by omega) h1 h2)
  have hc5 : ((5 : Nat) : Int) = 5 := rfl
  rw [hc5, hr] at HWI
  have s0 : (0 : Int) ≤ sl := by omega
  have s1 : decide (sl < (n : Int)) = false := decide_eq_false (by omega)
  have HP := Lib.hid (safe_code q w1)
  have hcode : codeOf n 4 sl q = safeCode q := by simp [codeOf]
  rw [hcode]
  generalize safeCode q = code at *
  have HW := Lib.hid hw1
  have K1 : Hid (∀ S, Keeps S w w1) := Lib.hid k1
  have BC := Lib.hid bC
  clear hw1 k1 bD bC hc5 hr h1 h2 hn h0 hcode hsl
  go_enter Try.func11, Try.ntmps11
  go_wp2_with fail
  rw [← HW.out]
  go_wp2_with fail
  refine HWI.out.mono ?_
  rintro e w' ⟨rfl, rfl⟩
  go_wp2_with fail
  refine HP.out.mono ?_
  rintro e w2 ⟨cv, dv, rfl, hb, k2⟩
  obtain ⟨⟨CA, cc, hcv, _⟩, ⟨DA, dc, hdv, _⟩⟩ := hb w2 (Keeps.refl _ _)
  subst hcv
  subst hdv
  have bC2 := Blk.keeps BC.out (k2 (fun _ => False)) (fun z => z)
  have f0 := bC2.frozen 0
  have f1 := bC2.frozen 1
  have x0 : w2.cell? ⟨w.heap.size + 1, 0, none⟩ = some (.slice none 0 0) := by rw [bC2.cell]; rfl
  have x1 : w2.cell? ⟨w.heap.size + 1, 1, none⟩ = some (.slice none 0 0) := by rw [bC2.cell]; rfl
  have HB := Lib.hid (call_end K1.out BC.out k2 hb)
  have BC2 := Lib.hid bC2
  clear hb k2 bC2
  go_wp2_with fail
  obtain ⟨r0, r1, hk⟩ := mz.stored (u := .slice CA code.length cc) (v := .slice DA 0 dc) BC2.out
  exact bodyPost_ret (v := .agg #[.slice CA code.length cc, .slice DA 0 dc]) (by simp [results, Try.results11, go_sem, r0, r1]) rfl HB.out
end
/-- the call of kind r -/
theorem call_ (n r q : Nat) (kd sl : Int) (w : World) (hn : n ≤ 16) (h0 : 1 ≤ n) (hr5 : r < 5) (hr : kd % 5 = (r : Int)) (h1 : -9223372036854775808 ≤ kd) (h2 : kd ≤ 9223372036854775807) :
    Calls Try.prog 11 #[.int .i64 (n : Int), .agg #[.int .i64 kd, .int .i64 sl, .int .u64 (q : Int)]] w (CallMade w (codeOf n r sl q)) := by
  rcases Int.lt_or_le sl 0 with q0 | q0
  · rcases (show r = 0 ∨ r = 1 ∨ r = 2 ∨ r = 3 ∨ r = 4 by omega) with rfl | rfl | rfl | rfl | rfl
    · exact call_0low n q kd sl w hn h0 hr h1 h2 q0
    · exact call_1low n q kd sl w hn h0 hr h1 h2 q0
    · exact call_2low n q kd sl w hn h0 hr h1 h2 q0
    · exact call_3low n q kd sl w hn h0 hr h1 h2 q0
    · exact call_4low n q kd sl w hn h0 hr h1 h2 q0
  · rcases Int.lt_or_le sl (n : Int) with q1 | q1
    · obtain ⟨k, rfl⟩ := Int.eq_ofNat_of_zero_le q0
      have hk : k < n := by omega
      rcases (show r = 0 ∨ r = 1 ∨ r = 2 ∨ r = 3 ∨ r = 4 by omega) with rfl | rfl | rfl | rfl | rfl
      · exact call_0is n q kd _ w hn h0 hr h1 h2 k hk rfl
      · exact call_1is n q kd _ w hn h0 hr h1 h2 k hk rfl
      · exact call_2is n q kd _ w hn h0 hr h1 h2 k hk rfl
      · exact call_3is n q kd _ w hn h0 hr h1 h2 k hk rfl
      · exact call_4is n q kd _ w hn h0 hr h1 h2 k hk rfl
    · rcases (show r = 0 ∨ r = 1 ∨ r = 2 ∨ r = 3 ∨ r = 4 by omega) with rfl | rfl | rfl | rfl | rfl
      · exact call_0high n q kd sl w hn h0 hr h1 h2 q1
      · exact call_1high n q kd sl w hn h0 hr h1 h2 q1
      · exact call_2high n q kd sl w hn h0 hr h1 h2 q1
      · exact call_3high n q kd sl w hn h0 hr h1 h2 q1
      · exact call_4high n q kd sl w hn h0 hr h1 h2 q1
end Go.Proofs.Ytebjmmckejbklaa.rf9
