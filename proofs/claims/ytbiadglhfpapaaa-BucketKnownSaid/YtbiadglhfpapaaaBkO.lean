/-
  patchbayref12's Over: a quotient, bit by bit.
-/
import Derived.Test.YtbiadglhfpapaaaBkTk
import Derived.Deep.LoopGhost
import Derived.Deep.RegionLaw
set_option linter.unusedVariables false
namespace Go.Proofs.Ytbiadglhfpapaaa.bk
open Go.RowKit Go.Proofs.Ytbiadglhfpapaaa.oc Go.Proofs.Ytbiadglhfpapaaa.mz
@[irreducible] def wh (x : Nat) : Nat := x / 18446744073709551616
@[irreducible] def wl (x : Nat) : Nat := x % 18446744073709551616
/-- a wide number, its words shut -/
theorem wd_sh (x : Nat) : wd x = .agg #[.int .u64 (wh x : Int), .int .u64 (wl x : Int)] := by unfold wh wl; rfl
theorem wh0 : ((wh 0 : Nat) : Int) = 0 ∧ ((wl 0 : Nat) : Int) = 0 := by unfold wh wl; decide
/-- the loop's blocks: out is q, rest is r -/
structure Bx (w wr : World) (X P O R x y q r : Nat) : Prop where
  box : Blk wr X 60 [.int .u64 (x : Int), .int .u64 (y : Int)]
  res : Blk wr P 60 [.int .u64 0, .int .u64 0]
  out : Blk wr O 60 [.int .u64 (wh q : Int), .int .u64 (wl q : Int)]
  rest : Blk wr R 60 [.int .u64 (wh r : Int), .int .u64 (wl r : Int)]
  keep : ∀ S, Keeps S w wr
/-- where the blocks lie -/
structure Pl (w : World) (X P O R : Nat) : Prop where
  x : w.heap.size ≤ X
  p : X < P
  o : P < O
  r : O < R
section
variable {w wr w' : World} {X P O R x y q r : Nat}
theorem Bx.grown (h : Bx w wr X P O R x y q r) (k : ∀ S, Keeps S wr w') : Bx w w' X P O R x y q r :=
  ⟨Blk.keeps h.box (k (fun _ => False)) (fun z => z), Blk.keeps h.res (k (fun _ => False)) (fun z => z), Blk.keeps h.out (k (fun _ => False)) (fun z => z), Blk.keeps h.rest (k (fun _ => False)) (fun z => z), fun S => (h.keep S).trans (k S)⟩
theorem Bx.setR (h : Bx w wr X P O R x y q r) (pl : Pl w X P O R) (r' : Nat) : Bx w ((wr.setCell ⟨R, 0, none⟩ (.int .u64 (wh r' : Int))).setCell ⟨R, 1, none⟩ (.int .u64 (wl r' : Int))) X P O R x y q r' := by
  have k : Keeps (· = R) wr ((wr.setCell ⟨R, 0, none⟩ (.int .u64 (wh r' : Int))).setCell ⟨R, 1, none⟩ (.int .u64 (wl r' : Int))) := (Keeps.here _).trans (Keeps.here _)
  have h1 := pl.x; have h2 := pl.p; have h3 := pl.o; have h4 := pl.r
  exact ⟨Blk.keeps h.box k (by omega), Blk.keeps h.res k (by omega), Blk.keeps h.out k (by omega), by simpa using (h.rest.put 0 (.int .u64 (wh r' : Int))).put 1 (.int .u64 (wl r' : Int)), fun S => ((h.keep S).setCell (.inr (by show w.heap.size ≤ R; omega)) _).setCell (.inr (by show w.heap.size ≤ R; omega)) _⟩
theorem Bx.setO (h : Bx w wr X P O R x y q r) (pl : Pl w X P O R) (q' : Nat) : Bx w ((wr.setCell ⟨O, 0, none⟩ (.int .u64 (wh q' : Int))).setCell ⟨O, 1, none⟩ (.int .u64 (wl q' : Int))) X P O R x y q' r := by
  have k : Keeps (· = O) wr ((wr.setCell ⟨O, 0, none⟩ (.int .u64 (wh q' : Int))).setCell ⟨O, 1, none⟩ (.int .u64 (wl q' : Int))) := (Keeps.here _).trans (Keeps.here _)
  have h1 := pl.x; have h2 := pl.p; have h3 := pl.o; have h4 := pl.r
  exact ⟨Blk.keeps h.box k (by omega), Blk.keeps h.res k (by omega), by simpa using (h.out.put 0 (.int .u64 (wh q' : Int))).put 1 (.int .u64 (wl q' : Int)), Blk.keeps h.rest k (by omega), fun S => ((h.keep S).setCell (.inr (by show w.heap.size ≤ O; omega)) _).setCell (.inr (by show w.heap.size ≤ O; omega)) _⟩
theorem Bx.o0 (h : Bx w wr X P O R x y q r) : wr.cell? ⟨O, 0, none⟩ = some (.int .u64 (wh q : Int)) := by rw [h.out.cell]; rfl
theorem Bx.o1 (h : Bx w wr X P O R x y q r) : wr.cell? ⟨O, 1, none⟩ = some (.int .u64 (wl q : Int)) := by rw [h.out.cell]; rfl
theorem Bx.r0 (h : Bx w wr X P O R x y q r) : wr.cell? ⟨R, 0, none⟩ = some (.int .u64 (wh r : Int)) := by rw [h.rest.cell]; rfl
theorem Bx.r1 (h : Bx w wr X P O R x y q r) : wr.cell? ⟨R, 1, none⟩ = some (.int .u64 (wl r : Int)) := by rw [h.rest.cell]; rfl
end
/-- the bit at j -/
theorem bit_low (a x y j : Nat) (h : a = x * 18446744073709551616 + y) (hj : j < 64) : ((y : Int) / 2 ^ j).tmod 2 = ((a / 2 ^ j % 2 : Nat) : Int) := by
  have e : (y : Int) / 2 ^ j = ((y / 2 ^ j : Nat) : Int) := by rw [Int.natCast_ediv, Int.natCast_pow]; rfl
  rw [e, tmod_pos _ _ (Int.natCast_nonneg _)]
  have hd : a / 2 ^ j = x * 2 ^ (64 - j) + y / 2 ^ j := by
    have hp : 18446744073709551616 = 2 ^ (64 - j) * 2 ^ j := by rw [← Nat.pow_add, Nat.sub_add_cancel (Nat.le_of_lt hj)]
    rw [h, hp, ← Nat.mul_assoc, Nat.mul_comm _ (2 ^ j), Nat.add_comm, Nat.add_mul_div_left _ _ (Nat.pow_pos (by decide)), Nat.add_comm]
  have h2 : 2 ^ (64 - j) = 2 * 2 ^ (63 - j) := by rw [← Nat.pow_succ']; congr 1; omega
  rw [hd, h2, Nat.mul_left_comm]
  generalize x * 2 ^ (63 - j) = z
  generalize y / 2 ^ j = u
  omega
theorem bit_high (a x y j : Nat) (h : a = x * 18446744073709551616 + y) (hy : y < 18446744073709551616) (hj : 64 ≤ j) : ((x : Int) / 2 ^ (j - 64)).tmod 2 = ((a / 2 ^ j % 2 : Nat) : Int) := by
  have e : (x : Int) / 2 ^ (j - 64) = ((x / 2 ^ (j - 64) : Nat) : Int) := by rw [Int.natCast_ediv, Int.natCast_pow]; rfl
  rw [e, tmod_pos _ _ (Int.natCast_nonneg _)]
  have hx : x = a / 18446744073709551616 := by omega
  have hp : 2 ^ j = 18446744073709551616 * 2 ^ (j - 64) := by rw [show (18446744073709551616 : Nat) = 2 ^ 64 from rfl, ← Nat.pow_add, Nat.add_sub_cancel' hj]
  rw [hp, ← Nat.div_div_eq_div_mul, ← hx]
  rfl
theorem half (a j : Nat) : a / 2 ^ j = 2 * (a / 2 ^ (j + 1)) + a / 2 ^ j % 2 := by
  rw [Nat.pow_succ, ← Nat.div_div_eq_div_mul]
  omega
section
variable (w : World)
set_option maxRecDepth 100000 in
set_option maxHeartbeats 8000000 in
theorem over_ (a b : Nat) (ha : a < 340282366920938463463374607431768211456) (h0 : 0 < b) (hb : b < 18446744073709551616) : Calls Try.prog 38 #[wd a, .int .u64 (b : Int)] w fun e w' => e = .returned (wd (a / b)) ∧ ∀ S, Keeps S w w' := by
  obtain ⟨x, y, hx, hy, ea⟩ := wd_parts a
  rw [ea]
  have HX := Lib.hid (show a = x * 18446744073709551616 + y ∧ y < 18446744073709551616 ∧ a < 340282366920938463463374607431768211456 ∧ 0 < b ∧ b < 18446744073709551616 from ⟨hx, hy, ha, h0, hb⟩)
  have HWB : ∀ w, Hid (Calls Try.prog 49 #[.int .u64 (b : Int)] w fun e w' => e = .returned (.agg #[.int .u64 (wh b : Int), .int .u64 (wl b : Int)]) ∧ ∀ S, Keeps S w w') := fun w => Lib.hid (by have := word_ w b hb; rwa [wd_sh] at this)
  clear hx hy ea ha h0 hb
  go_enter Try.func38, Try.ntmps38
  go_wp2_with fail
  obtain ⟨wa, hwa⟩ : ∃ wa, wa = (((w.alloc (.cells #[.int .u64 (x : Int), .int .u64 (y : Int)] 60)).alloc (.cells #[.int .u64 0, .int .u64 0] 60)).alloc (.cells #[.int .u64 0, .int .u64 0] 60)).alloc (.cells #[.int .u64 0, .int .u64 0] 60) := ⟨_, rfl⟩
  obtain ⟨X, hX⟩ : ∃ X, X = w.heap.size := ⟨_, rfl⟩
  obtain ⟨P, hP⟩ : ∃ P, P = w.heap.size + 1 := ⟨_, rfl⟩
  obtain ⟨O, hO⟩ : ∃ O, O = w.heap.size + 1 + 1 := ⟨_, rfl⟩
  obtain ⟨R, hR⟩ : ∃ R, R = w.heap.size + 1 + 1 + 1 := ⟨_, rfl⟩
  have B0 : Blk wa X 60 [.int .u64 (x : Int), .int .u64 (y : Int)] := by rw [hwa, hX]; exact (((Blk.new w _ _).alloc _).alloc _).alloc _
  have B1 : Blk wa P 60 [.int .u64 0, .int .u64 0] := by
    have q := ((Blk.new (w.alloc (.cells #[.int .u64 (x : Int), .int .u64 (y : Int)] 60)) 60 #[.int .u64 0, .int .u64 0]).alloc (.cells #[.int .u64 0, .int .u64 0] 60)).alloc (.cells #[.int .u64 0, .int .u64 0] 60)
    rw [World.size_alloc] at q
    rw [hwa, hP]; exact q
  have B2 : Blk wa O 60 [.int .u64 0, .int .u64 0] := by
    have q := (Blk.new ((w.alloc (.cells #[.int .u64 (x : Int), .int .u64 (y : Int)] 60)).alloc (.cells #[.int .u64 0, .int .u64 0] 60)) 60 #[.int .u64 0, .int .u64 0]).alloc (.cells #[.int .u64 0, .int .u64 0] 60)
    rw [World.size_alloc, World.size_alloc] at q
    rw [hwa, hO]; exact q
  have B3 : Blk wa R 60 [.int .u64 0, .int .u64 0] := by
    have q := Blk.new (((w.alloc (.cells #[.int .u64 (x : Int), .int .u64 (y : Int)] 60)).alloc (.cells #[.int .u64 0, .int .u64 0] 60)).alloc (.cells #[.int .u64 0, .int .u64 0] 60)) 60 #[.int .u64 0, .int .u64 0]
    rw [World.size_alloc, World.size_alloc, World.size_alloc] at q
    rw [hwa, hR]; exact q
  have KA : Hid (∀ S, Keeps S w wa) := Lib.hid (fun S => by rw [hwa]; exact ((((Keeps.refl S w).alloc _).alloc _).alloc _).alloc _)
  have PL := Lib.hid (show Pl w X P O R from ⟨by omega, by omega, by omega, by omega⟩)
  rw [← hwa, ← hR, ← hO, ← hP, ← hX]
  have V0 := Lib.hid (show Bx w wa X P O R x y 0 0 ∧ 0 * b + 0 = a / 2 ^ 128 ∧ 0 < b from ⟨⟨B0, B1, by rw [wh0.1, wh0.2]; exact B2, by rw [wh0.1, wh0.2]; exact B3, KA.out⟩, by have := HX.out; rw [Nat.div_eq_of_lt (by rw [show (2 : Nat) ^ 128 = 340282366920938463463374607431768211456 from rfl]; omega)]; omega, HX.out.2.2.2.1⟩)
  clear hwa hX hP hO hR B0 B1 B2 B3 KA
  go_loopw [7] (fun i wr => ∃ k q r : Nat, i = .int .i64 ((k : Int) - 1) ∧ k ≤ 128 ∧ Bx w wr X P O R x y q r ∧ q * b + r = a / 2 ^ k ∧ r < b) (fun i _ => (intOf i + 1).toNat)
  case atStart => exact ⟨128, 0, 0, rfl, Nat.le_refl _, V0.out⟩
  case round =>
    clear V0
    obtain ⟨k, q, r, rfl, hk128, hv, hsum, hrb⟩ := hrel
    rcases Nat.eq_zero_or_pos k with hk | hk
    · subst hk
      have hm1 : ((0 : Nat) : Int) - 1 = -1 := by omega
      rw [hm1]
      have hq : q = a / b := by
        have h0 := HX.out.2.2.2.1
        rw [Nat.pow_zero, Nat.div_one] at hsum
        rw [← hsum, Nat.mul_comm, Nat.mul_add_div h0, Nat.div_eq_of_lt hrb]
        omega
      have o0 := hv.o0
      have o1 := hv.o1
      have p0 : wr.cell? ⟨P, 0, none⟩ = some (.int .u64 0) := by rw [hv.res.cell]; rfl
      have p1 : wr.cell? ⟨P, 1, none⟩ = some (.int .u64 0) := by rw [hv.res.cell]; rfl
      have pf0 := hv.res.frozen 0
      have pf1 := hv.res.frozen 1
      have V := Lib.hid hv
      have HQ := Lib.hid hq
      clear hv hq hsum hrb hm1 hk128
      go_wp2_with fail
      have b1 := (V.out.res.put 0 (.int .u64 (wh q : Int))).put 1 (.int .u64 (wl q : Int))
      have hpn : w.heap.size ≤ P := by have h1 := PL.out.x; have h2 := PL.out.p; omega
      have hk : ∀ S, Keeps S w ((wr.setCell ⟨P, 0, none⟩ (.int .u64 (wh q : Int))).setCell ⟨P, 1, none⟩ (.int .u64 (wl q : Int))) := fun S => ((V.out.keep S).setCell (.inr hpn) _).setCell (.inr hpn) _
      generalize (wr.setCell ⟨P, 0, none⟩ (.int .u64 (wh q : Int))).setCell ⟨P, 1, none⟩ (.int .u64 (wl q : Int)) = wf at *
      have r0 : wf.cell? ⟨P, 0, none⟩ = some (.int .u64 (wh q : Int)) := by rw [b1.cell]; rfl
      have r1 : wf.cell? ⟨P, 1, none⟩ = some (.int .u64 (wl q : Int)) := by rw [b1.cell]; rfl
      refine bodyPost_ret (v := .agg #[.int .u64 (wh q : Int), .int .u64 (wl q : Int)]) (by simp [results, Try.results38, go_sem, r0, r1]) rfl ⟨by rw [← HQ.out, wd_sh], hk⟩
    · obtain ⟨j, rfl⟩ : ∃ j, k = j + 1 := ⟨k - 1, by omega⟩
      have hji : ((j + 1 : Nat) : Int) - 1 = (j : Int) := by omega
      rw [hji]
      have j0 : (0 : Int) ≤ (j : Int) := by omega
      have j1 : (j : Int) < 128 := by omega
      obtain ⟨t, ht⟩ : ∃ t, t = a / 2 ^ j % 2 := ⟨_, rfl⟩
      have ht2 : t < 2 := by omega
      have hhalf := half a j
      rw [← hsum, ← ht] at hhalf
      have hxx := HX.out
      have hqa : q ≤ a := by
        have h1 : q ≤ q * b := Nat.le_mul_of_pos_right q hxx.2.2.2.1
        have h2 : a / 2 ^ (j + 1) ≤ a := Nat.div_le_self _ _
        omega
      have hqb : 2 * q ≤ a := by
        have h1 : q ≤ q * b := Nat.le_mul_of_pos_right q hxx.2.2.2.1
        have h2 : a / 2 ^ j ≤ a := Nat.div_le_self _ _
        omega
      have x0 : wr.cell? ⟨X, 0, none⟩ = some (.int .u64 (x : Int)) := by rw [hv.box.cell]; rfl
      have x1 : wr.cell? ⟨X, 1, none⟩ = some (.int .u64 (y : Int)) := by rw [hv.box.cell]; rfl
      have r0 := hv.r0
      have r1 := hv.r1
      have HP1 := fun w => Lib.hid (plus_ w r r (by omega))
      have HP2 := fun w => Lib.hid (plus_ w (r + r) t (by omega))
      have HWT := fun w => Lib.hid (word_ w t (by omega))
      have HP3 := fun w => Lib.hid (plus_ w q q (by omega))
      have HAB := fun w => Lib.hid (above_ w b (r + r + t))
      have HMN := fun (hh : b ≤ r + r + t) w => Lib.hid (minus_ w (r + r + t) b (by omega) hh)
      have HW1 := fun w => Lib.hid (word_ w 1 (by omega))
      have HP4 := fun w => Lib.hid (plus_ w (q + q) 1 (by omega))
      simp only [wd_sh] at HP1 HP2 HWT HP3 HAB HMN HW1 HP4
      have V := Lib.hid hv
      have HF := Lib.hid (show 2 * (q * b + r) + t = a / 2 ^ j ∧ r < b ∧ t < 2 ∧ 2 * q ≤ a ∧ q ≤ a from ⟨hhalf.symm, hrb, ht2, hqb, hqa⟩)
      clear hv hsum hrb hhalf hxx hqa hqb hk128 hji
      rcases Nat.lt_or_ge (r + r + t) b with hbr | hbr
      · rw [decide_eq_true hbr] at HAB
        have HBR := Lib.hid hbr
        clear hbr HMN HW1 HP4
        rcases Nat.lt_or_ge j 64 with hj | hj
        · have hj' : (j : Int) < 64 := by omega
          have HBIT := Lib.hid (bit_low a x y j HX.out.1 hj)
          rw [← ht] at HBIT
          clear ht ht2
          go_wp2_with fail
          rw [HBIT.out]
          refine (HP1 _).out.mono ?_
          rintro e w1 ⟨rfl, k1⟩
          have V1 := Lib.hid (V.out.grown k1)
          clear k1 x0 x1 r0 r1
          go_wp2_with fail
          refine (HWT _).out.mono ?_
          rintro e w2 ⟨rfl, k2⟩
          have V2 := Lib.hid (V1.out.grown k2)
          clear k2
          go_wp2_with fail
          refine (HP2 _).out.mono ?_
          rintro e w3 ⟨rfl, k3⟩
          have v3 := V2.out.grown k3
          have r0 := v3.r0
          have r1 := v3.r1
          have f0 := v3.rest.frozen 0
          have f1 := v3.rest.frozen 1
          have v4 := v3.setR PL.out (r + r + t)
          obtain ⟨w4, hw4⟩ : ∃ w4, w4 = (w3.setCell ⟨R, 0, none⟩ (.int .u64 (wh (r + r + t) : Int))).setCell ⟨R, 1, none⟩ (.int .u64 (wl (r + r + t) : Int)) := ⟨_, rfl⟩
          rw [← hw4] at v4
          have o0 : ((w3.setCell ⟨R, 0, none⟩ (.int .u64 (wh (r + r + t) : Int))).setCell ⟨R, 1, none⟩ (.int .u64 (wl (r + r + t) : Int))).cell? ⟨O, 0, none⟩ = some (.int .u64 (wh q : Int)) := by rw [← hw4]; exact v4.o0
          have o1 : ((w3.setCell ⟨R, 0, none⟩ (.int .u64 (wh (r + r + t) : Int))).setCell ⟨R, 1, none⟩ (.int .u64 (wl (r + r + t) : Int))).cell? ⟨O, 1, none⟩ = some (.int .u64 (wl q : Int)) := by rw [← hw4]; exact v4.o1
          have V4 := Lib.hid v4
          have HW4 := Lib.hid hw4
          clear k3 v3 v4 hw4
          go_wp2_with fail
          rw [← HW4.out]
          refine (HP3 _).out.mono ?_
          rintro e w5 ⟨rfl, k5⟩
          have v5 := V4.out.grown k5
          have z0 := v5.o0
          have z1 := v5.o1
          have zf0 := v5.out.frozen 0
          have zf1 := v5.out.frozen 1
          have v6 := v5.setO PL.out (q + q)
          clear k5 o0 o1 r0 r1 f0 f1
          obtain ⟨w6, hw6⟩ : ∃ w6, w6 = (w5.setCell ⟨O, 0, none⟩ (.int .u64 (wh (q + q) : Int))).setCell ⟨O, 1, none⟩ (.int .u64 (wl (q + q) : Int)) := ⟨_, rfl⟩
          rw [← hw6] at v6
          have V6 := Lib.hid v6
          have HW6 := Lib.hid hw6
          clear v5 v6 hw6
          go_wp2_with fail
          rw [← HW6.out]
          clear z0 z1 zf0 zf1 HW6 HW4
          have o0 := V6.out.r0
          have o1 := V6.out.r1
          go_region_held3 (fun w' => w'.cell? ⟨R, 0, none⟩ = some (.int .u64 (wh (r + r + t) : Int)) ∧ w'.cell? ⟨R, 1, none⟩ = some (.int .u64 (wl (r + r + t) : Int)))
            (first | exact ⟨o0, o1⟩ | exact ⟨p0, p1⟩ | exact ⟨s0, s1⟩)
            ((first
              | (go_at_call 49; refine (HWB _).out.mono ?_; rintro e w7 ⟨rfl, k7⟩; have p0 := Keeps.cell (k7 (fun _ => False)) (show w6.drew.cell? _ = _ from o0) (fun z => z); have p1 := Keeps.cell (k7 (fun _ => False)) (show w6.drew.cell? _ = _ from o1) (fun z => z); have K7 : Hid (∀ S, Keeps S w6 w7) := Lib.hid (fun S => Keeps.trans (Keeps.refl S w6).drew (k7 S)); clear k7)
              | (go_at_call 35; refine (HAB _).out.mono ?_; rintro e w8 ⟨rfl, k8⟩; have s0 := Keeps.cell (k8 (fun _ => False)) p0 (fun z => z); have s1 := Keeps.cell (k8 (fun _ => False)) p1 (fun z => z); have K8 : Hid (∀ S, Keeps S w6 w8) := Lib.hid (fun S => (K7.out S).trans (k8 S)); clear k8)))
          have V8 := Lib.hid (V6.out.grown K8.out)
          clear o0 o1 p0 p1 s0 s1
          go_wp2_with fail
          go_roundw
          case rel => exact ⟨j, q + q, r + r + t, rfl, by omega, V8.out, by have := HF.out.1; rw [Nat.add_mul]; omega, HBR.out⟩
          case measure => simp [intOf] <;> omega
        · have hj' : (64 : Int) ≤ (j : Int) := by omega
          have HBIT := Lib.hid (bit_high a x y j HX.out.1 HX.out.2.1 hj)
          rw [← ht] at HBIT
          clear ht ht2
          go_wp2_with fail
          rw [HBIT.out]
          refine (HP1 _).out.mono ?_
          rintro e w1 ⟨rfl, k1⟩
          have V1 := Lib.hid (V.out.grown k1)
          clear k1 x0 x1 r0 r1
          go_wp2_with fail
          refine (HWT _).out.mono ?_
          rintro e w2 ⟨rfl, k2⟩
          have V2 := Lib.hid (V1.out.grown k2)
          clear k2
          go_wp2_with fail
          refine (HP2 _).out.mono ?_
          rintro e w3 ⟨rfl, k3⟩
          have v3 := V2.out.grown k3
          have r0 := v3.r0
          have r1 := v3.r1
          have f0 := v3.rest.frozen 0
          have f1 := v3.rest.frozen 1
          have v4 := v3.setR PL.out (r + r + t)
          obtain ⟨w4, hw4⟩ : ∃ w4, w4 = (w3.setCell ⟨R, 0, none⟩ (.int .u64 (wh (r + r + t) : Int))).setCell ⟨R, 1, none⟩ (.int .u64 (wl (r + r + t) : Int)) := ⟨_, rfl⟩
          rw [← hw4] at v4
          have o0 : ((w3.setCell ⟨R, 0, none⟩ (.int .u64 (wh (r + r + t) : Int))).setCell ⟨R, 1, none⟩ (.int .u64 (wl (r + r + t) : Int))).cell? ⟨O, 0, none⟩ = some (.int .u64 (wh q : Int)) := by rw [← hw4]; exact v4.o0
          have o1 : ((w3.setCell ⟨R, 0, none⟩ (.int .u64 (wh (r + r + t) : Int))).setCell ⟨R, 1, none⟩ (.int .u64 (wl (r + r + t) : Int))).cell? ⟨O, 1, none⟩ = some (.int .u64 (wl q : Int)) := by rw [← hw4]; exact v4.o1
          have V4 := Lib.hid v4
          have HW4 := Lib.hid hw4
          clear k3 v3 v4 hw4
          go_wp2_with fail
          rw [← HW4.out]
          refine (HP3 _).out.mono ?_
          rintro e w5 ⟨rfl, k5⟩
          have v5 := V4.out.grown k5
          have z0 := v5.o0
          have z1 := v5.o1
          have zf0 := v5.out.frozen 0
          have zf1 := v5.out.frozen 1
          have v6 := v5.setO PL.out (q + q)
          clear k5 o0 o1 r0 r1 f0 f1
          obtain ⟨w6, hw6⟩ : ∃ w6, w6 = (w5.setCell ⟨O, 0, none⟩ (.int .u64 (wh (q + q) : Int))).setCell ⟨O, 1, none⟩ (.int .u64 (wl (q + q) : Int)) := ⟨_, rfl⟩
          rw [← hw6] at v6
          have V6 := Lib.hid v6
          have HW6 := Lib.hid hw6
          clear v5 v6 hw6
          go_wp2_with fail
          rw [← HW6.out]
          clear z0 z1 zf0 zf1 HW6 HW4
          have o0 := V6.out.r0
          have o1 := V6.out.r1
          go_region_held3 (fun w' => w'.cell? ⟨R, 0, none⟩ = some (.int .u64 (wh (r + r + t) : Int)) ∧ w'.cell? ⟨R, 1, none⟩ = some (.int .u64 (wl (r + r + t) : Int)))
            (first | exact ⟨o0, o1⟩ | exact ⟨p0, p1⟩ | exact ⟨s0, s1⟩)
            ((first
              | (go_at_call 49; refine (HWB _).out.mono ?_; rintro e w7 ⟨rfl, k7⟩; have p0 := Keeps.cell (k7 (fun _ => False)) (show w6.drew.cell? _ = _ from o0) (fun z => z); have p1 := Keeps.cell (k7 (fun _ => False)) (show w6.drew.cell? _ = _ from o1) (fun z => z); have K7 : Hid (∀ S, Keeps S w6 w7) := Lib.hid (fun S => Keeps.trans (Keeps.refl S w6).drew (k7 S)); clear k7)
              | (go_at_call 35; refine (HAB _).out.mono ?_; rintro e w8 ⟨rfl, k8⟩; have s0 := Keeps.cell (k8 (fun _ => False)) p0 (fun z => z); have s1 := Keeps.cell (k8 (fun _ => False)) p1 (fun z => z); have K8 : Hid (∀ S, Keeps S w6 w8) := Lib.hid (fun S => (K7.out S).trans (k8 S)); clear k8)))
          have V8 := Lib.hid (V6.out.grown K8.out)
          clear o0 o1 p0 p1 s0 s1
          go_wp2_with fail
          go_roundw
          case rel => exact ⟨j, q + q, r + r + t, rfl, by omega, V8.out, by have := HF.out.1; rw [Nat.add_mul]; omega, HBR.out⟩
          case measure => simp [intOf] <;> omega
      · rw [decide_eq_false (Nat.not_lt.2 hbr)] at HAB
        have HBR := Lib.hid hbr
        clear hbr
        rcases Nat.lt_or_ge j 64 with hj | hj
        · have hj' : (j : Int) < 64 := by omega
          have HBIT := Lib.hid (bit_low a x y j HX.out.1 hj)
          rw [← ht] at HBIT
          clear ht ht2
          go_wp2_with fail
          rw [HBIT.out]
          refine (HP1 _).out.mono ?_
          rintro e w1 ⟨rfl, k1⟩
          have V1 := Lib.hid (V.out.grown k1)
          clear k1 x0 x1 r0 r1
          go_wp2_with fail
          refine (HWT _).out.mono ?_
          rintro e w2 ⟨rfl, k2⟩
          have V2 := Lib.hid (V1.out.grown k2)
          clear k2
          go_wp2_with fail
          refine (HP2 _).out.mono ?_
          rintro e w3 ⟨rfl, k3⟩
          have v3 := V2.out.grown k3
          have r0 := v3.r0
          have r1 := v3.r1
          have f0 := v3.rest.frozen 0
          have f1 := v3.rest.frozen 1
          have v4 := v3.setR PL.out (r + r + t)
          obtain ⟨w4, hw4⟩ : ∃ w4, w4 = (w3.setCell ⟨R, 0, none⟩ (.int .u64 (wh (r + r + t) : Int))).setCell ⟨R, 1, none⟩ (.int .u64 (wl (r + r + t) : Int)) := ⟨_, rfl⟩
          rw [← hw4] at v4
          have o0 : ((w3.setCell ⟨R, 0, none⟩ (.int .u64 (wh (r + r + t) : Int))).setCell ⟨R, 1, none⟩ (.int .u64 (wl (r + r + t) : Int))).cell? ⟨O, 0, none⟩ = some (.int .u64 (wh q : Int)) := by rw [← hw4]; exact v4.o0
          have o1 : ((w3.setCell ⟨R, 0, none⟩ (.int .u64 (wh (r + r + t) : Int))).setCell ⟨R, 1, none⟩ (.int .u64 (wl (r + r + t) : Int))).cell? ⟨O, 1, none⟩ = some (.int .u64 (wl q : Int)) := by rw [← hw4]; exact v4.o1
          have V4 := Lib.hid v4
          have HW4 := Lib.hid hw4
          clear k3 v3 v4 hw4
          go_wp2_with fail
          rw [← HW4.out]
          refine (HP3 _).out.mono ?_
          rintro e w5 ⟨rfl, k5⟩
          have v5 := V4.out.grown k5
          have z0 := v5.o0
          have z1 := v5.o1
          have zf0 := v5.out.frozen 0
          have zf1 := v5.out.frozen 1
          have v6 := v5.setO PL.out (q + q)
          clear k5 o0 o1 r0 r1 f0 f1
          obtain ⟨w6, hw6⟩ : ∃ w6, w6 = (w5.setCell ⟨O, 0, none⟩ (.int .u64 (wh (q + q) : Int))).setCell ⟨O, 1, none⟩ (.int .u64 (wl (q + q) : Int)) := ⟨_, rfl⟩
          rw [← hw6] at v6
          have V6 := Lib.hid v6
          have HW6 := Lib.hid hw6
          clear v5 v6 hw6
          go_wp2_with fail
          rw [← HW6.out]
          clear z0 z1 zf0 zf1 HW6 HW4
          have o0 := V6.out.r0
          have o1 := V6.out.r1
          go_region_held3 (fun w' => w'.cell? ⟨R, 0, none⟩ = some (.int .u64 (wh (r + r + t) : Int)) ∧ w'.cell? ⟨R, 1, none⟩ = some (.int .u64 (wl (r + r + t) : Int)))
            (first | exact ⟨o0, o1⟩ | exact ⟨p0, p1⟩ | exact ⟨s0, s1⟩)
            ((first
              | (go_at_call 49; refine (HWB _).out.mono ?_; rintro e w7 ⟨rfl, k7⟩; have p0 := Keeps.cell (k7 (fun _ => False)) (show w6.drew.cell? _ = _ from o0) (fun z => z); have p1 := Keeps.cell (k7 (fun _ => False)) (show w6.drew.cell? _ = _ from o1) (fun z => z); have K7 : Hid (∀ S, Keeps S w6 w7) := Lib.hid (fun S => Keeps.trans (Keeps.refl S w6).drew (k7 S)); clear k7)
              | (go_at_call 35; refine (HAB _).out.mono ?_; rintro e w8 ⟨rfl, k8⟩; have s0 := Keeps.cell (k8 (fun _ => False)) p0 (fun z => z); have s1 := Keeps.cell (k8 (fun _ => False)) p1 (fun z => z); have K8 : Hid (∀ S, Keeps S w6 w8) := Lib.hid (fun S => (K7.out S).trans (k8 S)); clear k8)))
          have v8 := V6.out.grown K8.out
          have y0 := v8.r0
          have y1 := v8.r1
          have yf0 := v8.rest.frozen 0
          have yf1 := v8.rest.frozen 1
          have V8 := Lib.hid v8
          clear o0 o1 p0 p1 s0 s1 v8
          go_wp2_with fail
          go_region_law (first
            | (go_simp; go_at_call 49; refine (HWB _).out.mono ?_; rintro e w9 ⟨rfl, k9⟩; have p0 := Keeps.cell (k9 (fun _ => False)) (show w8.drew.cell? _ = _ from y0) (fun z => z); have p1 := Keeps.cell (k9 (fun _ => False)) (show w8.drew.cell? _ = _ from y1) (fun z => z); have K9 : Hid (∀ S, Keeps S w8 w9) := Lib.hid (fun S => Keeps.trans (Keeps.refl S w8).drew (k9 S)); clear k9)
            | (go_simp; go_at_call 39; refine (HMN HBR.out _).out.mono ?_; rintro e wb ⟨rfl, kb⟩; have vb := V8.out.grown (fun S => (K9.out S).trans (kb S)); have s0 := vb.r0; have s1 := vb.r1; have gf0 := vb.rest.frozen 0; have gf1 := vb.rest.frozen 1; have VB := Lib.hid vb; clear kb vb))
          all_goals
            obtain ⟨wc, hwc⟩ : ∃ wc, wc = (wb.setCell ⟨R, 0, none⟩ (.int .u64 (wh (r + r + t - b) : Int))).setCell ⟨R, 1, none⟩ (.int .u64 (wl (r + r + t - b) : Int)) := ⟨_, rfl⟩
            have vc := VB.out.setR PL.out (r + r + t - b)
            rw [← hwc] at vc ⊢
            have g0 := vc.o0
            have g1 := vc.o1
            have gg0 := vc.out.frozen 0
            have gg1 := vc.out.frozen 1
            have VC := Lib.hid vc
            clear vc hwc
            go_wp2_with fail
            go_region_law (first
              | (go_simp; go_at_call 49; refine (HW1 _).out.mono ?_; rintro e wd ⟨rfl, kd⟩; have l0 := Keeps.cell (kd (fun _ => False)) (show wc.drew.cell? _ = _ from g0) (fun z => z); have l1 := Keeps.cell (kd (fun _ => False)) (show wc.drew.cell? _ = _ from g1) (fun z => z); have KD : Hid (∀ S, Keeps S wc wd) := Lib.hid (fun S => Keeps.trans (Keeps.refl S wc).drew (kd S)); clear kd)
              | (go_simp; go_at_call 36; refine (HP4 _).out.mono ?_; rintro e we ⟨rfl, ke⟩; have ve := VC.out.grown (fun S => (KD.out S).trans (ke S)); have m0 := ve.o0; have m1 := ve.o1; have mf0 := ve.out.frozen 0; have mf1 := ve.out.frozen 1; have VE := Lib.hid ve; clear ke ve))
            all_goals
              have VF := Lib.hid (VE.out.setO PL.out (q + q + 1))
              go_wp2_with fail
              go_roundw
              case rel => exact ⟨j, q + q + 1, r + r + t - b, rfl, by omega, VF.out, by have h1 := HF.out.1; have h2 := HBR.out; rw [Nat.add_mul, Nat.add_mul, Nat.one_mul]; omega, by have h1 := HF.out; omega⟩
              case measure => simp [intOf] <;> omega
        · have hj' : (64 : Int) ≤ (j : Int) := by omega
          have HBIT := Lib.hid (bit_high a x y j HX.out.1 HX.out.2.1 hj)
          rw [← ht] at HBIT
          clear ht ht2
          go_wp2_with fail
          rw [HBIT.out]
          refine (HP1 _).out.mono ?_
          rintro e w1 ⟨rfl, k1⟩
          have V1 := Lib.hid (V.out.grown k1)
          clear k1 x0 x1 r0 r1
          go_wp2_with fail
          refine (HWT _).out.mono ?_
          rintro e w2 ⟨rfl, k2⟩
          have V2 := Lib.hid (V1.out.grown k2)
          clear k2
          go_wp2_with fail
          refine (HP2 _).out.mono ?_
          rintro e w3 ⟨rfl, k3⟩
          have v3 := V2.out.grown k3
          have r0 := v3.r0
          have r1 := v3.r1
          have f0 := v3.rest.frozen 0
          have f1 := v3.rest.frozen 1
          have v4 := v3.setR PL.out (r + r + t)
          obtain ⟨w4, hw4⟩ : ∃ w4, w4 = (w3.setCell ⟨R, 0, none⟩ (.int .u64 (wh (r + r + t) : Int))).setCell ⟨R, 1, none⟩ (.int .u64 (wl (r + r + t) : Int)) := ⟨_, rfl⟩
          rw [← hw4] at v4
          have o0 : ((w3.setCell ⟨R, 0, none⟩ (.int .u64 (wh (r + r + t) : Int))).setCell ⟨R, 1, none⟩ (.int .u64 (wl (r + r + t) : Int))).cell? ⟨O, 0, none⟩ = some (.int .u64 (wh q : Int)) := by rw [← hw4]; exact v4.o0
          have o1 : ((w3.setCell ⟨R, 0, none⟩ (.int .u64 (wh (r + r + t) : Int))).setCell ⟨R, 1, none⟩ (.int .u64 (wl (r + r + t) : Int))).cell? ⟨O, 1, none⟩ = some (.int .u64 (wl q : Int)) := by rw [← hw4]; exact v4.o1
          have V4 := Lib.hid v4
          have HW4 := Lib.hid hw4
          clear k3 v3 v4 hw4
          go_wp2_with fail
          rw [← HW4.out]
          refine (HP3 _).out.mono ?_
          rintro e w5 ⟨rfl, k5⟩
          have v5 := V4.out.grown k5
          have z0 := v5.o0
          have z1 := v5.o1
          have zf0 := v5.out.frozen 0
          have zf1 := v5.out.frozen 1
          have v6 := v5.setO PL.out (q + q)
          clear k5 o0 o1 r0 r1 f0 f1
          obtain ⟨w6, hw6⟩ : ∃ w6, w6 = (w5.setCell ⟨O, 0, none⟩ (.int .u64 (wh (q + q) : Int))).setCell ⟨O, 1, none⟩ (.int .u64 (wl (q + q) : Int)) := ⟨_, rfl⟩
          rw [← hw6] at v6
          have V6 := Lib.hid v6
          have HW6 := Lib.hid hw6
          clear v5 v6 hw6
          go_wp2_with fail
          rw [← HW6.out]
          clear z0 z1 zf0 zf1 HW6 HW4
          have o0 := V6.out.r0
          have o1 := V6.out.r1
          go_region_held3 (fun w' => w'.cell? ⟨R, 0, none⟩ = some (.int .u64 (wh (r + r + t) : Int)) ∧ w'.cell? ⟨R, 1, none⟩ = some (.int .u64 (wl (r + r + t) : Int)))
            (first | exact ⟨o0, o1⟩ | exact ⟨p0, p1⟩ | exact ⟨s0, s1⟩)
            ((first
              | (go_at_call 49; refine (HWB _).out.mono ?_; rintro e w7 ⟨rfl, k7⟩; have p0 := Keeps.cell (k7 (fun _ => False)) (show w6.drew.cell? _ = _ from o0) (fun z => z); have p1 := Keeps.cell (k7 (fun _ => False)) (show w6.drew.cell? _ = _ from o1) (fun z => z); have K7 : Hid (∀ S, Keeps S w6 w7) := Lib.hid (fun S => Keeps.trans (Keeps.refl S w6).drew (k7 S)); clear k7)
              | (go_at_call 35; refine (HAB _).out.mono ?_; rintro e w8 ⟨rfl, k8⟩; have s0 := Keeps.cell (k8 (fun _ => False)) p0 (fun z => z); have s1 := Keeps.cell (k8 (fun _ => False)) p1 (fun z => z); have K8 : Hid (∀ S, Keeps S w6 w8) := Lib.hid (fun S => (K7.out S).trans (k8 S)); clear k8)))
          have v8 := V6.out.grown K8.out
          have y0 := v8.r0
          have y1 := v8.r1
          have yf0 := v8.rest.frozen 0
          have yf1 := v8.rest.frozen 1
          have V8 := Lib.hid v8
          clear o0 o1 p0 p1 s0 s1 v8
          go_wp2_with fail
          go_region_law (first
            | (go_simp; go_at_call 49; refine (HWB _).out.mono ?_; rintro e w9 ⟨rfl, k9⟩; have p0 := Keeps.cell (k9 (fun _ => False)) (show w8.drew.cell? _ = _ from y0) (fun z => z); have p1 := Keeps.cell (k9 (fun _ => False)) (show w8.drew.cell? _ = _ from y1) (fun z => z); have K9 : Hid (∀ S, Keeps S w8 w9) := Lib.hid (fun S => Keeps.trans (Keeps.refl S w8).drew (k9 S)); clear k9)
            | (go_simp; go_at_call 39; refine (HMN HBR.out _).out.mono ?_; rintro e wb ⟨rfl, kb⟩; have vb := V8.out.grown (fun S => (K9.out S).trans (kb S)); have s0 := vb.r0; have s1 := vb.r1; have gf0 := vb.rest.frozen 0; have gf1 := vb.rest.frozen 1; have VB := Lib.hid vb; clear kb vb))
          all_goals
            obtain ⟨wc, hwc⟩ : ∃ wc, wc = (wb.setCell ⟨R, 0, none⟩ (.int .u64 (wh (r + r + t - b) : Int))).setCell ⟨R, 1, none⟩ (.int .u64 (wl (r + r + t - b) : Int)) := ⟨_, rfl⟩
            have vc := VB.out.setR PL.out (r + r + t - b)
            rw [← hwc] at vc ⊢
            have g0 := vc.o0
            have g1 := vc.o1
            have gg0 := vc.out.frozen 0
            have gg1 := vc.out.frozen 1
            have VC := Lib.hid vc
            clear vc hwc
            go_wp2_with fail
            go_region_law (first
              | (go_simp; go_at_call 49; refine (HW1 _).out.mono ?_; rintro e wd ⟨rfl, kd⟩; have l0 := Keeps.cell (kd (fun _ => False)) (show wc.drew.cell? _ = _ from g0) (fun z => z); have l1 := Keeps.cell (kd (fun _ => False)) (show wc.drew.cell? _ = _ from g1) (fun z => z); have KD : Hid (∀ S, Keeps S wc wd) := Lib.hid (fun S => Keeps.trans (Keeps.refl S wc).drew (kd S)); clear kd)
              | (go_simp; go_at_call 36; refine (HP4 _).out.mono ?_; rintro e we ⟨rfl, ke⟩; have ve := VC.out.grown (fun S => (KD.out S).trans (ke S)); have m0 := ve.o0; have m1 := ve.o1; have mf0 := ve.out.frozen 0; have mf1 := ve.out.frozen 1; have VE := Lib.hid ve; clear ke ve))
            all_goals
              have VF := Lib.hid (VE.out.setO PL.out (q + q + 1))
              go_wp2_with fail
              go_roundw
              case rel => exact ⟨j, q + q + 1, r + r + t - b, rfl, by omega, VF.out, by have h1 := HF.out.1; have h2 := HBR.out; rw [Nat.add_mul, Nat.add_mul, Nat.one_mul]; omega, by have h1 := HF.out; omega⟩
              case measure => simp [intOf] <;> omega
end
end Go.Proofs.Ytbiadglhfpapaaa.bk
