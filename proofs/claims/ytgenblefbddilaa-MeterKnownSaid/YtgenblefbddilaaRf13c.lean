/-
  What a call of a meter comes to; the plain machine at every call; patchbaylaw13's call.
-/
import Derived.Test.YtgenblefbddilaaRf13l
import Derived.Test.YtgenblefbddilaaMzWith
set_option linter.unusedVariables false
namespace Go.Proofs.Ytgenblefbddilaa.rf13
open Go.RowKit Go.Proofs.Ytgenblefbddilaa.oc Go.Proofs.Ytgenblefbddilaa.mz Go.Proofs.Ytgenblefbddilaa.bk Go.Proofs.Ytgenblefbddilaa.bp
/-- what comes of a call: its code, what it tells, the words behind it, its operations -/
structure Out where
  code : List Ins
  told : List Nat
  next : List Nat
  marks : List (Nat × Nat)
/-- the code of a call of kind r -/
def codeOf (n d u r now k : Nat) : List Ins :=
  if r = 0 then (if now ≤ 1099511627776 then (if k ≤ u then takeCode (now * n) (k * d) (now * n + u * d) else takeCode (now * n) 0 0) else lateCode)
  else if r = 1 then (if now ≤ 1099511627776 then levelCode (now * n) (u * d) d else lateCode) else stateCode
def outOf (n d u r now k : Nat) (ws : List Nat) : Out :=
  let s := ws[0]?.getD 0
  if r = 0 then
    if now ≤ 1099511627776 then
      if lets n d u s now k then ⟨codeOf n d u r now k, [0, 1], [takeOf n d u s now k], [(1, 0), (5, 0)]⟩ else ⟨codeOf n d u r now k, [0, 0], [s], [(1, 0)]⟩
    else ⟨codeOf n d u r now k, [5, 0], [s], []⟩
  else if r = 1 then
    if now ≤ 1099511627776 then ⟨codeOf n d u r now k, [0, level n d u s now], [s], [(1, 0)]⟩ else ⟨codeOf n d u r now k, [5, 0], [s], []⟩
  else ⟨codeOf n d u r now k, [0, s], [s], [(1, 0)]⟩
theorem out_code (n d u r now k : Nat) (ws : List Nat) : (outOf n d u r now k ws).code = codeOf n d u r now k := by
  simp only [outOf]
  (repeat' split) <;> rfl
section
variable {n d u now k s : Nat}
theorem nums (hm : May n d u) (hnow : now ≤ 1099511627776) : now * n ≤ 72057594037927936 ∧ 1 ≤ u * d ∧ u * d ≤ 68719476736 := by
  obtain ⟨⟨n0, n1⟩, ⟨d0, d1⟩, b0, b1⟩ := hm
  exact ⟨Nat.mul_le_mul hnow n1, Nat.mul_le_mul b0 d0, Nat.mul_le_mul b1 d1⟩
theorem let_says (i q f : Nat) (hs : s ≤ 144115188075855872) (hi : now * n = i) (hq : k * d = q) (hf : u * d = f) (hq1 : q ≤ 68719476736) (hi1 : i ≤ 72057594037927936) (hf1 : f ≤ 68719476736) :
    (lets n d u s now k = true ↔ ¬ i + f < (max s i + q) % 18446744073709551616) ∧ (lets n d u s now k = true → takeOf n d u s now k = (max s i + q) % 18446744073709551616 ∧ takeOf n d u s now k ≤ 144115188075855872) := by
  have e : lets n d u s now k = true ↔ (max s i - i) + q ≤ f := by unfold lets aOf; rw [hi, hq, hf]; simp
  constructor
  · rw [e]; omega
  · intro h
    have h2 := e.1 h
    have : takeOf n d u s now k = (max s i + q) % 18446744073709551616 := by unfold takeOf tOf; rw [if_pos h, hi, hq]
    rw [this]
    exact ⟨rfl, by omega⟩
theorem let_over (hm : May n d u) (hk : u < k) : lets n d u s now k = false := by
  obtain ⟨_, ⟨d0, _⟩, _, _⟩ := hm
  have h : u * d < k * d := Nat.mul_lt_mul_of_pos_right hk (by omega)
  unfold lets
  rw [decide_eq_false]
  omega
theorem take_low (hm : May n d u) (hnow : now ≤ 1099511627776) (hs : s ≤ 144115188075855872) (hl : lets n d u s now k = true) : takeOf n d u s now k ≤ 144115188075855872 := by
  obtain ⟨h1, h2, h3⟩ := nums hm hnow
  rcases Nat.lt_or_ge u k with hk | hk
  · rw [let_over hm hk] at hl; cases hl
  · have hq1 : k * d ≤ 68719476736 := Nat.le_trans (Nat.mul_le_mul_right d hk) h3
    exact ((let_says _ _ _ hs rfl rfl rfl hq1 h1 h3).2 hl).2
theorem level_says (i f : Nat) (hi : now * n = i) (hf : u * d = f) : level n d u s now = (f - (max s i - i)) / d := by unfold level aOf; rw [hi, hf]
end
/-- the plain machine at a call -/
theorem play_any {n d u r now k : Nat} {ws : List Nat} (hl : ws.length = 1) (hm : May n d u) (hs : ws[0]?.getD 0 ≤ 144115188075855872) (hr : r < 3) :
    ∃ f pl, plays 40 f [ws] [] [[((outOf n d u r now k ws).code, [])]] = some pl ∧ pl.ws = [(outOf n d u r now k ws).next] ∧ pl.trace.map (·.2) = (outOf n d u r now k ws).marks ∧ pl.ths.map (·.ans) = [[(true, (outOf n d u r now k ws).told)]] := by
  obtain ⟨s, rfl⟩ : ∃ s, ws = [s] := by
    match ws, hl with
    | [s], _ => exact ⟨s, rfl⟩
  have hs : s ≤ 144115188075855872 := hs
  have d1 : d < 18446744073709551616 := by obtain ⟨_, ⟨_, h⟩, _⟩ := hm; omega
  have d0 : ¬ d = 0 := by obtain ⟨_, ⟨h, _⟩, _⟩ := hm; omega
  rcases (show r = 0 ∨ r = 1 ∨ r = 2 by omega) with rfl | rfl | rfl
  · by_cases hn : now ≤ 1099511627776
    · obtain ⟨h1, h2, h3⟩ := nums hm hn
      rcases Nat.lt_or_ge u k with hk | hk
      · have hlet := let_over (s := s) (now := now) hm hk
        have ho : outOf n d u 0 now k [s] = ⟨takeCode (now * n) 0 0, [0, 0], [s], [(1, 0)]⟩ := by simp [outOf, hn, hlet, codeOf, Nat.not_le.2 hk]
        rw [ho]
        obtain ⟨pl, p1, p2, p3, p4⟩ := play_take_none (s := s) (c := now * n) (by omega)
        exact ⟨_, pl, p1, p2, by rw [p3]; rfl, p4⟩
      · have hq1 : k * d ≤ 68719476736 := Nat.le_trans (Nat.mul_le_mul_right d hk) h3
        obtain ⟨q1, q2⟩ := let_says (s := s) _ _ _ hs rfl rfl rfl hq1 h1 h3
        cases hlet : lets n d u s now k with
        | true =>
          have ho : outOf n d u 0 now k [s] = ⟨takeCode (now * n) (k * d) (now * n + u * d), [0, 1], [takeOf n d u s now k], [(1, 0), (5, 0)]⟩ := by simp [outOf, hn, hlet, codeOf, hk]
          rw [ho, (q2 hlet).1]
          obtain ⟨pl, p1, p2, p3, p4⟩ := play_take_yes (s := s) (c := now * n) (q := k * d) (t := now * n + u * d) (by omega) (by omega) (by omega) rfl rfl (by omega) (q1.1 hlet)
          exact ⟨_, pl, p1, p2, by rw [p3]; rfl, p4⟩
        | false =>
          have ho : outOf n d u 0 now k [s] = ⟨takeCode (now * n) (k * d) (now * n + u * d), [0, 0], [s], [(1, 0)]⟩ := by simp [outOf, hn, hlet, codeOf, hk]
          rw [ho]
          obtain ⟨pl, p1, p2, p3, p4⟩ := play_take_no (s := s) (c := now * n) (q := k * d) (t := now * n + u * d) (by omega) (by omega) (by omega) rfl rfl (by omega) (Decidable.byContradiction fun z => by have := q1.2 z; rw [hlet] at this; cases this)
          exact ⟨_, pl, p1, p2, by rw [p3]; rfl, p4⟩
    · have ho : outOf n d u 0 now k [s] = ⟨lateCode, [5, 0], [s], []⟩ := by simp [outOf, hn, codeOf]
      rw [ho]
      obtain ⟨pl, p1, p2, p3, p4⟩ := play_late (s := s)
      exact ⟨_, pl, p1, p2, by rw [p3]; rfl, p4⟩
  · by_cases hn : now ≤ 1099511627776
    · obtain ⟨h1, h2, h3⟩ := nums hm hn
      have ho : outOf n d u 1 now k [s] = ⟨levelCode (now * n) (u * d) d, [0, level n d u s now], [s], [(1, 0)]⟩ := by simp [outOf, hn, codeOf]
      rw [ho, level_says _ _ rfl rfl]
      generalize now * n = i at *
      generalize u * d = f at *
      by_cases hlo : i + f < max s i
      · obtain ⟨pl, p1, p2, p3, p4⟩ := play_level_low (s := s) (c := i) (f := f) (d := d) (m := max s i) (t := i + f) (by omega) (by omega) d1 rfl (by omega) hlo
        refine ⟨_, pl, p1, p2, by rw [p3]; rfl, ?_⟩
        rw [p4, show f - (max s i - i) = 0 from by omega, Nat.zero_div]
      · obtain ⟨pl, p1, p2, p3, p4⟩ := play_level (s := s) (c := i) (f := f) (d := d) (m := max s i) (t := i + f) (r := f - (max s i - i)) (by omega) (by omega) d1 rfl (by omega) hlo (by omega) d0
        exact ⟨_, pl, p1, p2, by rw [p3]; rfl, p4⟩
    · have ho : outOf n d u 1 now k [s] = ⟨lateCode, [5, 0], [s], []⟩ := by simp [outOf, hn, codeOf]
      rw [ho]
      obtain ⟨pl, p1, p2, p3, p4⟩ := play_late (s := s)
      exact ⟨_, pl, p1, p2, by rw [p3]; rfl, p4⟩
  · have ho : outOf n d u 2 now k [s] = ⟨stateCode, [0, s], [s], [(1, 0)]⟩ := by simp [outOf, codeOf]
    rw [ho]
    obtain ⟨pl, p1, p2, p3, p4⟩ := play_state (s := s)
    exact ⟨_, pl, p1, p2, by rw [p3]; rfl, p4⟩
theorem do_blk (n d u : Nat) (kd : Int) (now k : Nat) (w : World) : ∃ wB w1, wB = (w.alloc (.cells #[.int .u64 (n : Int), .int .u64 (d : Int), .int .u64 (u : Int)] 24)).alloc (.cells #[.int .i64 kd, .int .u64 (now : Int), .int .u64 (k : Int)] 43) ∧ w1 = wB.alloc (.cells #[.slice none 0 0, .slice none 0 0] 49) ∧ wB.heap.size = w.heap.size + 1 + 1 ∧ (∀ S, Keeps S w wB) ∧ (∀ S, Keeps S wB w1) ∧ Blk w1 w.heap.size 24 [.int .u64 (n : Int), .int .u64 (d : Int), .int .u64 (u : Int)] ∧ Blk w1 (w.heap.size + 1) 43 [.int .i64 kd, .int .u64 (now : Int), .int .u64 (k : Int)] ∧ Blk w1 wB.heap.size 49 [.slice none 0 0, .slice none 0 0] := by
  have b2 := (Blk.new (w.alloc (.cells #[.int .u64 (n : Int), .int .u64 (d : Int), .int .u64 (u : Int)] 24)) 43 #[.int .i64 kd, .int .u64 (now : Int), .int .u64 (k : Int)]).alloc (.cells #[.slice none 0 0, .slice none 0 0] 49)
  rw [World.size_alloc] at b2
  exact ⟨_, _, rfl, rfl, by rw [World.size_alloc, World.size_alloc], fun S => ((Keeps.refl _ w).alloc _).alloc _, fun S => (Keeps.refl _ _).alloc _, ((Blk.new w _ _).alloc _).alloc _, b2, Blk.new _ _ _⟩
section
variable (n d u now k : Nat) (kd : Int) (w : World)
set_option maxRecDepth 100000 in
set_option maxHeartbeats 2000000 in
theorem call_0in (hr : kd % 3 = 0) (h1 : -9223372036854775808 ≤ kd) (h2 : kd ≤ 9223372036854775807) (hm : May n d u) (hnow : now ≤ 1099511627776) (hk : k ≤ u) :
    Calls Try.prog 13 #[bv n d u, .agg #[.int .i64 kd, .int .u64 (now : Int), .int .u64 (k : Int)]] w (CallMade w (codeOf n d u 0 now k)) := by
  obtain ⟨wB, w1, hwB, hw1, hsB, kB, k1, bU, bD, bC⟩ := do_blk n d u kd now k w
  have u0 : w1.cell? ⟨w.heap.size, 0, none⟩ = some (.int .u64 (n : Int)) := by rw [bU.cell]; rfl
  have u1 : w1.cell? ⟨w.heap.size, 1, none⟩ = some (.int .u64 (d : Int)) := by rw [bU.cell]; rfl
  have u2 : w1.cell? ⟨w.heap.size, 2, none⟩ = some (.int .u64 (u : Int)) := by rw [bU.cell]; rfl
  have d0 : w1.cell? ⟨w.heap.size + 1, 0, none⟩ = some (.int .i64 kd) := by rw [bD.cell]; rfl
  have d1 : w1.cell? ⟨w.heap.size + 1, 1, none⟩ = some (.int .u64 (now : Int)) := by rw [bD.cell]; rfl
  have d2 : w1.cell? ⟨w.heap.size + 1, 2, none⟩ = some (.int .u64 (k : Int)) := by rw [bD.cell]; rfl
  have HWI := Lib.hid (within_ kd 3 w1 (by omega) (by omega) h1 h2)
  have hc3 : ((3 : Nat) : Int) = 3 := rfl
  rw [hc3, hr] at HWI
  have hp := take_in n d u w1 now k hm hnow hk
  have hcode : codeOf n d u 0 now k = codeOf n d u 0 now k := rfl
  have he : ∃ c, c = codeOf n d u 0 now k ∧ Calls Try.prog 25 #[bv n d u, .int .u64 (now : Int), .int .u64 (k : Int)] w1 (CallMade w1 c) := ⟨_, rfl, by simpa [codeOf, hnow, hk] using hp⟩
  clear hp hcode
  obtain ⟨code, hcd, hp⟩ := he
  rw [← hcd]
  unfold bv at hp ⊢
  have HP := Lib.hid hp
  have HW : Hid (w1 = ((w.alloc (.cells #[.int .u64 (n : Int), .int .u64 (d : Int), .int .u64 (u : Int)] 24)).alloc (.cells #[.int .i64 kd, .int .u64 (now : Int), .int .u64 (k : Int)] 43)).alloc (.cells #[.slice none 0 0, .slice none 0 0] 49)) := Lib.hid (by rw [hw1, hwB])
  have KB : Hid (∀ S, Keeps S w wB) := Lib.hid kB
  have K1 : Hid (∀ S, Keeps S wB w1) := Lib.hid k1
  have BC := Lib.hid bC
  have HSB := Lib.hid hsB
  clear hwB hw1 hsB kB k1 bU bD bC hc3 hr h1 h2 hp hcd hm hnow hk
  go_enter Try.func13, Try.ntmps13
  go_wp2_with fail
  rw [← HW.out]
  go_wp2_with fail
  refine HWI.out.mono ?_
  rintro e w' ⟨rfl, rfl⟩
  go_wp2_with fail
  refine HP.out.mono ?_
  rintro e w2 ⟨cv, dv, rfl, hb, k2⟩
  obtain ⟨⟨CA, cc, hcv, _⟩, ⟨DA, dc, hdv, _⟩⟩ := hb w2 (Keeps.refl _ _)
  subst hcv
  subst hdv
  have b2 := Blk.keeps BC.out (k2 (fun _ => False)) (fun z => z)
  have HE := Lib.hid (CallMade.base (call_end13 K1.out BC.out k2 hb) KB.out)
  have B2 := Lib.hid b2
  rw [HSB.out] at b2
  have f0 := b2.frozen 0
  have f1 := b2.frozen 1
  have x0 : w2.cell? ⟨w.heap.size + 1 + 1, 0, none⟩ = some (.slice none 0 0) := by rw [b2.cell]; rfl
  have x1 : w2.cell? ⟨w.heap.size + 1 + 1, 1, none⟩ = some (.slice none 0 0) := by rw [b2.cell]; rfl
  clear hb k2 b2
  go_wp2_with fail
  have hE := HE.out
  obtain ⟨r0, r1, hk⟩ := mz.stored (u := .slice CA code.length cc) (v := .slice DA 0 dc) B2.out
  rw [HSB.out] at r0 r1 hE
  exact bodyPost_ret (v := .agg #[.slice CA code.length cc, .slice DA 0 dc]) (by simp [results, Try.results13, go_sem, r0, r1]) rfl hE
set_option maxRecDepth 100000 in
set_option maxHeartbeats 2000000 in
theorem call_0out (hr : kd % 3 = 0) (h1 : -9223372036854775808 ≤ kd) (h2 : kd ≤ 9223372036854775807) (hm : May n d u) (hnow : now ≤ 1099511627776) (hk : u < k) :
    Calls Try.prog 13 #[bv n d u, .agg #[.int .i64 kd, .int .u64 (now : Int), .int .u64 (k : Int)]] w (CallMade w (codeOf n d u 0 now k)) := by
  obtain ⟨wB, w1, hwB, hw1, hsB, kB, k1, bU, bD, bC⟩ := do_blk n d u kd now k w
  have u0 : w1.cell? ⟨w.heap.size, 0, none⟩ = some (.int .u64 (n : Int)) := by rw [bU.cell]; rfl
  have u1 : w1.cell? ⟨w.heap.size, 1, none⟩ = some (.int .u64 (d : Int)) := by rw [bU.cell]; rfl
  have u2 : w1.cell? ⟨w.heap.size, 2, none⟩ = some (.int .u64 (u : Int)) := by rw [bU.cell]; rfl
  have d0 : w1.cell? ⟨w.heap.size + 1, 0, none⟩ = some (.int .i64 kd) := by rw [bD.cell]; rfl
  have d1 : w1.cell? ⟨w.heap.size + 1, 1, none⟩ = some (.int .u64 (now : Int)) := by rw [bD.cell]; rfl
  have d2 : w1.cell? ⟨w.heap.size + 1, 2, none⟩ = some (.int .u64 (k : Int)) := by rw [bD.cell]; rfl
  have HWI := Lib.hid (within_ kd 3 w1 (by omega) (by omega) h1 h2)
  have hc3 : ((3 : Nat) : Int) = 3 := rfl
  rw [hc3, hr] at HWI
  have hp := take_out n d u w1 now k hm hnow hk
  have hcode : codeOf n d u 0 now k = codeOf n d u 0 now k := rfl
  have he : ∃ c, c = codeOf n d u 0 now k ∧ Calls Try.prog 25 #[bv n d u, .int .u64 (now : Int), .int .u64 (k : Int)] w1 (CallMade w1 c) := ⟨_, rfl, by simpa [codeOf, hnow, Nat.not_le.2 hk] using hp⟩
  clear hp hcode
  obtain ⟨code, hcd, hp⟩ := he
  rw [← hcd]
  unfold bv at hp ⊢
  have HP := Lib.hid hp
  have HW : Hid (w1 = ((w.alloc (.cells #[.int .u64 (n : Int), .int .u64 (d : Int), .int .u64 (u : Int)] 24)).alloc (.cells #[.int .i64 kd, .int .u64 (now : Int), .int .u64 (k : Int)] 43)).alloc (.cells #[.slice none 0 0, .slice none 0 0] 49)) := Lib.hid (by rw [hw1, hwB])
  have KB : Hid (∀ S, Keeps S w wB) := Lib.hid kB
  have K1 : Hid (∀ S, Keeps S wB w1) := Lib.hid k1
  have BC := Lib.hid bC
  have HSB := Lib.hid hsB
  clear hwB hw1 hsB kB k1 bU bD bC hc3 hr h1 h2 hp hcd hm hnow hk
  go_enter Try.func13, Try.ntmps13
  go_wp2_with fail
  rw [← HW.out]
  go_wp2_with fail
  refine HWI.out.mono ?_
  rintro e w' ⟨rfl, rfl⟩
  go_wp2_with fail
  refine HP.out.mono ?_
  rintro e w2 ⟨cv, dv, rfl, hb, k2⟩
  obtain ⟨⟨CA, cc, hcv, _⟩, ⟨DA, dc, hdv, _⟩⟩ := hb w2 (Keeps.refl _ _)
  subst hcv
  subst hdv
  have b2 := Blk.keeps BC.out (k2 (fun _ => False)) (fun z => z)
  have HE := Lib.hid (CallMade.base (call_end13 K1.out BC.out k2 hb) KB.out)
  have B2 := Lib.hid b2
  rw [HSB.out] at b2
  have f0 := b2.frozen 0
  have f1 := b2.frozen 1
  have x0 : w2.cell? ⟨w.heap.size + 1 + 1, 0, none⟩ = some (.slice none 0 0) := by rw [b2.cell]; rfl
  have x1 : w2.cell? ⟨w.heap.size + 1 + 1, 1, none⟩ = some (.slice none 0 0) := by rw [b2.cell]; rfl
  clear hb k2 b2
  go_wp2_with fail
  have hE := HE.out
  obtain ⟨r0, r1, hk⟩ := mz.stored (u := .slice CA code.length cc) (v := .slice DA 0 dc) B2.out
  rw [HSB.out] at r0 r1 hE
  exact bodyPost_ret (v := .agg #[.slice CA code.length cc, .slice DA 0 dc]) (by simp [results, Try.results13, go_sem, r0, r1]) rfl hE
set_option maxRecDepth 100000 in
set_option maxHeartbeats 2000000 in
theorem call_0late (hr : kd % 3 = 0) (h1 : -9223372036854775808 ≤ kd) (h2 : kd ≤ 9223372036854775807) (hnow : ¬ now ≤ 1099511627776) :
    Calls Try.prog 13 #[bv n d u, .agg #[.int .i64 kd, .int .u64 (now : Int), .int .u64 (k : Int)]] w (CallMade w (codeOf n d u 0 now k)) := by
  obtain ⟨wB, w1, hwB, hw1, hsB, kB, k1, bU, bD, bC⟩ := do_blk n d u kd now k w
  have u0 : w1.cell? ⟨w.heap.size, 0, none⟩ = some (.int .u64 (n : Int)) := by rw [bU.cell]; rfl
  have u1 : w1.cell? ⟨w.heap.size, 1, none⟩ = some (.int .u64 (d : Int)) := by rw [bU.cell]; rfl
  have u2 : w1.cell? ⟨w.heap.size, 2, none⟩ = some (.int .u64 (u : Int)) := by rw [bU.cell]; rfl
  have d0 : w1.cell? ⟨w.heap.size + 1, 0, none⟩ = some (.int .i64 kd) := by rw [bD.cell]; rfl
  have d1 : w1.cell? ⟨w.heap.size + 1, 1, none⟩ = some (.int .u64 (now : Int)) := by rw [bD.cell]; rfl
  have d2 : w1.cell? ⟨w.heap.size + 1, 2, none⟩ = some (.int .u64 (k : Int)) := by rw [bD.cell]; rfl
  have HWI := Lib.hid (within_ kd 3 w1 (by omega) (by omega) h1 h2)
  have hc3 : ((3 : Nat) : Int) = 3 := rfl
  rw [hc3, hr] at HWI
  have hp := take_late n d u w1 now k hnow
  have hcode : codeOf n d u 0 now k = codeOf n d u 0 now k := rfl
  have he : ∃ c, c = codeOf n d u 0 now k ∧ Calls Try.prog 25 #[bv n d u, .int .u64 (now : Int), .int .u64 (k : Int)] w1 (CallMade w1 c) := ⟨_, rfl, by simpa [codeOf, hnow] using hp⟩
  clear hp hcode
  obtain ⟨code, hcd, hp⟩ := he
  rw [← hcd]
  unfold bv at hp ⊢
  have HP := Lib.hid hp
  have HW : Hid (w1 = ((w.alloc (.cells #[.int .u64 (n : Int), .int .u64 (d : Int), .int .u64 (u : Int)] 24)).alloc (.cells #[.int .i64 kd, .int .u64 (now : Int), .int .u64 (k : Int)] 43)).alloc (.cells #[.slice none 0 0, .slice none 0 0] 49)) := Lib.hid (by rw [hw1, hwB])
  have KB : Hid (∀ S, Keeps S w wB) := Lib.hid kB
  have K1 : Hid (∀ S, Keeps S wB w1) := Lib.hid k1
  have BC := Lib.hid bC
  have HSB := Lib.hid hsB
  clear hwB hw1 hsB kB k1 bU bD bC hc3 hr h1 h2 hp hcd hnow
  go_enter Try.func13, Try.ntmps13
  go_wp2_with fail
  rw [← HW.out]
  go_wp2_with fail
  refine HWI.out.mono ?_
  rintro e w' ⟨rfl, rfl⟩
  go_wp2_with fail
  refine HP.out.mono ?_
  rintro e w2 ⟨cv, dv, rfl, hb, k2⟩
  obtain ⟨⟨CA, cc, hcv, _⟩, ⟨DA, dc, hdv, _⟩⟩ := hb w2 (Keeps.refl _ _)
  subst hcv
  subst hdv
  have b2 := Blk.keeps BC.out (k2 (fun _ => False)) (fun z => z)
  have HE := Lib.hid (CallMade.base (call_end13 K1.out BC.out k2 hb) KB.out)
  have B2 := Lib.hid b2
  rw [HSB.out] at b2
  have f0 := b2.frozen 0
  have f1 := b2.frozen 1
  have x0 : w2.cell? ⟨w.heap.size + 1 + 1, 0, none⟩ = some (.slice none 0 0) := by rw [b2.cell]; rfl
  have x1 : w2.cell? ⟨w.heap.size + 1 + 1, 1, none⟩ = some (.slice none 0 0) := by rw [b2.cell]; rfl
  clear hb k2 b2
  go_wp2_with fail
  have hE := HE.out
  obtain ⟨r0, r1, hk⟩ := mz.stored (u := .slice CA code.length cc) (v := .slice DA 0 dc) B2.out
  rw [HSB.out] at r0 r1 hE
  exact bodyPost_ret (v := .agg #[.slice CA code.length cc, .slice DA 0 dc]) (by simp [results, Try.results13, go_sem, r0, r1]) rfl hE
set_option maxRecDepth 100000 in
set_option maxHeartbeats 2000000 in
theorem call_1in (hr : kd % 3 = 1) (h1 : -9223372036854775808 ≤ kd) (h2 : kd ≤ 9223372036854775807) (hm : May n d u) (hnow : now ≤ 1099511627776) :
    Calls Try.prog 13 #[bv n d u, .agg #[.int .i64 kd, .int .u64 (now : Int), .int .u64 (k : Int)]] w (CallMade w (codeOf n d u 1 now k)) := by
  obtain ⟨wB, w1, hwB, hw1, hsB, kB, k1, bU, bD, bC⟩ := do_blk n d u kd now k w
  have u0 : w1.cell? ⟨w.heap.size, 0, none⟩ = some (.int .u64 (n : Int)) := by rw [bU.cell]; rfl
  have u1 : w1.cell? ⟨w.heap.size, 1, none⟩ = some (.int .u64 (d : Int)) := by rw [bU.cell]; rfl
  have u2 : w1.cell? ⟨w.heap.size, 2, none⟩ = some (.int .u64 (u : Int)) := by rw [bU.cell]; rfl
  have d0 : w1.cell? ⟨w.heap.size + 1, 0, none⟩ = some (.int .i64 kd) := by rw [bD.cell]; rfl
  have d1 : w1.cell? ⟨w.heap.size + 1, 1, none⟩ = some (.int .u64 (now : Int)) := by rw [bD.cell]; rfl
  have d2 : w1.cell? ⟨w.heap.size + 1, 2, none⟩ = some (.int .u64 (k : Int)) := by rw [bD.cell]; rfl
  have HWI := Lib.hid (within_ kd 3 w1 (by omega) (by omega) h1 h2)
  have hc3 : ((3 : Nat) : Int) = 3 := rfl
  rw [hc3, hr] at HWI
  have hp := level_in n d u w1 now hm hnow
  have hcode : codeOf n d u 1 now k = codeOf n d u 1 now k := rfl
  have he : ∃ c, c = codeOf n d u 1 now k ∧ Calls Try.prog 26 #[bv n d u, .int .u64 (now : Int)] w1 (CallMade w1 c) := ⟨_, rfl, by simpa [codeOf, hnow] using hp⟩
  clear hp hcode
  obtain ⟨code, hcd, hp⟩ := he
  rw [← hcd]
  unfold bv at hp ⊢
  have HP := Lib.hid hp
  have HW : Hid (w1 = ((w.alloc (.cells #[.int .u64 (n : Int), .int .u64 (d : Int), .int .u64 (u : Int)] 24)).alloc (.cells #[.int .i64 kd, .int .u64 (now : Int), .int .u64 (k : Int)] 43)).alloc (.cells #[.slice none 0 0, .slice none 0 0] 49)) := Lib.hid (by rw [hw1, hwB])
  have KB : Hid (∀ S, Keeps S w wB) := Lib.hid kB
  have K1 : Hid (∀ S, Keeps S wB w1) := Lib.hid k1
  have BC := Lib.hid bC
  have HSB := Lib.hid hsB
  clear hwB hw1 hsB kB k1 bU bD bC hc3 hr h1 h2 hp hcd hm hnow
  go_enter Try.func13, Try.ntmps13
  go_wp2_with fail
  rw [← HW.out]
  go_wp2_with fail
  refine HWI.out.mono ?_
  rintro e w' ⟨rfl, rfl⟩
  go_wp2_with fail
  refine HP.out.mono ?_
  rintro e w2 ⟨cv, dv, rfl, hb, k2⟩
  obtain ⟨⟨CA, cc, hcv, _⟩, ⟨DA, dc, hdv, _⟩⟩ := hb w2 (Keeps.refl _ _)
  subst hcv
  subst hdv
  have b2 := Blk.keeps BC.out (k2 (fun _ => False)) (fun z => z)
  have HE := Lib.hid (CallMade.base (call_end13 K1.out BC.out k2 hb) KB.out)
  have B2 := Lib.hid b2
  rw [HSB.out] at b2
  have f0 := b2.frozen 0
  have f1 := b2.frozen 1
  have x0 : w2.cell? ⟨w.heap.size + 1 + 1, 0, none⟩ = some (.slice none 0 0) := by rw [b2.cell]; rfl
  have x1 : w2.cell? ⟨w.heap.size + 1 + 1, 1, none⟩ = some (.slice none 0 0) := by rw [b2.cell]; rfl
  clear hb k2 b2
  go_wp2_with fail
  have hE := HE.out
  obtain ⟨r0, r1, hk⟩ := mz.stored (u := .slice CA code.length cc) (v := .slice DA 0 dc) B2.out
  rw [HSB.out] at r0 r1 hE
  exact bodyPost_ret (v := .agg #[.slice CA code.length cc, .slice DA 0 dc]) (by simp [results, Try.results13, go_sem, r0, r1]) rfl hE
set_option maxRecDepth 100000 in
set_option maxHeartbeats 2000000 in
theorem call_1late (hr : kd % 3 = 1) (h1 : -9223372036854775808 ≤ kd) (h2 : kd ≤ 9223372036854775807) (hnow : ¬ now ≤ 1099511627776) :
    Calls Try.prog 13 #[bv n d u, .agg #[.int .i64 kd, .int .u64 (now : Int), .int .u64 (k : Int)]] w (CallMade w (codeOf n d u 1 now k)) := by
  obtain ⟨wB, w1, hwB, hw1, hsB, kB, k1, bU, bD, bC⟩ := do_blk n d u kd now k w
  have u0 : w1.cell? ⟨w.heap.size, 0, none⟩ = some (.int .u64 (n : Int)) := by rw [bU.cell]; rfl
  have u1 : w1.cell? ⟨w.heap.size, 1, none⟩ = some (.int .u64 (d : Int)) := by rw [bU.cell]; rfl
  have u2 : w1.cell? ⟨w.heap.size, 2, none⟩ = some (.int .u64 (u : Int)) := by rw [bU.cell]; rfl
  have d0 : w1.cell? ⟨w.heap.size + 1, 0, none⟩ = some (.int .i64 kd) := by rw [bD.cell]; rfl
  have d1 : w1.cell? ⟨w.heap.size + 1, 1, none⟩ = some (.int .u64 (now : Int)) := by rw [bD.cell]; rfl
  have d2 : w1.cell? ⟨w.heap.size + 1, 2, none⟩ = some (.int .u64 (k : Int)) := by rw [bD.cell]; rfl
  have HWI := Lib.hid (within_ kd 3 w1 (by omega) (by omega) h1 h2)
  have hc3 : ((3 : Nat) : Int) = 3 := rfl
  rw [hc3, hr] at HWI
  have hp := level_late n d u w1 now hnow
  have hcode : codeOf n d u 1 now k = codeOf n d u 1 now k := rfl
  have he : ∃ c, c = codeOf n d u 1 now k ∧ Calls Try.prog 26 #[bv n d u, .int .u64 (now : Int)] w1 (CallMade w1 c) := ⟨_, rfl, by simpa [codeOf, hnow] using hp⟩
  clear hp hcode
  obtain ⟨code, hcd, hp⟩ := he
  rw [← hcd]
  unfold bv at hp ⊢
  have HP := Lib.hid hp
  have HW : Hid (w1 = ((w.alloc (.cells #[.int .u64 (n : Int), .int .u64 (d : Int), .int .u64 (u : Int)] 24)).alloc (.cells #[.int .i64 kd, .int .u64 (now : Int), .int .u64 (k : Int)] 43)).alloc (.cells #[.slice none 0 0, .slice none 0 0] 49)) := Lib.hid (by rw [hw1, hwB])
  have KB : Hid (∀ S, Keeps S w wB) := Lib.hid kB
  have K1 : Hid (∀ S, Keeps S wB w1) := Lib.hid k1
  have BC := Lib.hid bC
  have HSB := Lib.hid hsB
  clear hwB hw1 hsB kB k1 bU bD bC hc3 hr h1 h2 hp hcd hnow
  go_enter Try.func13, Try.ntmps13
  go_wp2_with fail
  rw [← HW.out]
  go_wp2_with fail
  refine HWI.out.mono ?_
  rintro e w' ⟨rfl, rfl⟩
  go_wp2_with fail
  refine HP.out.mono ?_
  rintro e w2 ⟨cv, dv, rfl, hb, k2⟩
  obtain ⟨⟨CA, cc, hcv, _⟩, ⟨DA, dc, hdv, _⟩⟩ := hb w2 (Keeps.refl _ _)
  subst hcv
  subst hdv
  have b2 := Blk.keeps BC.out (k2 (fun _ => False)) (fun z => z)
  have HE := Lib.hid (CallMade.base (call_end13 K1.out BC.out k2 hb) KB.out)
  have B2 := Lib.hid b2
  rw [HSB.out] at b2
  have f0 := b2.frozen 0
  have f1 := b2.frozen 1
  have x0 : w2.cell? ⟨w.heap.size + 1 + 1, 0, none⟩ = some (.slice none 0 0) := by rw [b2.cell]; rfl
  have x1 : w2.cell? ⟨w.heap.size + 1 + 1, 1, none⟩ = some (.slice none 0 0) := by rw [b2.cell]; rfl
  clear hb k2 b2
  go_wp2_with fail
  have hE := HE.out
  obtain ⟨r0, r1, hk⟩ := mz.stored (u := .slice CA code.length cc) (v := .slice DA 0 dc) B2.out
  rw [HSB.out] at r0 r1 hE
  exact bodyPost_ret (v := .agg #[.slice CA code.length cc, .slice DA 0 dc]) (by simp [results, Try.results13, go_sem, r0, r1]) rfl hE
set_option maxRecDepth 100000 in
set_option maxHeartbeats 2000000 in
theorem call_2 (hr : kd % 3 = 2) (h1 : -9223372036854775808 ≤ kd) (h2 : kd ≤ 9223372036854775807)  :
    Calls Try.prog 13 #[bv n d u, .agg #[.int .i64 kd, .int .u64 (now : Int), .int .u64 (k : Int)]] w (CallMade w (codeOf n d u 2 now k)) := by
  obtain ⟨wB, w1, hwB, hw1, hsB, kB, k1, bU, bD, bC⟩ := do_blk n d u kd now k w
  have u0 : w1.cell? ⟨w.heap.size, 0, none⟩ = some (.int .u64 (n : Int)) := by rw [bU.cell]; rfl
  have u1 : w1.cell? ⟨w.heap.size, 1, none⟩ = some (.int .u64 (d : Int)) := by rw [bU.cell]; rfl
  have u2 : w1.cell? ⟨w.heap.size, 2, none⟩ = some (.int .u64 (u : Int)) := by rw [bU.cell]; rfl
  have d0 : w1.cell? ⟨w.heap.size + 1, 0, none⟩ = some (.int .i64 kd) := by rw [bD.cell]; rfl
  have d1 : w1.cell? ⟨w.heap.size + 1, 1, none⟩ = some (.int .u64 (now : Int)) := by rw [bD.cell]; rfl
  have d2 : w1.cell? ⟨w.heap.size + 1, 2, none⟩ = some (.int .u64 (k : Int)) := by rw [bD.cell]; rfl
  have HWI := Lib.hid (within_ kd 3 w1 (by omega) (by omega) h1 h2)
  have hc3 : ((3 : Nat) : Int) = 3 := rfl
  rw [hc3, hr] at HWI
  have hp := state_code w1
  have hcode : codeOf n d u 2 now k = codeOf n d u 2 now k := rfl
  have he : ∃ c, c = codeOf n d u 2 now k ∧ Calls Try.prog 27 #[] w1 (CallMade w1 c) := ⟨_, rfl, by simpa [codeOf] using hp⟩
  clear hp hcode
  obtain ⟨code, hcd, hp⟩ := he
  rw [← hcd]
  unfold bv at hp ⊢
  have HP := Lib.hid hp
  have HW : Hid (w1 = ((w.alloc (.cells #[.int .u64 (n : Int), .int .u64 (d : Int), .int .u64 (u : Int)] 24)).alloc (.cells #[.int .i64 kd, .int .u64 (now : Int), .int .u64 (k : Int)] 43)).alloc (.cells #[.slice none 0 0, .slice none 0 0] 49)) := Lib.hid (by rw [hw1, hwB])
  have KB : Hid (∀ S, Keeps S w wB) := Lib.hid kB
  have K1 : Hid (∀ S, Keeps S wB w1) := Lib.hid k1
  have BC := Lib.hid bC
  have HSB := Lib.hid hsB
  clear hwB hw1 hsB kB k1 bU bD bC hc3 hr h1 h2 hp hcd 
  go_enter Try.func13, Try.ntmps13
  go_wp2_with fail
  rw [← HW.out]
  go_wp2_with fail
  refine HWI.out.mono ?_
  rintro e w' ⟨rfl, rfl⟩
  go_wp2_with fail
  refine HP.out.mono ?_
  rintro e w2 ⟨cv, dv, rfl, hb, k2⟩
  obtain ⟨⟨CA, cc, hcv, _⟩, ⟨DA, dc, hdv, _⟩⟩ := hb w2 (Keeps.refl _ _)
  subst hcv
  subst hdv
  have b2 := Blk.keeps BC.out (k2 (fun _ => False)) (fun z => z)
  have HE := Lib.hid (CallMade.base (call_end13 K1.out BC.out k2 hb) KB.out)
  have B2 := Lib.hid b2
  rw [HSB.out] at b2
  have f0 := b2.frozen 0
  have f1 := b2.frozen 1
  have x0 : w2.cell? ⟨w.heap.size + 1 + 1, 0, none⟩ = some (.slice none 0 0) := by rw [b2.cell]; rfl
  have x1 : w2.cell? ⟨w.heap.size + 1 + 1, 1, none⟩ = some (.slice none 0 0) := by rw [b2.cell]; rfl
  clear hb k2 b2
  go_wp2_with fail
  have hE := HE.out
  obtain ⟨r0, r1, hk⟩ := mz.stored (u := .slice CA code.length cc) (v := .slice DA 0 dc) B2.out
  rw [HSB.out] at r0 r1 hE
  exact bodyPost_ret (v := .agg #[.slice CA code.length cc, .slice DA 0 dc]) (by simp [results, Try.results13, go_sem, r0, r1]) rfl hE
end
/-- the call of kind r -/
theorem call_ (n d u r now k : Nat) (kd : Int) (w : World) (hm : May n d u) (hr3 : r < 3) (hr : kd % 3 = (r : Int)) (h1 : -9223372036854775808 ≤ kd) (h2 : kd ≤ 9223372036854775807) :
    Calls Try.prog 13 #[bv n d u, .agg #[.int .i64 kd, .int .u64 (now : Int), .int .u64 (k : Int)]] w (CallMade w (codeOf n d u r now k)) := by
  rcases (show r = 0 ∨ r = 1 ∨ r = 2 by omega) with rfl | rfl | rfl
  · by_cases hn : now ≤ 1099511627776
    · rcases Nat.lt_or_ge u k with hk | hk
      · exact call_0out n d u now k kd w hr h1 h2 hm hn hk
      · exact call_0in n d u now k kd w hr h1 h2 hm hn hk
    · exact call_0late n d u now k kd w hr h1 h2 hn
  · by_cases hn : now ≤ 1099511627776
    · exact call_1in n d u now k kd w hr h1 h2 hm hn
    · exact call_1late n d u now k kd w hr h1 h2 hn
  · exact call_2 n d u now k kd w hr h1 h2
end Go.Proofs.Ytgenblefbddilaa.rf13
