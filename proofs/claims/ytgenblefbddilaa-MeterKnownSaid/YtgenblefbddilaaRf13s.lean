/-
  patchbayref13's world; patchbaylaw13's done, works; the machine alone at a meter's calls.
-/
import Derived.Test.YtgenblefbddilaaMtC
import Derived.Test.YtgenblefbddilaaRf13c
import Derived.Test.YtgenblefbddilaaMzWith
import Derived.Test.YtgenblefbddilaaMzSame
import Derived.Test.YtgenblefbddilaaMzMd
import Derived.Test.YtgenblefbddilaaMzAlone
import Derived.Test.YtgenblefbddilaaMzMarks
import Derived.Deep.RegionHeld3
set_option linter.unusedVariables false
namespace Go.Proofs.Ytgenblefbddilaa.rf13
open Go.RowKit Go.Proofs.Ytgenblefbddilaa.oc Go.Proofs.Ytgenblefbddilaa.mz Go.Proofs.Ytgenblefbddilaa.at_ Go.Proofs.Ytgenblefbddilaa.gt Go.Proofs.Ytgenblefbddilaa.gw Go.Proofs.Ytgenblefbddilaa.bk Go.Proofs.Ytgenblefbddilaa.bp Go.Proofs.Ytgenblefbddilaa.mt
set_option maxRecDepth 100000 in
set_option maxHeartbeats 2000000 in
theorem world_ (w : World) : Calls Try.prog 9 #[] w fun e w' => ∃ wv lv, e = .returned (.agg #[wv, lv]) ∧ (∀ w'', Keeps (fun x => x < w.heap.size ∨ w'.heap.size ≤ x) w' w'' → IsWords w'' w''.heap.size wv [[0]] ∧ IsLists w'' w''.heap.size lv 1) ∧ (∀ S, Keeps S w w') := by
  obtain ⟨g, hg⟩ : ∃ g, g = w.heap.size + 1 := ⟨_, rfl⟩
  obtain ⟨w4, hw4⟩ : ∃ w4, w4 = (((w.alloc (.cells #[.slice none 0 0, .slice none 0 0] 36)).alloc (.cells #[.int .u64 0] 22)).alloc (.cells #[.slice (some ⟨w.heap.size + 1, 0, none⟩) 1 1] 40)).alloc (.cells #[.slice none 0 0] 121) := ⟨_, rfl⟩
  have b0 : Blk w4 w.heap.size 36 [.slice none 0 0, .slice none 0 0] := by rw [hw4]; exact (((Blk.new w _ _).alloc _).alloc _).alloc _
  have b1 : Blk w4 (w.heap.size + 1) 22 [.int .u64 0] := by
    have := ((Blk.new (w.alloc (.cells #[.slice none 0 0, .slice none 0 0] 36)) 22 #[.int .u64 0]).alloc (.cells #[.slice (some ⟨w.heap.size + 1, 0, none⟩) 1 1] 40)).alloc (.cells #[.slice none 0 0] 121)
    rw [World.size_alloc] at this
    rw [hw4]; exact this
  have b2 : Blk w4 (w.heap.size + 1 + 1) 40 [.slice (some ⟨w.heap.size + 1, 0, none⟩) 1 1] := by
    have := (Blk.new ((w.alloc (.cells #[.slice none 0 0, .slice none 0 0] 36)).alloc (.cells #[.int .u64 0] 22)) 40 #[.slice (some ⟨w.heap.size + 1, 0, none⟩) 1 1]).alloc (.cells #[.slice none 0 0] 121)
    rw [World.size_alloc, World.size_alloc] at this
    rw [hw4]; exact this
  have b3 : Blk w4 (w.heap.size + 1 + 1 + 1) 121 [.slice none 0 0] := by
    have := Blk.new (((w.alloc (.cells #[.slice none 0 0, .slice none 0 0] 36)).alloc (.cells #[.int .u64 0] 22)).alloc (.cells #[.slice (some ⟨w.heap.size + 1, 0, none⟩) 1 1] 40)) 121 #[.slice none 0 0]
    rw [World.size_alloc, World.size_alloc, World.size_alloc] at this
    rw [hw4]; exact this
  have k4 : ∀ S, Keeps S w w4 := fun S => by rw [hw4]; exact ((((Keeps.refl S w).alloc _).alloc _).alloc _).alloc _
  have f0 := b0.frozen 0
  have f1 := b0.frozen 1
  have x0 : w4.cell? ⟨w.heap.size, 0, none⟩ = some (.slice none 0 0) := by rw [b0.cell]; rfl
  have x1 : w4.cell? ⟨w.heap.size, 1, none⟩ = some (.slice none 0 0) := by rw [b0.cell]; rfl
  have HW := Lib.hid hw4
  have B0 := Lib.hid b0
  have B1 := Lib.hid b1
  have B2 := Lib.hid b2
  have B3 := Lib.hid b3
  have K4 : Hid (∀ S, Keeps S w w4) := Lib.hid k4
  clear hg hw4 b0 b1 b2 b3 k4
  go_enter Try.func9, Try.ntmps9
  go_wp2_with (rw [← HW.out]; go_simp)
  all_goals (try (rw [← HW.out]; go_wp2))
  obtain ⟨r0, r1, hk⟩ := mz.stored (u := .slice (some ⟨w.heap.size + 1 + 1, 0, none⟩) 1 1) (v := .slice (some ⟨w.heap.size + 1 + 1 + 1, 0, none⟩) 1 1) B0.out
  refine bodyPost_ret (v := .agg #[.slice (some ⟨w.heap.size + 1 + 1, 0, none⟩) 1 1, .slice (some ⟨w.heap.size + 1 + 1 + 1, 0, none⟩) 1 1]) (by simp [results, Try.results9, go_sem, r0, r1]) rfl ?_
  have c1 := Blk.keeps B1.out hk (by omega)
  have c2 := Blk.keeps B2.out hk (by omega)
  have c3 := Blk.keeps B3.out hk (by omega)
  have hz := c3.lt
  refine ⟨_, _, rfl, fun w'' kk => ⟨⟨_, _, rfl, fun i l hi => ?_⟩, ⟨_, _, rfl, fun i hi => ?_⟩⟩, fun S => ?_⟩
  · have d1 := Blk.keeps c1 kk (by omega)
    have d2 := Blk.keeps c2 kk (by omega)
    obtain ⟨rfl, rfl⟩ : i = 0 ∧ l = [0] := by
      rcases i with _ | i
      · simp at hi; exact ⟨rfl, hi.symm⟩
      · simp at hi
    refine ⟨_, 0, some ⟨w.heap.size + 1, 0, none⟩, 1, rfl, d2.lt, by rw [d2.cell]; rfl, fun k u hk2 => ?_⟩
    refine ⟨_, 0, rfl, d1.lt, ?_⟩
    rw [Nat.zero_add, d1.cell]
    exact hk2
  · have d3 := Blk.keeps c3 kk (by omega)
    obtain rfl : i = 0 := by omega
    exact ⟨_, 0, rfl, d3.lt, by rw [d3.cell]; rfl⟩
  · have ka := K4.out S
    exact ⟨Nat.le_trans ka.size hk.size, fun x hx hs => by rw [hk.block x (Nat.lt_of_lt_of_le hx ka.size) (by omega), ka.block x hx hs], ka.same.trans hk.same⟩
/-- what done leaves -/
def Done (D n d u N s' : Nat) (told : List Nat) (gv : Value) (ms' : List (Nat × Nat)) (F : Nat → Prop) (w : World) (e : Ending) (w' : World) : Prop :=
  ∃ A c, e = .returned (.slice A told.length c) ∧ IsData w' w'.heap.size (.slice A told.length c) told ∧ mt.Left D n d u N s' gv ms' F w w'
theorem told_end {w w2 : World} {D n d u N s s' : Nat} {gv : Value} {ms ms' : List (Nat × Nat)} {F : Nat → Prop} {l : List Nat} (st : St w D n d u N s gv ms F) (h : mt.Left D n d u N s' gv ms' F w w2) (hN : N ≤ w.heap.size) :
    IsData (w2.alloc (.cells (u64s l).toArray 22)) (w2.alloc (.cells (u64s l).toArray 22)).heap.size (.slice (some ⟨w2.heap.size, 0, none⟩) l.length l.length) l ∧ mt.Left D n d u N s' gv ms' F w (w2.alloc (.cells (u64s l).toArray 22)) := by
  have b := Blk.new w2 22 (u64s l).toArray
  refine ⟨⟨_, l.length, rfl, ?_⟩, h.more st (fun S => (Keeps.refl S w2).alloc _) hN⟩
  have hr := b.rd
  rw [World.size_alloc]
  simpa using hr
set_option maxRecDepth 100000 in
set_option maxHeartbeats 1000000 in
theorem yes_ (b : Bool) (w : World) : Calls Try.prog 23 #[.bool b] w fun e w' => e = .returned (.int .u64 (((if b then 1 else 0 : Nat)) : Int)) ∧ w = w' := by
  cases b
  all_goals
    go_enter Try.func23, Try.ntmps23
    go_wp2
    try rw [Exit.noGoto_ret]
    go_ret
    exact ⟨rfl, rfl⟩
theorem do_box (kd : Int) (now k : Nat) (w : World) : ∃ w1, w1 = w.alloc (.cells #[.int .i64 kd, .int .u64 (now : Int), .int .u64 (k : Int)] 43) ∧ (∀ S, Keeps S w w1) ∧ Blk w1 w.heap.size 43 [.int .i64 kd, .int .u64 (now : Int), .int .u64 (k : Int)] := enter_blk w _ _
section
variable (D n d u N s now k : Nat) (kd : Int) (gv : Value) (ms : List (Nat × Nat)) (F : Nat → Prop) (w : World)
set_option maxRecDepth 100000 in
set_option maxHeartbeats 4000000 in
theorem done_0yes (st : St w D n d u N s gv ms F) (hN : N ≤ w.heap.size) (hl : ms.length < 700000) (hF : ∀ x, F x → x < w.heap.size) (hk : k < 18446744073709551616) (hr : kd % 3 = 0) (h1 : -9223372036854775808 ≤ kd) (h2 : kd ≤ 9223372036854775807) (hn : now ≤ 1099511627776) (hlet : lets n d u s now k = true) (ht : takeOf n d u s now k < 18446744073709551616) :
    Calls Try.prog 11 #[.pointer (some ⟨D, 0, none⟩), gv, .agg #[.int .i64 kd, .int .u64 (now : Int), .int .u64 (k : Int)]] w (Done D n d u N (takeOf n d u s now k) [0, 1] gv (ms ++ [(1, 0)] ++ [(5, 0)]) F w) := by
  obtain ⟨w1, hw1, k1, bD⟩ := do_box kd now k w
  have d0 : w1.cell? ⟨w.heap.size, 0, none⟩ = some (.int .i64 kd) := by rw [bD.cell]; rfl
  have d1 : w1.cell? ⟨w.heap.size, 1, none⟩ = some (.int .u64 (now : Int)) := by rw [bD.cell]; rfl
  have d2 : w1.cell? ⟨w.heap.size, 2, none⟩ = some (.int .u64 (k : Int)) := by rw [bD.cell]; rfl
  have HWI := Lib.hid (within_ kd 3 w1 (by omega) (by omega) h1 h2)
  have hc3 : ((3 : Nat) : Int) = 3 := rfl
  rw [hc3, hr] at HWI
  have l0 := left_new st k1 hN
  have s1 := l0.st st
  have hN1 : N ≤ w1.heap.size := Nat.le_trans hN l0.keep.size
  have hF1 : ∀ x, Grown w w1 F x → x < w1.heap.size := fun x hx => by rcases hx with z | z; have := hF x z; have := l0.keep.size; omega; exact z.2
  have HP := Lib.hid (take_yes D n d u N s now k gv ms _ w1 s1 hN1 (by omega) hn hk hlet ht)
  have HW := Lib.hid hw1
  have S0 := Lib.hid st
  have L0 := Lib.hid l0
  have HN := Lib.hid hN
  have HY := fun b w => Lib.hid (yes_ b w)
  clear hw1 k1 bD hc3 hr h1 h2 st l0 s1 hN hl hF hF1 hN1 hk hn hlet ht
  generalize takeOf n d u s now k = nx at *
  go_enter Try.func11, Try.ntmps11
  go_wp2_with fail
  rw [← HW.out]
  go_wp2_with fail
  refine HWI.out.mono ?_
  rintro e w' ⟨rfl, rfl⟩
  go_wp2_with fail
  refine HP.out.mono ?_
  rintro e w2 ⟨rfl, l2⟩
  have L2 := Lib.hid (L0.out.trans l2)
  clear l2
  go_wp2_with fail
  refine (HY _ _).out.mono ?_
  rintro e w' ⟨rfl, rfl⟩
  go_wp2
  try rw [Exit.noGoto_ret]
  go_ret
  obtain ⟨q1, q2⟩ := told_end (l := [0, 1]) S0.out L2.out HN.out
  exact ⟨_, _, rfl, q1, q2⟩
set_option maxRecDepth 100000 in
set_option maxHeartbeats 4000000 in
theorem done_0no (st : St w D n d u N s gv ms F) (hN : N ≤ w.heap.size) (hl : ms.length < 700000) (hF : ∀ x, F x → x < w.heap.size) (hk : k < 18446744073709551616) (hr : kd % 3 = 0) (h1 : -9223372036854775808 ≤ kd) (h2 : kd ≤ 9223372036854775807) (hn : now ≤ 1099511627776) (hlet : lets n d u s now k = false) :
    Calls Try.prog 11 #[.pointer (some ⟨D, 0, none⟩), gv, .agg #[.int .i64 kd, .int .u64 (now : Int), .int .u64 (k : Int)]] w (Done D n d u N (s) [0, 0] gv (ms ++ [(1, 0)]) F w) := by
  obtain ⟨w1, hw1, k1, bD⟩ := do_box kd now k w
  have d0 : w1.cell? ⟨w.heap.size, 0, none⟩ = some (.int .i64 kd) := by rw [bD.cell]; rfl
  have d1 : w1.cell? ⟨w.heap.size, 1, none⟩ = some (.int .u64 (now : Int)) := by rw [bD.cell]; rfl
  have d2 : w1.cell? ⟨w.heap.size, 2, none⟩ = some (.int .u64 (k : Int)) := by rw [bD.cell]; rfl
  have HWI := Lib.hid (within_ kd 3 w1 (by omega) (by omega) h1 h2)
  have hc3 : ((3 : Nat) : Int) = 3 := rfl
  rw [hc3, hr] at HWI
  have l0 := left_new st k1 hN
  have s1 := l0.st st
  have hN1 : N ≤ w1.heap.size := Nat.le_trans hN l0.keep.size
  have hF1 : ∀ x, Grown w w1 F x → x < w1.heap.size := fun x hx => by rcases hx with z | z; have := hF x z; have := l0.keep.size; omega; exact z.2
  have HP := Lib.hid (take_no D n d u N s now k gv ms _ w1 s1 hN1 (by omega) hn hk hlet)
  have HW := Lib.hid hw1
  have S0 := Lib.hid st
  have L0 := Lib.hid l0
  have HN := Lib.hid hN
  have HY := fun b w => Lib.hid (yes_ b w)
  clear hw1 k1 bD hc3 hr h1 h2 st l0 s1 hN hl hF hF1 hN1 hk hn hlet
  go_enter Try.func11, Try.ntmps11
  go_wp2_with fail
  rw [← HW.out]
  go_wp2_with fail
  refine HWI.out.mono ?_
  rintro e w' ⟨rfl, rfl⟩
  go_wp2_with fail
  refine HP.out.mono ?_
  rintro e w2 ⟨rfl, l2⟩
  have L2 := Lib.hid (L0.out.trans l2)
  clear l2
  go_wp2_with fail
  refine (HY _ _).out.mono ?_
  rintro e w' ⟨rfl, rfl⟩
  go_wp2
  try rw [Exit.noGoto_ret]
  go_ret
  obtain ⟨q1, q2⟩ := told_end (l := [0, 0]) S0.out L2.out HN.out
  exact ⟨_, _, rfl, q1, q2⟩
set_option maxRecDepth 100000 in
set_option maxHeartbeats 4000000 in
theorem done_0late (st : St w D n d u N s gv ms F) (hN : N ≤ w.heap.size) (hl : ms.length < 700000) (hF : ∀ x, F x → x < w.heap.size) (hk : k < 18446744073709551616) (hr : kd % 3 = 0) (h1 : -9223372036854775808 ≤ kd) (h2 : kd ≤ 9223372036854775807) (hn : ¬ now ≤ 1099511627776) :
    Calls Try.prog 11 #[.pointer (some ⟨D, 0, none⟩), gv, .agg #[.int .i64 kd, .int .u64 (now : Int), .int .u64 (k : Int)]] w (Done D n d u N (s) [5, 0] gv (ms) F w) := by
  obtain ⟨w1, hw1, k1, bD⟩ := do_box kd now k w
  have d0 : w1.cell? ⟨w.heap.size, 0, none⟩ = some (.int .i64 kd) := by rw [bD.cell]; rfl
  have d1 : w1.cell? ⟨w.heap.size, 1, none⟩ = some (.int .u64 (now : Int)) := by rw [bD.cell]; rfl
  have d2 : w1.cell? ⟨w.heap.size, 2, none⟩ = some (.int .u64 (k : Int)) := by rw [bD.cell]; rfl
  have HWI := Lib.hid (within_ kd 3 w1 (by omega) (by omega) h1 h2)
  have hc3 : ((3 : Nat) : Int) = 3 := rfl
  rw [hc3, hr] at HWI
  have l0 := left_new st k1 hN
  have s1 := l0.st st
  have hN1 : N ≤ w1.heap.size := Nat.le_trans hN l0.keep.size
  have hF1 : ∀ x, Grown w w1 F x → x < w1.heap.size := fun x hx => by rcases hx with z | z; have := hF x z; have := l0.keep.size; omega; exact z.2
  have HP := Lib.hid (mt.take_late D n d u N s now k gv ms _ w1 s1 hF1 hn)
  have HW := Lib.hid hw1
  have S0 := Lib.hid st
  have L0 := Lib.hid l0
  have HN := Lib.hid hN
  have HY := fun b w => Lib.hid (yes_ b w)
  clear hw1 k1 bD hc3 hr h1 h2 st l0 s1 hN hl hF hF1 hN1 hk hn
  go_enter Try.func11, Try.ntmps11
  go_wp2_with fail
  rw [← HW.out]
  go_wp2_with fail
  refine HWI.out.mono ?_
  rintro e w' ⟨rfl, rfl⟩
  go_wp2_with fail
  refine HP.out.mono ?_
  rintro e w2 ⟨rfl, l2⟩
  have L2 := Lib.hid (L0.out.trans l2)
  clear l2
  go_wp2_with fail
  refine (HY _ _).out.mono ?_
  rintro e w' ⟨rfl, rfl⟩
  go_wp2
  try rw [Exit.noGoto_ret]
  go_ret
  obtain ⟨q1, q2⟩ := told_end (l := [5, 0]) S0.out L2.out HN.out
  exact ⟨_, _, rfl, q1, q2⟩
set_option maxRecDepth 100000 in
set_option maxHeartbeats 4000000 in
theorem done_1in (st : St w D n d u N s gv ms F) (hN : N ≤ w.heap.size) (hl : ms.length < 700000) (hF : ∀ x, F x → x < w.heap.size) (hk : k < 18446744073709551616) (hr : kd % 3 = 1) (h1 : -9223372036854775808 ≤ kd) (h2 : kd ≤ 9223372036854775807) (hn : now ≤ 1099511627776) :
    Calls Try.prog 11 #[.pointer (some ⟨D, 0, none⟩), gv, .agg #[.int .i64 kd, .int .u64 (now : Int), .int .u64 (k : Int)]] w (Done D n d u N (s) [0, level n d u s now] gv (ms ++ [(1, 0)]) F w) := by
  obtain ⟨w1, hw1, k1, bD⟩ := do_box kd now k w
  have d0 : w1.cell? ⟨w.heap.size, 0, none⟩ = some (.int .i64 kd) := by rw [bD.cell]; rfl
  have d1 : w1.cell? ⟨w.heap.size, 1, none⟩ = some (.int .u64 (now : Int)) := by rw [bD.cell]; rfl
  have d2 : w1.cell? ⟨w.heap.size, 2, none⟩ = some (.int .u64 (k : Int)) := by rw [bD.cell]; rfl
  have HWI := Lib.hid (within_ kd 3 w1 (by omega) (by omega) h1 h2)
  have hc3 : ((3 : Nat) : Int) = 3 := rfl
  rw [hc3, hr] at HWI
  have l0 := left_new st k1 hN
  have s1 := l0.st st
  have hN1 : N ≤ w1.heap.size := Nat.le_trans hN l0.keep.size
  have hF1 : ∀ x, Grown w w1 F x → x < w1.heap.size := fun x hx => by rcases hx with z | z; have := hF x z; have := l0.keep.size; omega; exact z.2
  have HP := Lib.hid (level_is D n d u N s now gv ms _ w1 s1 hN1 (by omega) hn)
  have HW := Lib.hid hw1
  have S0 := Lib.hid st
  have L0 := Lib.hid l0
  have HN := Lib.hid hN
  have HY := fun b w => Lib.hid (yes_ b w)
  clear hw1 k1 bD hc3 hr h1 h2 st l0 s1 hN hl hF hF1 hN1 hk hn
  generalize level n d u s now = lv at *
  go_enter Try.func11, Try.ntmps11
  go_wp2_with fail
  rw [← HW.out]
  go_wp2_with fail
  refine HWI.out.mono ?_
  rintro e w' ⟨rfl, rfl⟩
  go_wp2_with fail
  refine HP.out.mono ?_
  rintro e w2 ⟨rfl, l2⟩
  have L2 := Lib.hid (L0.out.trans l2)
  clear l2
  go_wp2
  try rw [Exit.noGoto_ret]
  go_ret
  obtain ⟨q1, q2⟩ := told_end (l := [0, lv]) S0.out L2.out HN.out
  exact ⟨_, _, rfl, q1, q2⟩
set_option maxRecDepth 100000 in
set_option maxHeartbeats 4000000 in
theorem done_1late (st : St w D n d u N s gv ms F) (hN : N ≤ w.heap.size) (hl : ms.length < 700000) (hF : ∀ x, F x → x < w.heap.size) (hk : k < 18446744073709551616) (hr : kd % 3 = 1) (h1 : -9223372036854775808 ≤ kd) (h2 : kd ≤ 9223372036854775807) (hn : ¬ now ≤ 1099511627776) :
    Calls Try.prog 11 #[.pointer (some ⟨D, 0, none⟩), gv, .agg #[.int .i64 kd, .int .u64 (now : Int), .int .u64 (k : Int)]] w (Done D n d u N (s) [5, 0] gv (ms) F w) := by
  obtain ⟨w1, hw1, k1, bD⟩ := do_box kd now k w
  have d0 : w1.cell? ⟨w.heap.size, 0, none⟩ = some (.int .i64 kd) := by rw [bD.cell]; rfl
  have d1 : w1.cell? ⟨w.heap.size, 1, none⟩ = some (.int .u64 (now : Int)) := by rw [bD.cell]; rfl
  have d2 : w1.cell? ⟨w.heap.size, 2, none⟩ = some (.int .u64 (k : Int)) := by rw [bD.cell]; rfl
  have HWI := Lib.hid (within_ kd 3 w1 (by omega) (by omega) h1 h2)
  have hc3 : ((3 : Nat) : Int) = 3 := rfl
  rw [hc3, hr] at HWI
  have l0 := left_new st k1 hN
  have s1 := l0.st st
  have hN1 : N ≤ w1.heap.size := Nat.le_trans hN l0.keep.size
  have hF1 : ∀ x, Grown w w1 F x → x < w1.heap.size := fun x hx => by rcases hx with z | z; have := hF x z; have := l0.keep.size; omega; exact z.2
  have HP := Lib.hid (mt.level_late D n d u N s now gv ms _ w1 s1 hF1 hn)
  have HW := Lib.hid hw1
  have S0 := Lib.hid st
  have L0 := Lib.hid l0
  have HN := Lib.hid hN
  have HY := fun b w => Lib.hid (yes_ b w)
  clear hw1 k1 bD hc3 hr h1 h2 st l0 s1 hN hl hF hF1 hN1 hk hn
  go_enter Try.func11, Try.ntmps11
  go_wp2_with fail
  rw [← HW.out]
  go_wp2_with fail
  refine HWI.out.mono ?_
  rintro e w' ⟨rfl, rfl⟩
  go_wp2_with fail
  refine HP.out.mono ?_
  rintro e w2 ⟨rfl, l2⟩
  have L2 := Lib.hid (L0.out.trans l2)
  clear l2
  go_wp2
  try rw [Exit.noGoto_ret]
  go_ret
  obtain ⟨q1, q2⟩ := told_end (l := [5, 0]) S0.out L2.out HN.out
  exact ⟨_, _, rfl, q1, q2⟩
set_option maxRecDepth 100000 in
set_option maxHeartbeats 4000000 in
theorem done_2 (st : St w D n d u N s gv ms F) (hN : N ≤ w.heap.size) (hl : ms.length < 700000) (hF : ∀ x, F x → x < w.heap.size) (hk : k < 18446744073709551616) (hr : kd % 3 = 2) (h1 : -9223372036854775808 ≤ kd) (h2 : kd ≤ 9223372036854775807)  :
    Calls Try.prog 11 #[.pointer (some ⟨D, 0, none⟩), gv, .agg #[.int .i64 kd, .int .u64 (now : Int), .int .u64 (k : Int)]] w (Done D n d u N (s) [0, s] gv (ms ++ [(1, 0)]) F w) := by
  obtain ⟨w1, hw1, k1, bD⟩ := do_box kd now k w
  have d0 : w1.cell? ⟨w.heap.size, 0, none⟩ = some (.int .i64 kd) := by rw [bD.cell]; rfl
  have d1 : w1.cell? ⟨w.heap.size, 1, none⟩ = some (.int .u64 (now : Int)) := by rw [bD.cell]; rfl
  have d2 : w1.cell? ⟨w.heap.size, 2, none⟩ = some (.int .u64 (k : Int)) := by rw [bD.cell]; rfl
  have HWI := Lib.hid (within_ kd 3 w1 (by omega) (by omega) h1 h2)
  have hc3 : ((3 : Nat) : Int) = 3 := rfl
  rw [hc3, hr] at HWI
  have l0 := left_new st k1 hN
  have s1 := l0.st st
  have hN1 : N ≤ w1.heap.size := Nat.le_trans hN l0.keep.size
  have hF1 : ∀ x, Grown w w1 F x → x < w1.heap.size := fun x hx => by rcases hx with z | z; have := hF x z; have := l0.keep.size; omega; exact z.2
  have HP := Lib.hid (state_ D n d u N s gv ms _ w1 s1 (by omega))
  have HW := Lib.hid hw1
  have S0 := Lib.hid st
  have L0 := Lib.hid l0
  have HN := Lib.hid hN
  have HY := fun b w => Lib.hid (yes_ b w)
  clear hw1 k1 bD hc3 hr h1 h2 st l0 s1 hN hl hF hF1 hN1 hk 
  go_enter Try.func11, Try.ntmps11
  go_wp2_with fail
  rw [← HW.out]
  go_wp2_with fail
  refine HWI.out.mono ?_
  rintro e w' ⟨rfl, rfl⟩
  go_wp2_with fail
  refine HP.out.mono ?_
  rintro e w2 ⟨rfl, l2⟩
  have L2 := Lib.hid (L0.out.trans l2)
  clear l2
  go_wp2
  try rw [Exit.noGoto_ret]
  go_ret
  obtain ⟨q1, q2⟩ := told_end (l := [0, s]) S0.out L2.out HN.out
  exact ⟨_, _, rfl, q1, q2⟩
end
end Go.Proofs.Ytgenblefbddilaa.rf13
