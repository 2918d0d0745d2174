/-
  patchbaylaw09's told, done; works. epoch's works; the machine alone at epoch's calls; notes' marks, few or none; a round of EpochNotes.
-/
import Derived.Test.YtebjmmckejbklaaEpAll
import Derived.Test.YtebjmmckejbklaaRf9p
import Derived.Test.YtebjmmckejbklaaMzWith
import Derived.Test.YtebjmmckejbklaaMzSame
import Derived.Test.YtebjmmckejbklaaMzBuilt
import Derived.Deep.RegionHeld3
import Derived.Test.YtebjmmckejbklaaRf9c
import Derived.Test.YtebjmmckejbklaaMzAlone
import Derived.Test.YtebjmmckejbklaaMzMarks
set_option linter.unusedVariables false
namespace Go.Proofs.Ytebjmmckejbklaa.rf9
open Go.RowKit Go.Proofs.Ytebjmmckejbklaa.oc Go.Proofs.Ytebjmmckejbklaa.mz Go.Proofs.Ytebjmmckejbklaa.at_ Go.Proofs.Ytebjmmckejbklaa.gt Go.Proofs.Ytebjmmckejbklaa.gw Go.Proofs.Ytebjmmckejbklaa.ep
theorem left_new {w w1 : World} {D n N : Nat} {ws : List Nat} {gv : Value} {ms : List (Nat × Nat)} {F : Nat → Prop} (s : St w D n N ws gv ms F) (k : ∀ S, Keeps S w w1) (hN : N ≤ w.heap.size) : ep.Left D n N ws gv ms F w w1 := by
  refine ⟨s.ep.keeps (k (fun _ => False)) (fun z => z), ?_, k _⟩
  rcases s.gf with e | ⟨e, h⟩
  · exact .inl e
  · exact .inr ⟨e, (h.keeps (k (fun _ => False)) (fun _ _ z => z)).grown hN⟩
/-- what done leaves -/
def Done (D n N : Nat) (ws' told : List Nat) (gv : Value) (ms' : List (Nat × Nat)) (F : Nat → Prop) (w : World) (e : Ending) (w' : World) : Prop :=
  ∃ A c, e = .returned (.slice A told.length c) ∧ IsData w' w'.heap.size (.slice A told.length c) told ∧ ep.Left D n N ws' gv ms' F w w'
theorem told_end {w w2 : World} {D n N : Nat} {ws ws' : List Nat} {gv : Value} {ms ms' : List (Nat × Nat)} {F : Nat → Prop} {l : List Nat} (s : St w D n N ws gv ms F) (h : ep.Left D n N ws' gv ms' F w w2) (hN : N ≤ w.heap.size) :
    IsData (w2.alloc (.cells (u64s l).toArray 38)) (w2.alloc (.cells (u64s l).toArray 38)).heap.size (.slice (some ⟨w2.heap.size, 0, none⟩) l.length l.length) l ∧ ep.Left D n N ws' gv ms' F w (w2.alloc (.cells (u64s l).toArray 38)) := by
  have b := Blk.new w2 38 (u64s l).toArray
  refine ⟨⟨_, l.length, rfl, ?_⟩, h.trans (left_new (h.st s) (fun S => (Keeps.refl S w2).alloc _) (Nat.le_trans hN h.keep.size))⟩
  have hr := b.rd
  rw [World.size_alloc]
  simpa using hr
set_option maxRecDepth 100000 in
set_option maxHeartbeats 1000000 in
theorem yes_ (b : Bool) (w : World) : Calls Try.prog 25 #[.bool b] w fun e w' => e = .returned (.int .u64 (((if b then 1 else 0 : Nat)) : Int)) ∧ w = w' := by
  cases b
  all_goals
    go_enter Try.func25, Try.ntmps25
    go_wp2
    try rw [Exit.noGoto_ret]
    go_ret
    exact ⟨rfl, rfl⟩
set_option maxRecDepth 100000 in
set_option maxHeartbeats 1000000 in
theorem told_ok (A : Option Addr) (n c : Nat) (w : World) : Calls Try.prog 24 #[.int .i64 0, .slice A n c] w fun e w' => e = .returned (.slice A n c) ∧ w = w' := by
  go_enter Try.func24, Try.ntmps24
  go_wp2
  try rw [Exit.noGoto_ret]
  go_ret
  exact ⟨rfl, rfl⟩
theorem do_box (kd sl : Int) (q : Nat) (w : World) : ∃ w1, w1 = w.alloc (.cells #[.int .i64 kd, .int .i64 sl, .int .u64 (q : Int)] 40) ∧ (∀ S, Keeps S w w1) ∧ Blk w1 w.heap.size 40 [.int .i64 kd, .int .i64 sl, .int .u64 (q : Int)] := enter_blk w _ _
section
variable (D n N q : Nat) (kd sl : Int) (ws : List Nat) (gv : Value) (ms : List (Nat × Nat)) (F : Nat → Prop) (w : World)
set_option maxRecDepth 100000 in
set_option maxHeartbeats 4000000 in
theorem done_0 (s : St w D n N ws gv ms F) (hN : N ≤ w.heap.size) (hl : ms.length < 700000) (hF : ∀ b, F b → b < w.heap.size) (hr : kd % 5 = 0) (h1 : -9223372036854775808 ≤ kd) (h2 : kd ≤ 9223372036854775807)  :
    Calls Try.prog 9 #[.pointer (some ⟨D, 0, none⟩), gv, .agg #[.int .i64 kd, .int .i64 sl, .int .u64 (q : Int)]] w (Done D n N (ws) [ws[0]?.getD 0] gv (ms ++ [(1, 0)]) F w) := by
  obtain ⟨w1, hw1, k1, bD⟩ := do_box kd sl q w
  have d0 : w1.cell? ⟨w.heap.size, 0, none⟩ = some (.int .i64 kd) := by rw [bD.cell]; rfl
  have d1 : w1.cell? ⟨w.heap.size, 1, none⟩ = some (.int .i64 sl) := by rw [bD.cell]; rfl
  have d2 : w1.cell? ⟨w.heap.size, 2, none⟩ = some (.int .u64 (q : Int)) := by rw [bD.cell]; rfl
  have HWI := Lib.hid (within_ kd 5 w1 (by omega) (by omega) h1 h2)
  have hc5 : ((5 : Nat) : Int) = 5 := rfl
  rw [hc5, hr] at HWI
  have l0 := left_new s k1 hN
  have s1 := l0.st s
  have hF1 : ∀ b, Grown w w1 F b → b < w1.heap.size := fun b hb => by rcases hb with z | z; have := hF b z; have := l0.keep.size; omega; exact z.2
  have HP := Lib.hid (Now_ D n N ws gv ms _ w1 s1 (by omega))
  have HW := Lib.hid hw1
  have S0 := Lib.hid s
  have L0 := Lib.hid l0
  have HN := Lib.hid hN
  have HY := fun b w => Lib.hid (yes_ b w)
  clear hw1 k1 bD hc5 hr h1 h2 s l0 s1 hN hl hF hF1 
  go_enter Try.func9, Try.ntmps9
  go_wp2_with fail
  rw [← HW.out]
  go_wp2_with fail
  refine HWI.out.mono ?_
  rintro e w' ⟨rfl, rfl⟩
  go_wp2_with fail
  refine HP.out.mono ?_
  rintro e w2 ⟨rfl, l2⟩
  have L2 := Lib.hid (L0.out.trans l2)
  clear l2
  go_wp2_with fail
  refine (told_ok _ _ _ _).mono ?_
  rintro e w' ⟨rfl, rfl⟩
  go_wp2
  try rw [Exit.noGoto_ret]
  go_ret
  obtain ⟨q1, q2⟩ := told_end (l := [ws[0]?.getD 0]) S0.out L2.out HN.out
  exact ⟨_, _, rfl, q1, q2⟩
set_option maxRecDepth 100000 in
set_option maxHeartbeats 4000000 in
theorem done_1yes (s : St w D n N ws gv ms F) (hN : N ≤ w.heap.size) (hl : ms.length < 700000) (hF : ∀ b, F b → b < w.heap.size) (hr : kd % 5 = 1) (h1 : -9223372036854775808 ≤ kd) (h2 : kd ≤ 9223372036854775807) (k : Nat) (hk : k < n) (hp : ws[k + 1]?.getD 0 = 0) :
    Calls Try.prog 9 #[.pointer (some ⟨D, 0, none⟩), gv, .agg #[.int .i64 kd, .int .i64 (k : Int), .int .u64 (q : Int)]] w (Done D n N (ws.set (k + 1) (ws[0]?.getD 0)) [ws[0]?.getD 0, 0] gv (ms ++ [(1, k + 1)] ++ [(1, 0)] ++ [(2, k + 1)] ++ [(1, 0)]) F w) := by
  obtain ⟨w1, hw1, k1, bD⟩ := do_box kd (k : Int) q w
  have d0 : w1.cell? ⟨w.heap.size, 0, none⟩ = some (.int .i64 kd) := by rw [bD.cell]; rfl
  have d1 : w1.cell? ⟨w.heap.size, 1, none⟩ = some (.int .i64 (k : Int)) := by rw [bD.cell]; rfl
  have d2 : w1.cell? ⟨w.heap.size, 2, none⟩ = some (.int .u64 (q : Int)) := by rw [bD.cell]; rfl
  have HWI := Lib.hid (within_ kd 5 w1 (by omega) (by omega) h1 h2)
  have hc5 : ((5 : Nat) : Int) = 5 := rfl
  rw [hc5, hr] at HWI
  have l0 := left_new s k1 hN
  have s1 := l0.st s
  have hF1 : ∀ b, Grown w w1 F b → b < w1.heap.size := fun b hb => by rcases hb with z | z; have := hF b z; have := l0.keep.size; omega; exact z.2
  have HP := Lib.hid (pin_yes D n N k ws gv ms _ w1 s1 (by omega) hk hp)
  have HW := Lib.hid hw1
  have S0 := Lib.hid s
  have L0 := Lib.hid l0
  have HN := Lib.hid hN
  have HY := fun b w => Lib.hid (yes_ b w)
  clear hw1 k1 bD hc5 hr h1 h2 s l0 s1 hN hl hF hF1 hk hp
  go_enter Try.func9, Try.ntmps9
  go_wp2_with fail
  rw [← HW.out]
  go_wp2_with fail
  refine HWI.out.mono ?_
  rintro e w' ⟨rfl, rfl⟩
  go_wp2_with fail
  refine HP.out.mono ?_
  rintro e w2 ⟨rfl, l2⟩
  have L2 := Lib.hid (L0.out.trans l2)
  clear l2
  go_wp2
  try rw [Exit.noGoto_ret]
  go_ret
  obtain ⟨q1, q2⟩ := told_end (l := [ws[0]?.getD 0, 0]) S0.out L2.out HN.out
  exact ⟨_, _, rfl, q1, q2⟩
set_option maxRecDepth 100000 in
set_option maxHeartbeats 4000000 in
theorem done_1no (s : St w D n N ws gv ms F) (hN : N ≤ w.heap.size) (hl : ms.length < 700000) (hF : ∀ b, F b → b < w.heap.size) (hr : kd % 5 = 1) (h1 : -9223372036854775808 ≤ kd) (h2 : kd ≤ 9223372036854775807) (k : Nat) (hk : k < n) (hp : ¬ ws[k + 1]?.getD 0 = 0) :
    Calls Try.prog 9 #[.pointer (some ⟨D, 0, none⟩), gv, .agg #[.int .i64 kd, .int .i64 (k : Int), .int .u64 (q : Int)]] w (Done D n N (ws) [0, 90] gv (ms ++ [(1, k + 1)]) F w) := by
  obtain ⟨w1, hw1, k1, bD⟩ := do_box kd (k : Int) q w
  have d0 : w1.cell? ⟨w.heap.size, 0, none⟩ = some (.int .i64 kd) := by rw [bD.cell]; rfl
  have d1 : w1.cell? ⟨w.heap.size, 1, none⟩ = some (.int .i64 (k : Int)) := by rw [bD.cell]; rfl
  have d2 : w1.cell? ⟨w.heap.size, 2, none⟩ = some (.int .u64 (q : Int)) := by rw [bD.cell]; rfl
  have HWI := Lib.hid (within_ kd 5 w1 (by omega) (by omega) h1 h2)
  have hc5 : ((5 : Nat) : Int) = 5 := rfl
  rw [hc5, hr] at HWI
  have l0 := left_new s k1 hN
  have s1 := l0.st s
  have hF1 : ∀ b, Grown w w1 F b → b < w1.heap.size := fun b hb => by rcases hb with z | z; have := hF b z; have := l0.keep.size; omega; exact z.2
  have HP := Lib.hid (pin_no D n N k ws gv ms _ w1 s1 (by omega) hk hp)
  have HW := Lib.hid hw1
  have S0 := Lib.hid s
  have L0 := Lib.hid l0
  have HN := Lib.hid hN
  have HY := fun b w => Lib.hid (yes_ b w)
  clear hw1 k1 bD hc5 hr h1 h2 s l0 s1 hN hl hF hF1 hk hp
  go_enter Try.func9, Try.ntmps9
  go_wp2_with fail
  rw [← HW.out]
  go_wp2_with fail
  refine HWI.out.mono ?_
  rintro e w' ⟨rfl, rfl⟩
  go_wp2_with fail
  refine HP.out.mono ?_
  rintro e w2 ⟨rfl, l2⟩
  have L2 := Lib.hid (L0.out.trans l2)
  clear l2
  go_wp2
  try rw [Exit.noGoto_ret]
  go_ret
  obtain ⟨q1, q2⟩ := told_end (l := [0, 90]) S0.out L2.out HN.out
  exact ⟨_, _, rfl, q1, q2⟩
set_option maxRecDepth 100000 in
set_option maxHeartbeats 4000000 in
theorem done_1out (s : St w D n N ws gv ms F) (hN : N ≤ w.heap.size) (hl : ms.length < 700000) (hF : ∀ b, F b → b < w.heap.size) (hr : kd % 5 = 1) (h1 : -9223372036854775808 ≤ kd) (h2 : kd ≤ 9223372036854775807) (hx : sl < 0 ∨ (n : Int) ≤ sl) :
    Calls Try.prog 9 #[.pointer (some ⟨D, 0, none⟩), gv, .agg #[.int .i64 kd, .int .i64 sl, .int .u64 (q : Int)]] w (Done D n N (ws) [0, 5] gv (ms) F w) := by
  obtain ⟨w1, hw1, k1, bD⟩ := do_box kd sl q w
  have d0 : w1.cell? ⟨w.heap.size, 0, none⟩ = some (.int .i64 kd) := by rw [bD.cell]; rfl
  have d1 : w1.cell? ⟨w.heap.size, 1, none⟩ = some (.int .i64 sl) := by rw [bD.cell]; rfl
  have d2 : w1.cell? ⟨w.heap.size, 2, none⟩ = some (.int .u64 (q : Int)) := by rw [bD.cell]; rfl
  have HWI := Lib.hid (within_ kd 5 w1 (by omega) (by omega) h1 h2)
  have hc5 : ((5 : Nat) : Int) = 5 := rfl
  rw [hc5, hr] at HWI
  have l0 := left_new s k1 hN
  have s1 := l0.st s
  have hF1 : ∀ b, Grown w w1 F b → b < w1.heap.size := fun b hb => by rcases hb with z | z; have := hF b z; have := l0.keep.size; omega; exact z.2
  have HP := Lib.hid (pin_range D n N ws gv ms _ w1 sl s1 hF1 hx)
  have HW := Lib.hid hw1
  have S0 := Lib.hid s
  have L0 := Lib.hid l0
  have HN := Lib.hid hN
  have HY := fun b w => Lib.hid (yes_ b w)
  clear hw1 k1 bD hc5 hr h1 h2 s l0 s1 hN hl hF hF1 hx
  go_enter Try.func9, Try.ntmps9
  go_wp2_with fail
  rw [← HW.out]
  go_wp2_with fail
  refine HWI.out.mono ?_
  rintro e w' ⟨rfl, rfl⟩
  go_wp2_with fail
  refine HP.out.mono ?_
  rintro e w2 ⟨rfl, l2⟩
  have L2 := Lib.hid (L0.out.trans l2)
  clear l2
  go_wp2
  try rw [Exit.noGoto_ret]
  go_ret
  obtain ⟨q1, q2⟩ := told_end (l := [0, 5]) S0.out L2.out HN.out
  exact ⟨_, _, rfl, q1, q2⟩
set_option maxRecDepth 100000 in
set_option maxHeartbeats 4000000 in
theorem done_2yes (s : St w D n N ws gv ms F) (hN : N ≤ w.heap.size) (hl : ms.length < 700000) (hF : ∀ b, F b → b < w.heap.size) (hr : kd % 5 = 2) (h1 : -9223372036854775808 ≤ kd) (h2 : kd ≤ 9223372036854775807) (k : Nat) (hk : k < n) (hp : ¬ ws[k + 1]?.getD 0 = 0) :
    Calls Try.prog 9 #[.pointer (some ⟨D, 0, none⟩), gv, .agg #[.int .i64 kd, .int .i64 (k : Int), .int .u64 (q : Int)]] w (Done D n N (ws.set (k + 1) 0) [0] gv (ms ++ [(1, k + 1)] ++ [(2, k + 1)]) F w) := by
  obtain ⟨w1, hw1, k1, bD⟩ := do_box kd (k : Int) q w
  have d0 : w1.cell? ⟨w.heap.size, 0, none⟩ = some (.int .i64 kd) := by rw [bD.cell]; rfl
  have d1 : w1.cell? ⟨w.heap.size, 1, none⟩ = some (.int .i64 (k : Int)) := by rw [bD.cell]; rfl
  have d2 : w1.cell? ⟨w.heap.size, 2, none⟩ = some (.int .u64 (q : Int)) := by rw [bD.cell]; rfl
  have HWI := Lib.hid (within_ kd 5 w1 (by omega) (by omega) h1 h2)
  have hc5 : ((5 : Nat) : Int) = 5 := rfl
  rw [hc5, hr] at HWI
  have l0 := left_new s k1 hN
  have s1 := l0.st s
  have hF1 : ∀ b, Grown w w1 F b → b < w1.heap.size := fun b hb => by rcases hb with z | z; have := hF b z; have := l0.keep.size; omega; exact z.2
  have HP := Lib.hid (unpin_yes D n N k ws gv ms _ w1 s1 (by omega) hk hp)
  have HW := Lib.hid hw1
  have S0 := Lib.hid s
  have L0 := Lib.hid l0
  have HN := Lib.hid hN
  have HY := fun b w => Lib.hid (yes_ b w)
  clear hw1 k1 bD hc5 hr h1 h2 s l0 s1 hN hl hF hF1 hk hp
  go_enter Try.func9, Try.ntmps9
  go_wp2_with fail
  rw [← HW.out]
  go_wp2_with fail
  refine HWI.out.mono ?_
  rintro e w' ⟨rfl, rfl⟩
  go_wp2_with fail
  refine HP.out.mono ?_
  rintro e w2 ⟨rfl, l2⟩
  have L2 := Lib.hid (L0.out.trans l2)
  clear l2
  go_wp2
  try rw [Exit.noGoto_ret]
  go_ret
  obtain ⟨q1, q2⟩ := told_end (l := [0]) S0.out L2.out HN.out
  exact ⟨_, _, rfl, q1, q2⟩
set_option maxRecDepth 100000 in
set_option maxHeartbeats 4000000 in
theorem done_2no (s : St w D n N ws gv ms F) (hN : N ≤ w.heap.size) (hl : ms.length < 700000) (hF : ∀ b, F b → b < w.heap.size) (hr : kd % 5 = 2) (h1 : -9223372036854775808 ≤ kd) (h2 : kd ≤ 9223372036854775807) (k : Nat) (hk : k < n) (hp : ws[k + 1]?.getD 0 = 0) :
    Calls Try.prog 9 #[.pointer (some ⟨D, 0, none⟩), gv, .agg #[.int .i64 kd, .int .i64 (k : Int), .int .u64 (q : Int)]] w (Done D n N (ws) [90] gv (ms ++ [(1, k + 1)]) F w) := by
  obtain ⟨w1, hw1, k1, bD⟩ := do_box kd (k : Int) q w
  have d0 : w1.cell? ⟨w.heap.size, 0, none⟩ = some (.int .i64 kd) := by rw [bD.cell]; rfl
  have d1 : w1.cell? ⟨w.heap.size, 1, none⟩ = some (.int .i64 (k : Int)) := by rw [bD.cell]; rfl
  have d2 : w1.cell? ⟨w.heap.size, 2, none⟩ = some (.int .u64 (q : Int)) := by rw [bD.cell]; rfl
  have HWI := Lib.hid (within_ kd 5 w1 (by omega) (by omega) h1 h2)
  have hc5 : ((5 : Nat) : Int) = 5 := rfl
  rw [hc5, hr] at HWI
  have l0 := left_new s k1 hN
  have s1 := l0.st s
  have hF1 : ∀ b, Grown w w1 F b → b < w1.heap.size := fun b hb => by rcases hb with z | z; have := hF b z; have := l0.keep.size; omega; exact z.2
  have HP := Lib.hid (unpin_no D n N k ws gv ms _ w1 s1 (by omega) hk hp)
  have HW := Lib.hid hw1
  have S0 := Lib.hid s
  have L0 := Lib.hid l0
  have HN := Lib.hid hN
  have HY := fun b w => Lib.hid (yes_ b w)
  clear hw1 k1 bD hc5 hr h1 h2 s l0 s1 hN hl hF hF1 hk hp
  go_enter Try.func9, Try.ntmps9
  go_wp2_with fail
  rw [← HW.out]
  go_wp2_with fail
  refine HWI.out.mono ?_
  rintro e w' ⟨rfl, rfl⟩
  go_wp2_with fail
  refine HP.out.mono ?_
  rintro e w2 ⟨rfl, l2⟩
  have L2 := Lib.hid (L0.out.trans l2)
  clear l2
  go_wp2
  try rw [Exit.noGoto_ret]
  go_ret
  obtain ⟨q1, q2⟩ := told_end (l := [90]) S0.out L2.out HN.out
  exact ⟨_, _, rfl, q1, q2⟩
set_option maxRecDepth 100000 in
set_option maxHeartbeats 4000000 in
theorem done_2out (s : St w D n N ws gv ms F) (hN : N ≤ w.heap.size) (hl : ms.length < 700000) (hF : ∀ b, F b → b < w.heap.size) (hr : kd % 5 = 2) (h1 : -9223372036854775808 ≤ kd) (h2 : kd ≤ 9223372036854775807) (hx : sl < 0 ∨ (n : Int) ≤ sl) :
    Calls Try.prog 9 #[.pointer (some ⟨D, 0, none⟩), gv, .agg #[.int .i64 kd, .int .i64 sl, .int .u64 (q : Int)]] w (Done D n N (ws) [5] gv (ms) F w) := by
  obtain ⟨w1, hw1, k1, bD⟩ := do_box kd sl q w
  have d0 : w1.cell? ⟨w.heap.size, 0, none⟩ = some (.int .i64 kd) := by rw [bD.cell]; rfl
  have d1 : w1.cell? ⟨w.heap.size, 1, none⟩ = some (.int .i64 sl) := by rw [bD.cell]; rfl
  have d2 : w1.cell? ⟨w.heap.size, 2, none⟩ = some (.int .u64 (q : Int)) := by rw [bD.cell]; rfl
  have HWI := Lib.hid (within_ kd 5 w1 (by omega) (by omega) h1 h2)
  have hc5 : ((5 : Nat) : Int) = 5 := rfl
  rw [hc5, hr] at HWI
  have l0 := left_new s k1 hN
  have s1 := l0.st s
  have hF1 : ∀ b, Grown w w1 F b → b < w1.heap.size := fun b hb => by rcases hb with z | z; have := hF b z; have := l0.keep.size; omega; exact z.2
  have HP := Lib.hid (unpin_range D n N ws gv ms _ w1 sl s1 hF1 hx)
  have HW := Lib.hid hw1
  have S0 := Lib.hid s
  have L0 := Lib.hid l0
  have HN := Lib.hid hN
  have HY := fun b w => Lib.hid (yes_ b w)
  clear hw1 k1 bD hc5 hr h1 h2 s l0 s1 hN hl hF hF1 hx
  go_enter Try.func9, Try.ntmps9
  go_wp2_with fail
  rw [← HW.out]
  go_wp2_with fail
  refine HWI.out.mono ?_
  rintro e w' ⟨rfl, rfl⟩
  go_wp2_with fail
  refine HP.out.mono ?_
  rintro e w2 ⟨rfl, l2⟩
  have L2 := Lib.hid (L0.out.trans l2)
  clear l2
  go_wp2
  try rw [Exit.noGoto_ret]
  go_ret
  obtain ⟨q1, q2⟩ := told_end (l := [5]) S0.out L2.out HN.out
  exact ⟨_, _, rfl, q1, q2⟩
set_option maxRecDepth 100000 in
set_option maxHeartbeats 4000000 in
theorem done_3no (s : St w D n N ws gv ms F) (hN : N ≤ w.heap.size) (hl : ms.length < 700000) (hF : ∀ b, F b → b < w.heap.size) (hr : kd % 5 = 3) (h1 : -9223372036854775808 ≤ kd) (h2 : kd ≤ 9223372036854775807) (ha : away (ws[0]?.getD 0) ws 0 n = true) :
    Calls Try.prog 9 #[.pointer (some ⟨D, 0, none⟩), gv, .agg #[.int .i64 kd, .int .i64 sl, .int .u64 (q : Int)]] w (Done D n N (ws) [0, 0] gv (ms ++ [(1, 0)] ++ looks (ws[0]?.getD 0) ws 0 n) F w) := by
  obtain ⟨w1, hw1, k1, bD⟩ := do_box kd sl q w
  have d0 : w1.cell? ⟨w.heap.size, 0, none⟩ = some (.int .i64 kd) := by rw [bD.cell]; rfl
  have d1 : w1.cell? ⟨w.heap.size, 1, none⟩ = some (.int .i64 sl) := by rw [bD.cell]; rfl
  have d2 : w1.cell? ⟨w.heap.size, 2, none⟩ = some (.int .u64 (q : Int)) := by rw [bD.cell]; rfl
  have HWI := Lib.hid (within_ kd 5 w1 (by omega) (by omega) h1 h2)
  have hc5 : ((5 : Nat) : Int) = 5 := rfl
  rw [hc5, hr] at HWI
  have l0 := left_new s k1 hN
  have s1 := l0.st s
  have hF1 : ∀ b, Grown w w1 F b → b < w1.heap.size := fun b hb => by rcases hb with z | z; have := hF b z; have := l0.keep.size; omega; exact z.2
  have HP := Lib.hid (move_no D n N ws gv ms _ w1 s1 (by omega) hF1 ha)
  have HW := Lib.hid hw1
  have S0 := Lib.hid s
  have L0 := Lib.hid l0
  have HN := Lib.hid hN
  have HY := fun b w => Lib.hid (yes_ b w)
  clear hw1 k1 bD hc5 hr h1 h2 s l0 s1 hN hl hF hF1 ha
  go_enter Try.func9, Try.ntmps9
  go_wp2_with fail
  rw [← HW.out]
  go_wp2_with fail
  refine HWI.out.mono ?_
  rintro e w' ⟨rfl, rfl⟩
  go_wp2_with fail
  refine HP.out.mono ?_
  rintro e w2 ⟨rfl, l2⟩
  have L2 := Lib.hid (L0.out.trans l2)
  clear l2
  go_wp2_with fail
  refine (HY false w2).out.mono ?_
  rintro e w' ⟨rfl, rfl⟩
  go_wp2_with fail
  refine (told_ok _ _ _ _).mono ?_
  rintro e w' ⟨rfl, rfl⟩
  go_wp2
  try rw [Exit.noGoto_ret]
  go_ret
  obtain ⟨q1, q2⟩ := told_end (l := [0, 0]) S0.out L2.out HN.out
  exact ⟨_, _, rfl, q1, q2⟩
set_option maxRecDepth 100000 in
set_option maxHeartbeats 4000000 in
theorem done_3yes (s : St w D n N ws gv ms F) (hN : N ≤ w.heap.size) (hl : ms.length < 700000) (hF : ∀ b, F b → b < w.heap.size) (hr : kd % 5 = 3) (h1 : -9223372036854775808 ≤ kd) (h2 : kd ≤ 9223372036854775807) (ha : away (ws[0]?.getD 0) ws 0 n = false) (he : ws[0]?.getD 0 < 900000) :
    Calls Try.prog 9 #[.pointer (some ⟨D, 0, none⟩), gv, .agg #[.int .i64 kd, .int .i64 sl, .int .u64 (q : Int)]] w (Done D n N (ws.set 0 (ws[0]?.getD 0 + 1)) [ws[0]?.getD 0 + 1, 1] gv (ms ++ [(1, 0)] ++ looks (ws[0]?.getD 0) ws 0 n ++ [(5, 0)]) F w) := by
  obtain ⟨w1, hw1, k1, bD⟩ := do_box kd sl q w
  have d0 : w1.cell? ⟨w.heap.size, 0, none⟩ = some (.int .i64 kd) := by rw [bD.cell]; rfl
  have d1 : w1.cell? ⟨w.heap.size, 1, none⟩ = some (.int .i64 sl) := by rw [bD.cell]; rfl
  have d2 : w1.cell? ⟨w.heap.size, 2, none⟩ = some (.int .u64 (q : Int)) := by rw [bD.cell]; rfl
  have HWI := Lib.hid (within_ kd 5 w1 (by omega) (by omega) h1 h2)
  have hc5 : ((5 : Nat) : Int) = 5 := rfl
  rw [hc5, hr] at HWI
  have l0 := left_new s k1 hN
  have s1 := l0.st s
  have hF1 : ∀ b, Grown w w1 F b → b < w1.heap.size := fun b hb => by rcases hb with z | z; have := hF b z; have := l0.keep.size; omega; exact z.2
  have HP := Lib.hid (move_yes D n N ws gv ms _ w1 s1 (by omega) hF1 ha he)
  have HW := Lib.hid hw1
  have S0 := Lib.hid s
  have L0 := Lib.hid l0
  have HN := Lib.hid hN
  have HY := fun b w => Lib.hid (yes_ b w)
  clear hw1 k1 bD hc5 hr h1 h2 s l0 s1 hN hl hF hF1 ha he
  go_enter Try.func9, Try.ntmps9
  go_wp2_with fail
  rw [← HW.out]
  go_wp2_with fail
  refine HWI.out.mono ?_
  rintro e w' ⟨rfl, rfl⟩
  go_wp2_with fail
  refine HP.out.mono ?_
  rintro e w2 ⟨rfl, l2⟩
  have L2 := Lib.hid (L0.out.trans l2)
  clear l2
  go_wp2_with fail
  refine (HY true w2).out.mono ?_
  rintro e w' ⟨rfl, rfl⟩
  go_wp2_with fail
  refine (told_ok _ _ _ _).mono ?_
  rintro e w' ⟨rfl, rfl⟩
  go_wp2
  try rw [Exit.noGoto_ret]
  go_ret
  obtain ⟨q1, q2⟩ := told_end (l := [ws[0]?.getD 0 + 1, 1]) S0.out L2.out HN.out
  exact ⟨_, _, rfl, q1, q2⟩
set_option maxRecDepth 100000 in
set_option maxHeartbeats 4000000 in
theorem done_4yes (s : St w D n N ws gv ms F) (hN : N ≤ w.heap.size) (hl : ms.length < 700000) (hF : ∀ b, F b → b < w.heap.size) (hr : kd % 5 = 4) (h1 : -9223372036854775808 ≤ kd) (h2 : kd ≤ 9223372036854775807) (ha : safe (ws[0]?.getD 0) q = true) :
    Calls Try.prog 9 #[.pointer (some ⟨D, 0, none⟩), gv, .agg #[.int .i64 kd, .int .i64 sl, .int .u64 (q : Int)]] w (Done D n N (ws) [1] gv (ms ++ [(1, 0)]) F w) := by
  obtain ⟨w1, hw1, k1, bD⟩ := do_box kd sl q w
  have d0 : w1.cell? ⟨w.heap.size, 0, none⟩ = some (.int .i64 kd) := by rw [bD.cell]; rfl
  have d1 : w1.cell? ⟨w.heap.size, 1, none⟩ = some (.int .i64 sl) := by rw [bD.cell]; rfl
  have d2 : w1.cell? ⟨w.heap.size, 2, none⟩ = some (.int .u64 (q : Int)) := by rw [bD.cell]; rfl
  have HWI := Lib.hid (within_ kd 5 w1 (by omega) (by omega) h1 h2)
  have hc5 : ((5 : Nat) : Int) = 5 := rfl
  rw [hc5, hr] at HWI
  have l0 := left_new s k1 hN
  have s1 := l0.st s
  have hF1 : ∀ b, Grown w w1 F b → b < w1.heap.size := fun b hb => by rcases hb with z | z; have := hF b z; have := l0.keep.size; omega; exact z.2
  have HP := Lib.hid (safe_ D n N ws gv ms _ w1 q s1 (by omega))
  rw [ha] at HP
  have HW := Lib.hid hw1
  have S0 := Lib.hid s
  have L0 := Lib.hid l0
  have HN := Lib.hid hN
  have HY := fun b w => Lib.hid (yes_ b w)
  clear hw1 k1 bD hc5 hr h1 h2 s l0 s1 hN hl hF hF1 ha
  go_enter Try.func9, Try.ntmps9
  go_wp2_with fail
  rw [← HW.out]
  go_wp2_with fail
  refine HWI.out.mono ?_
  rintro e w' ⟨rfl, rfl⟩
  go_wp2_with fail
  refine HP.out.mono ?_
  rintro e w2 ⟨rfl, l2⟩
  have L2 := Lib.hid (L0.out.trans l2)
  clear l2
  go_wp2_with fail
  refine (HY true w2).out.mono ?_
  rintro e w' ⟨rfl, rfl⟩
  go_wp2_with fail
  refine (told_ok _ _ _ _).mono ?_
  rintro e w' ⟨rfl, rfl⟩
  go_wp2
  try rw [Exit.noGoto_ret]
  go_ret
  obtain ⟨q1, q2⟩ := told_end (l := [1]) S0.out L2.out HN.out
  exact ⟨_, _, rfl, q1, q2⟩
set_option maxRecDepth 100000 in
set_option maxHeartbeats 4000000 in
theorem done_4no (s : St w D n N ws gv ms F) (hN : N ≤ w.heap.size) (hl : ms.length < 700000) (hF : ∀ b, F b → b < w.heap.size) (hr : kd % 5 = 4) (h1 : -9223372036854775808 ≤ kd) (h2 : kd ≤ 9223372036854775807) (ha : safe (ws[0]?.getD 0) q = false) :
    Calls Try.prog 9 #[.pointer (some ⟨D, 0, none⟩), gv, .agg #[.int .i64 kd, .int .i64 sl, .int .u64 (q : Int)]] w (Done D n N (ws) [0] gv (ms ++ [(1, 0)]) F w) := by
  obtain ⟨w1, hw1, k1, bD⟩ := do_box kd sl q w
  have d0 : w1.cell? ⟨w.heap.size, 0, none⟩ = some (.int .i64 kd) := by rw [bD.cell]; rfl
  have d1 : w1.cell? ⟨w.heap.size, 1, none⟩ = some (.int .i64 sl) := by rw [bD.cell]; rfl
  have d2 : w1.cell? ⟨w.heap.size, 2, none⟩ = some (.int .u64 (q : Int)) := by rw [bD.cell]; rfl
  have HWI := Lib.hid (within_ kd 5 w1 (by omega) (by omega) h1 h2)
  have hc5 : ((5 : Nat) : Int) = 5 := rfl
  rw [hc5, hr] at HWI
  have l0 := left_new s k1 hN
  have s1 := l0.st s
  have hF1 : ∀ b, Grown w w1 F b → b < w1.heap.size := fun b hb => by rcases hb with z | z; have := hF b z; have := l0.keep.size; omega; exact z.2
  have HP := Lib.hid (safe_ D n N ws gv ms _ w1 q s1 (by omega))
  rw [ha] at HP
  have HW := Lib.hid hw1
  have S0 := Lib.hid s
  have L0 := Lib.hid l0
  have HN := Lib.hid hN
  have HY := fun b w => Lib.hid (yes_ b w)
  clear hw1 k1 bD hc5 hr h1 h2 s l0 s1 hN hl hF hF1 ha
  go_enter Try.func9, Try.ntmps9
  go_wp2_with fail
  rw [← HW.out]
  go_wp2_with fail
  refine HWI.out.mono ?_
  rintro e w' ⟨rfl, rfl⟩
  go_wp2_with fail
  refine HP.out.mono ?_
  rintro e w2 ⟨rfl, l2⟩
  have L2 := Lib.hid (L0.out.trans l2)
  clear l2
  go_wp2_with fail
  refine (HY false w2).out.mono ?_
  rintro e w' ⟨rfl, rfl⟩
  go_wp2_with fail
  refine (told_ok _ _ _ _).mono ?_
  rintro e w' ⟨rfl, rfl⟩
  go_wp2
  try rw [Exit.noGoto_ret]
  go_ret
  obtain ⟨q1, q2⟩ := told_end (l := [0]) S0.out L2.out HN.out
  exact ⟨_, _, rfl, q1, q2⟩
end
/-- done, of any call -/
theorem done_any (D n N r q : Nat) (kd sl : Int) (ws : List Nat) (gv : Value) (ms : List (Nat × Nat)) (F : Nat → Prop) (w : World) (s : St w D n N ws gv ms F) (hN : N ≤ w.heap.size) (hl : ms.length < 700000) (hF : ∀ b, F b → b < w.heap.size) (hr5 : r < 5) (hr : kd % 5 = (r : Int)) (h1 : -9223372036854775808 ≤ kd) (h2 : kd ≤ 9223372036854775807) (he : ws[0]?.getD 0 < 900000) :
    Calls Try.prog 9 #[.pointer (some ⟨D, 0, none⟩), gv, .agg #[.int .i64 kd, .int .i64 sl, .int .u64 (q : Int)]] w (Done D n N (outOf n r sl q ws).next (outOf n r sl q ws).told gv (ms ++ (outOf n r sl q ws).marks) F w) := by
  rcases (show r = 0 ∨ r = 1 ∨ r = 2 ∨ r = 3 ∨ r = 4 by omega) with rfl | rfl | rfl | rfl | rfl
  · have h := done_0 D n N q kd sl ws gv ms F w s hN hl hF hr h1 h2
    simpa [outOf] using h
  · cases ht : there n sl with
    | true =>
      obtain ⟨k, rfl, hk, hkn⟩ := there_yes ht
      by_cases hp : ws[k + 1]?.getD 0 = 0
      · have h := done_1yes D n N q kd ws gv ms F w s hN hl hF hr h1 h2 k hkn hp
        simpa [outOf, ht, hk, hp] using h
      · have h := done_1no D n N q kd ws gv ms F w s hN hl hF hr h1 h2 k hkn hp
        simpa [outOf, ht, hk, hp] using h
    | false =>
      have h := done_1out D n N q kd sl ws gv ms F w s hN hl hF hr h1 h2 (there_no ht)
      simpa [outOf, ht] using h
  · cases ht : there n sl with
    | true =>
      obtain ⟨k, rfl, hk, hkn⟩ := there_yes ht
      by_cases hp : ws[k + 1]?.getD 0 = 0
      · have h := done_2no D n N q kd ws gv ms F w s hN hl hF hr h1 h2 k hkn hp
        simpa [outOf, ht, hk, hp] using h
      · have h := done_2yes D n N q kd ws gv ms F w s hN hl hF hr h1 h2 k hkn hp
        simpa [outOf, ht, hk, hp] using h
    | false =>
      have h := done_2out D n N q kd sl ws gv ms F w s hN hl hF hr h1 h2 (there_no ht)
      simpa [outOf, ht] using h
  · cases ha : away (ws[0]?.getD 0) ws 0 n with
    | true =>
      have h := done_3no D n N q kd sl ws gv ms F w s hN hl hF hr h1 h2 ha
      simpa [outOf, ha] using h
    | false =>
      have h := done_3yes D n N q kd sl ws gv ms F w s hN hl hF hr h1 h2 ha he
      simpa [outOf, ha] using h
  · cases ha : safe (ws[0]?.getD 0) q with
    | true =>
      have h := done_4yes D n N q kd sl ws gv ms F w s hN hl hF hr h1 h2 ha
      simpa [outOf, ha] using h
    | false =>
      have h := done_4no D n N q kd sl ws gv ms F w s hN hl hF hr h1 h2 ha
      simpa [outOf, ha] using h
end Go.Proofs.Ytebjmmckejbklaa.rf9
set_option linter.unusedVariables false
namespace Go.Proofs.Ytebjmmckejbklaa.rf9
open Go.RowKit Go.Proofs.Ytebjmmckejbklaa.oc Go.Proofs.Ytebjmmckejbklaa.mz Go.Proofs.Ytebjmmckejbklaa.at_ Go.Proofs.Ytebjmmckejbklaa.gt Go.Proofs.Ytebjmmckejbklaa.gw Go.Proofs.Ytebjmmckejbklaa.ep
section
variable {D n : Nat} {ws ws' : List Nat} {w w' : World}
theorem st0 (h : Ep w D n ws) : St w D n 0 ws .nilIface [] (fun _ => False) := ⟨h, GF.nil_ _ _ _ _, fun z => z⟩
theorem keep0 {ms' : List (Nat × Nat)} (l : ep.Left D n 0 ws' .nilIface ms' (fun _ => False) w w') : Keeps (· = D) w w' := l.keep.mono (fun b _ z => by rcases z with z | z; exact z; exact z.elim)
end
set_option maxRecDepth 100000 in
set_option maxHeartbeats 2000000 in
theorem works_ (w : World) : Calls Try.prog 5 #[] w fun e w' => e = .returned (.bool true) ∧ ∀ S, Keeps S w w' := by
  have HNEW := Lib.hid (new_ok 2 w (by omega) (by omega))
  have hc2 : ((2 : Nat) : Int) = 2 := rfl
  rw [hc2] at HNEW
  clear hc2
  go_enter Try.func5, Try.ntmps5
  go_wp2_with fail
  refine HNEW.out.mono ?_
  rintro e w1 ⟨D, rfl, r1, hD, k1⟩
  have K1 : Hid (∀ S, Keeps S w w1) := Lib.hid k1
  have HD : Hid (w.heap.size ≤ D) := Lib.hid hD
  have H1 := Lib.hid (pin_yes D 2 0 0 (startW 2) .nilIface [] _ w1 (st0 r1) (by simp) (by omega) rfl)
  clear r1 k1 hD
  go_wp2_with fail
  refine H1.out.mono ?_
  rintro e w2 ⟨rfl, l2⟩
  have H2 := Lib.hid (move_yes D 2 0 _ .nilIface [] _ w2 (st0 l2.ep) (by simp) (fun b z => z.elim) rfl (by decide))
  have K2 := Lib.hid (keep0 l2)
  clear l2
  go_wp2_with fail
  refine H2.out.mono ?_
  rintro e w3 ⟨rfl, l3⟩
  have H3 := Lib.hid (move_no D 2 0 _ .nilIface [] _ w3 (st0 l3.ep) (by simp) (fun b z => z.elim) rfl)
  have K3 := Lib.hid (keep0 l3)
  clear l3
  go_wp2_with fail
  refine H3.out.mono ?_
  rintro e w4 ⟨rfl, l4⟩
  have H4 := Lib.hid (unpin_yes D 2 0 0 _ .nilIface [] _ w4 (st0 l4.ep) (by simp) (by omega) (by decide))
  have K4 := Lib.hid (keep0 l4)
  clear l4
  go_wp2_with fail
  refine H4.out.mono ?_
  rintro e w5 ⟨rfl, l5⟩
  have H5 := Lib.hid (move_yes D 2 0 _ .nilIface [] _ w5 (st0 l5.ep) (by simp) (fun b z => z.elim) rfl (by decide))
  have K5 := Lib.hid (keep0 l5)
  clear l5
  go_wp2_with fail
  refine H5.out.mono ?_
  rintro e w6 ⟨rfl, l6⟩
  have H6 := Lib.hid (safe_ D 2 0 _ .nilIface [] _ w6 1 (st0 l6.ep) (by simp))
  have K6 := Lib.hid (keep0 l6)
  clear l6
  go_wp2_with fail
  refine H6.out.mono ?_
  rintro e w7 ⟨rfl, l7⟩
  have K7 := Lib.hid (keep0 l7)
  clear l7
  go_wp2
  go_ret
  refine ⟨rfl, fun S => ?_⟩
  have hd := HD.out
  have k : Keeps (· = D) w w7 := ((((((K1.out _).trans K2.out).trans K3.out).trans K4.out).trans K5.out).trans K6.out).trans K7.out
  exact k.mono (fun b hb e => by omega)
theorem told_few (n r : Nat) (s : Int) (q : Nat) (ws : List Nat) : (outOf n r s q ws).told.length ≤ 2 := by
  simp only [outOf]
  (repeat' split) <;> simp
theorem marks_few (n r : Nat) (s : Int) (q : Nat) (ws : List Nat) : (outOf n r s q ws).marks.length ≤ n + 5 := by
  have h := looks_len (ws[0]?.getD 0) ws n 0
  simp only [outOf]
  (repeat' split) <;> simp <;> omega
/-- epochs rise by one at most -/
structure Low (n : Nat) (ws : List Nat) (j : Nat) : Prop where
  len : ws.length = n + 1
  low : ∀ x ∈ ws, x ≤ j + 1
theorem Low.at0 {n j : Nat} {ws : List Nat} (h : Low n ws j) (i : Nat) : ws[i]?.getD 0 ≤ j + 1 := by
  rcases Nat.lt_or_ge i ws.length with q | q
  · rw [List.getElem?_eq_getElem q]; exact h.low _ (List.getElem_mem q)
  · rw [List.getElem?_eq_none q]; exact Nat.zero_le _
theorem Low.start (n : Nat) : Low n (startW n) 0 := ⟨by simp [startW], fun x hx => by
  rcases List.mem_cons.1 hx with q | q
  · omega
  · have := (List.mem_replicate.1 q).2; omega⟩
theorem Low.set {n j k v : Nat} {ws : List Nat} (h : Low n ws j) (hv : v ≤ j + 2) : Low n (ws.set k v) (j + 1) := ⟨by simpa using h.len, fun x hx => by
  rcases List.mem_or_eq_of_mem_set hx with q | q
  · have := h.low x q; omega
  · omega⟩
theorem Low.more {n j : Nat} {ws : List Nat} (h : Low n ws j) : Low n ws (j + 1) := ⟨h.len, fun x hx => by have := h.low x hx; omega⟩
theorem Low.next {n j : Nat} {ws : List Nat} (h : Low n ws j) (r : Nat) (s : Int) (q : Nat) : Low n (outOf n r s q ws).next (j + 1) := by
  have h0 := h.at0 0
  simp only [outOf]
  (repeat' split) <;> first | exact h.more | exact h.set (by omega)
theorem alone_ (n r q m j : Nat) (s : Int) (ws : List Nat) (wv lv cv dv : Value) (w : World) (hr : r < 5) (h1 : 1 ≤ n) (hn : n ≤ 16) (hlo : Low n ws j) (hj : j < 100000) (hq : q < 18446744073709551616) (hw : IsWords w w.heap.size wv [ws]) (hl : IsLists w w.heap.size lv m) (hm : m < 1000000) (hc : IsCode w w.heap.size cv (codeOf n r s q)) (hd : IsData w w.heap.size dv []) :
    Calls Try.prog 10 #[.agg #[wv, lv], .agg #[cv, dv]] w fun e w' => ∃ tA tc A cc A2 c2 m' mA mc, e = .returned (.tuple #[.slice tA (outOf n r s q ws).told.length tc, .agg #[.slice A 1 cc, .slice A2 m' c2], .slice mA (outOf n r s q ws).marks.length mc]) ∧ m' < 1000000 ∧
      (∀ w'', Keeps (fun b => b < w.heap.size) w' w'' → IsData w'' w''.heap.size (.slice tA (outOf n r s q ws).told.length tc) (outOf n r s q ws).told ∧ IsWords w'' w''.heap.size (.slice A 1 cc) [(outOf n r s q ws).next] ∧ IsLists w'' w''.heap.size (.slice A2 m' c2) m' ∧ IsMarks w'' w''.heap.size (.slice mA (outOf n r s q ws).marks.length mc) (outOf n r s q ws).marks) ∧ ∀ S, Keeps S w w' := by
  have h0 := hlo.at0 0
  obtain ⟨f, pl, p1, p2, p3, p4⟩ := play_any (s := s) (r := r) (q := q) hlo.len h1 hn (by omega) hr hq
  have hmf := marks_few n r s q ws
  rw [out_code] at p1
  obtain ⟨O, hO⟩ : ∃ O, O = outOf n r s q ws := ⟨_, rfl⟩
  rw [← hO] at p2 p3 p4 hmf ⊢
  have hlen2 : pl.trace.length = O.marks.length := by rw [← p3]; simp
  have hcl : (codeOf n r s q).length < 1000000 := by
    unfold codeOf
    (repeat' split) <;> first | (simp [nowCode, pinCode, unpinCode, pinAt, unpinAt, failsCode, safeCode]; done) | (rw [(move_len n).2]; omega)
  have hsm : ∀ l ∈ [ws], ∀ x ∈ l, x < 18446744073709551616 := fun l hl x hx => by
    simp at hl; subst hl
    have := hlo.low x hx; omega
  have hwl : ws.length = n + 1 := hlo.len
  refine (alone_any 40 f w.heap.size m wv lv cv dv [ws] _ [] w hw hl hc hd (Nat.le_refl _) (by simp) hm (by simp; omega) hsm hcl pl p1 true O.told p4 (by omega)).mono ?_
  rintro e w' ⟨tA, tc, A, cc, A2, c2, m', mA, mc, he, hm', hr', hk⟩
  rw [p2, hlen2] at he hr'
  refine ⟨tA, tc, A, cc, A2, c2, m', mA, mc, he, hm', fun w'' kk => ?_, hk⟩
  have := hr' w'' kk
  rw [p2, p3] at this
  exact this
end Go.Proofs.Ytebjmmckejbklaa.rf9
