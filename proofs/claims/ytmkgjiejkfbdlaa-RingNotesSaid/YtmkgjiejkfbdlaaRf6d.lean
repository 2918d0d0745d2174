/-
  patchbaylaw06's done; R.World, R.May; the machine alone.
-/
import Derived.Test.YtmkgjiejkfbdlaaRf6c
set_option linter.unusedVariables false
namespace Go.Proofs.Ytmkgjiejkfbdlaa.rf6
open Go.RowKit Go.Proofs.Ytmkgjiejkfbdlaa.oc Go.Proofs.Ytmkgjiejkfbdlaa.mz Go.Proofs.Ytmkgjiejkfbdlaa.at_ Go.Proofs.Ytmkgjiejkfbdlaa.gt Go.Proofs.Ytmkgjiejkfbdlaa.rg
theorem word_info : (Try.prog.info? 31).map (fun i => (i.zero, i.size, i.bytes)) = some (some (.int .u64 0), 1, 8) := by kernel_rfl
set_option maxRecDepth 100000 in
set_option maxHeartbeats 1000000 in
theorem yes_ (b : Bool) (w : World) : Calls Try.prog 26 #[.bool b] w fun e w' => e = .returned (.int .u64 (((if b then 1 else 0 : Nat)) : Int)) ∧ w = w' := by
  cases b
  all_goals
    go_enter Try.func26, Try.ntmps26
    go_wp2
    try rw [Exit.noGoto_ret]
    go_ret
    exact ⟨rfl, rfl⟩
/-- what done leaves -/
def Done (R W n N : Nat) (ws' told : List Nat) (gv : Value) (ms' : List (Nat × Nat)) (w : World) (e : Ending) (w' : World) : Prop :=
  ∃ A c, e = .returned (.tuple #[.slice A told.length c, .int .i64 0]) ∧ IsData w' w'.heap.size (.slice A told.length c) told ∧ rg.Left R W n N ws' gv ms' w w'
theorem do_box (kd : Int) (vl : Nat) (w : World) : ∃ w1, w1 = w.alloc (.cells #[.int .i64 kd, .int .u64 (vl : Int)] 33) ∧ (∀ S, Keeps S w w1) ∧ Blk w1 w.heap.size 33 [.int .i64 kd, .int .u64 (vl : Int)] := enter_blk w _ _
/-- the list that was told, in a new block -/
theorem told_end {w w1 w2 : World} {R W n N : Nat} {ws' : List Nat} {gv : Value} {ms' : List (Nat × Nat)} {l : List Nat} (k1 : ∀ S, Keeps S w w1) (h : rg.Left R W n N ws' gv ms' w1 w2) (hN : N < w.heap.size) (hW : W < w.heap.size) (hR : R < w.heap.size) :
    IsData (w2.alloc (.cells (u64s l).toArray 31)) (w2.alloc (.cells (u64s l).toArray 31)).heap.size (.slice (some ⟨w2.heap.size, 0, none⟩) l.length l.length) l ∧ rg.Left R W n N ws' gv ms' w (w2.alloc (.cells (u64s l).toArray 31)) := by
  have b := Blk.new w2 31 (u64s l).toArray
  have k : Keeps (fun _ => False) w2 (w2.alloc (.cells (u64s l).toArray 31)) := (Keeps.refl _ w2).alloc _
  refine ⟨⟨_, l.length, rfl, ?_⟩, h.ring.keeps k (fun z => z) (fun z => z), h.gate.keeps k (fun _ _ z => z), ((k1 _).trans h.keep).trans (k.mono (fun _ _ z => z.elim))⟩
  have hr := b.rd
  rw [World.size_alloc]
  simpa using hr
set_option maxRecDepth 100000 in
set_option maxHeartbeats 4000000 in
theorem done_ (R W n N r vl : Nat) (kd : Int) (ws : List Nat) (gv : Value) (ms : List (Nat × Nat)) (w : World) (h : Rg w R W n ws) (hg : Gate w gv N ms) (hl : ms.length < 900000) (hR : R < N) (hW : W < N) (hN : N < w.heap.size) (hr : kd % 3 = (r : Int)) (h1 : -9223372036854775808 ≤ kd) (h2 : kd ≤ 9223372036854775807) (hv : vl < 18446744073709551616) :
    Calls Try.prog 16 #[.pointer (some ⟨R, 0, none⟩), gv, .agg #[.int .i64 kd, .int .u64 (vl : Int)]] w (Done R W n N (nextOf n r vl ws) (toldOf n r ws) gv (ms ++ marksOf n r ws) w) := by
  obtain ⟨w1, hw1, k1, bD⟩ := do_box kd vl w
  have d0 : w1.cell? ⟨w.heap.size, 0, none⟩ = some (.int .i64 kd) := by rw [bD.cell]; rfl
  have d1 : w1.cell? ⟨w.heap.size, 1, none⟩ = some (.int .u64 (vl : Int)) := by rw [bD.cell]; rfl
  have HWI := Lib.hid (within_ kd 3 w1 (by omega) (by omega) h1 h2)
  have hc3 : ((3 : Nat) : Int) = 3 := rfl
  rw [hc3, hr] at HWI
  have hr3 : r = 0 ∨ r = 1 ∨ r = 2 := by omega
  have h' := h.keeps (k1 (fun _ => False)) (fun z => z) (fun z => z)
  have hg' := hg.keeps (k1 (fun _ => False)) (fun _ _ z => z)
  have HW := Lib.hid hw1
  have K1 : Hid (∀ S, Keeps S w w1) := Lib.hid k1
  have HB : Hid (R < N ∧ W < N ∧ N < w.heap.size) := Lib.hid ⟨hR, hW, hN⟩
  have HY : ∀ b w, Hid (Calls Try.prog 26 #[.bool b] w fun e w' => e = .returned (.int .u64 (((if b then 1 else 0 : Nat)) : Int)) ∧ w = w') := fun b w => Lib.hid (yes_ b w)
  rcases hr3 with rfl | rfl | rfl
  · by_cases hd : dif ws < n
    · have HP := Lib.hid (put_yes R W n N ws gv ms w1 vl h' hg' hl hR hW hd hv)
      have e1 : toldOf n 0 ws = [1] := by simp [toldOf, hd]
      have e2 : nextOf n 0 vl ws = (ws.set (slotOf n (ws[1]?.getD 0)) vl).set 1 ((ws[1]?.getD 0 + 1) % 18446744073709551616) := by simp [nextOf, hd]
      have e3 : ms ++ marksOf n 0 ws = ms ++ [(1, 1)] ++ [(1, 0)] ++ [(2, slotOf n (ws[1]?.getD 0))] ++ [(2, 1)] := by simp [marksOf, hd]
      rw [e1, e2, e3]
      clear hw1 k1 bD hc3 hr h1 h2 h hg h' hg' hR hW hN hl hd e1 e2 e3 hv
      go_enter Try.func16, Try.ntmps16
      go_wp2_with fail
      rw [← HW.out]
      go_wp2_with fail
      refine HWI.out.mono ?_
      rintro e w' ⟨rfl, rfl⟩
      go_wp2_with fail
      refine HP.out.mono ?_
      rintro e w2 ⟨rfl, lf⟩
      have LF := Lib.hid lf
      clear lf
      go_wp2_with fail
      refine (HY true w2).out.mono ?_
      rintro e w' ⟨rfl, rfl⟩
      go_wp2
      try rw [Exit.noGoto_ret]
      go_ret2
      have hb := HB.out
      obtain ⟨q1, q2⟩ := told_end (l := [1]) K1.out LF.out hb.2.2 (by omega) (by omega)
      exact ⟨_, _, rfl, q1, q2⟩
    · have HP := Lib.hid (put_no R W n N ws gv ms w1 (vl : Int) h' hg' hl hR hW hd)
      have e1 : toldOf n 0 ws = [0] := by simp [toldOf, hd]
      have e2 : nextOf n 0 vl ws = ws := by simp [nextOf, hd]
      have e3 : ms ++ marksOf n 0 ws = ms ++ [(1, 1)] ++ [(1, 0)] := by simp [marksOf, hd]
      rw [e1, e2, e3]
      clear hw1 k1 bD hc3 hr h1 h2 h hg h' hg' hR hW hN hl hd e1 e2 e3 hv
      go_enter Try.func16, Try.ntmps16
      go_wp2_with fail
      rw [← HW.out]
      go_wp2_with fail
      refine HWI.out.mono ?_
      rintro e w' ⟨rfl, rfl⟩
      go_wp2_with fail
      refine HP.out.mono ?_
      rintro e w2 ⟨rfl, lf⟩
      have LF := Lib.hid lf
      clear lf
      go_wp2_with fail
      refine (HY false w2).out.mono ?_
      rintro e w' ⟨rfl, rfl⟩
      go_wp2
      try rw [Exit.noGoto_ret]
      go_ret2
      have hb := HB.out
      obtain ⟨q1, q2⟩ := told_end (l := [0]) K1.out LF.out hb.2.2 (by omega) (by omega)
      exact ⟨_, _, rfl, q1, q2⟩
  · by_cases hd : ws[0]?.getD 0 = ws[1]?.getD 0
    · have HP := Lib.hid (take_no R W n N ws gv ms w1 h' hg' hl hR hW hd)
      have e1 : toldOf n 1 ws = [0, 0] := by simp [toldOf, hd]
      have e2 : nextOf n 1 vl ws = ws := by simp [nextOf, hd]
      have e3 : ms ++ marksOf n 1 ws = ms ++ [(1, 0)] ++ [(1, 1)] := by simp [marksOf, hd]
      rw [e1, e2, e3]
      clear hw1 k1 bD hc3 hr h1 h2 h hg h' hg' hR hW hN hl hd e1 e2 e3 hv
      go_enter Try.func16, Try.ntmps16
      go_wp2_with fail
      rw [← HW.out]
      go_wp2_with fail
      refine HWI.out.mono ?_
      rintro e w' ⟨rfl, rfl⟩
      go_wp2_with fail
      refine HP.out.mono ?_
      rintro e w2 ⟨rfl, lf⟩
      have LF := Lib.hid lf
      clear lf
      go_wp2_with fail
      refine (HY false w2).out.mono ?_
      rintro e w' ⟨rfl, rfl⟩
      go_wp2
      try rw [Exit.noGoto_ret]
      go_ret2
      have hb := HB.out
      obtain ⟨q1, q2⟩ := told_end (l := [0, 0]) K1.out LF.out hb.2.2 (by omega) (by omega)
      exact ⟨_, _, rfl, q1, q2⟩
    · have HP := Lib.hid (take_yes R W n N ws gv ms w1 h' hg' hl hR hW hd)
      have e1 : toldOf n 1 ws = [ws[slotOf n (ws[0]?.getD 0)]?.getD 0, 1] := by simp [toldOf, hd]
      have e2 : nextOf n 1 vl ws = ws.set 0 ((ws[0]?.getD 0 + 1) % 18446744073709551616) := by simp [nextOf, hd]
      have e3 : ms ++ marksOf n 1 ws = ms ++ [(1, 0)] ++ [(1, 1)] ++ [(1, slotOf n (ws[0]?.getD 0))] ++ [(2, 0)] := by simp [marksOf, hd]
      rw [e1, e2, e3]
      generalize ws[slotOf n (ws[0]?.getD 0)]?.getD 0 = x at *
      clear hw1 k1 bD hc3 hr h1 h2 h hg h' hg' hR hW hN hl hd e1 e2 e3 hv
      go_enter Try.func16, Try.ntmps16
      go_wp2_with fail
      rw [← HW.out]
      go_wp2_with fail
      refine HWI.out.mono ?_
      rintro e w' ⟨rfl, rfl⟩
      go_wp2_with fail
      refine HP.out.mono ?_
      rintro e w2 ⟨rfl, lf⟩
      have LF := Lib.hid lf
      clear lf
      go_wp2_with fail
      refine (HY true w2).out.mono ?_
      rintro e w' ⟨rfl, rfl⟩
      go_wp2
      try rw [Exit.noGoto_ret]
      go_ret2
      have hb := HB.out
      obtain ⟨q1, q2⟩ := told_end (l := [x, 1]) K1.out LF.out hb.2.2 (by omega) (by omega)
      exact ⟨_, _, rfl, q1, q2⟩
  · have HP := Lib.hid (len_ R W n N ws gv ms w1 h' hg' hl hR hW)
    have e1 : toldOf n 2 ws = [min (dif ws) n] := by simp [toldOf]
    have e2 : nextOf n 2 vl ws = ws := by simp [nextOf]
    have e3 : ms ++ marksOf n 2 ws = ms ++ [(1, 0)] ++ [(1, 1)] := by simp [marksOf]
    have hn1 : ((min (dif ws) n : Nat) : Int) ≤ 1024 := by have := h.top; omega
    have hn0 : (0 : Int) ≤ ((min (dif ws) n : Nat) : Int) := by omega
    rw [e1, e2, e3]
    generalize min (dif ws) n = x at *
    clear hw1 k1 bD hc3 hr h1 h2 h hg h' hg' hR hW hN hl e1 e2 e3 hv
    go_enter Try.func16, Try.ntmps16
    go_wp2_with fail
    rw [← HW.out]
    go_wp2_with fail
    refine HWI.out.mono ?_
    rintro e w' ⟨rfl, rfl⟩
    go_wp2_with fail
    refine HP.out.mono ?_
    rintro e w2 ⟨rfl, lf⟩
    have LF := Lib.hid lf
    clear lf
    go_wp2
    try rw [Exit.noGoto_ret]
    go_ret2
    have hb := HB.out
    obtain ⟨q1, q2⟩ := told_end (l := [x]) K1.out LF.out hb.2.2 (by omega) (by omega)
    exact ⟨_, _, rfl, q1, q2⟩
end Go.Proofs.Ytmkgjiejkfbdlaa.rf6
