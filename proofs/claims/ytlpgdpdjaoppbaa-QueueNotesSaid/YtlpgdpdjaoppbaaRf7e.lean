/-
  patchbaylaw07's done. patchbayref07's World and May; the machine alone at queue's calls. A round of QueueNotes: what the loop's head finds; a told list that is written over.
-/
import Derived.Test.YtlpgdpdjaoppbaaRf7c
import Derived.Deep.OwnRows
set_option linter.unusedVariables false
namespace Go.Proofs.Ytlpgdpdjaoppbaa.rf7
open Go.RowKit Go.Proofs.Ytlpgdpdjaoppbaa.oc Go.Proofs.Ytlpgdpdjaoppbaa.mz Go.Proofs.Ytlpgdpdjaoppbaa.at_ Go.Proofs.Ytlpgdpdjaoppbaa.gt Go.Proofs.Ytlpgdpdjaoppbaa.gw Go.Proofs.Ytlpgdpdjaoppbaa.qu
set_option maxRecDepth 100000 in
set_option maxHeartbeats 1000000 in
theorem yes_ (b : Bool) (w : World) : Calls Try.prog 29 #[.bool b] w fun e w' => e = .returned (.int .u64 (((if b then 1 else 0 : Nat)) : Int)) ∧ w = w' := by
  cases b
  all_goals
    go_enter Try.func29, Try.ntmps29
    go_wp2
    try rw [Exit.noGoto_ret]
    go_ret
    exact ⟨rfl, rfl⟩
theorem Que.more {w : World} {base base' : Nat} {e : TypeId} {v : Value} {xs : List Value} (h : Que w base e v xs) (hb : base' ≤ base) : Que w base' e v xs := by
  rcases h with h | ⟨g, off, cap, cs, rfl, h1, h2⟩
  · exact .inl h
  · exact .inr ⟨g, off, cap, cs, rfl, by omega, h2⟩
/-- what done leaves -/
def Done (Q W n N : Nat) (ws' told : List Nat) (gv : Value) (ms' : List (Nat × Nat)) (F : Nat → Prop) (w : World) (e : Ending) (w' : World) : Prop :=
  ∃ A c F', e = .returned (.tuple #[.slice A told.length c, .int .i64 0]) ∧ Que w' w.heap.size 31 (.slice A told.length c) (u64s told) ∧ St w' Q W n N ws' gv ms' F' ∧ Keeps (fun b => b = W ∨ F b) w w'
theorem told_end {w w1 w2 : World} {Q W n N : Nat} {ws ws' : List Nat} {gv : Value} {ms ms' : List (Nat × Nat)} {F : Nat → Prop} {l : List Nat} (k1 : ∀ S, Keeps S w w1) (s : St w1 Q W n N ws gv ms F) (h : qu.Left Q W n N ws' gv ms' F w1 w2) :
    ∃ F', Que (w2.alloc (.cells (u64s l).toArray 31)) w.heap.size 31 (.slice (some ⟨w2.heap.size, 0, none⟩) l.length l.length) (u64s l) ∧ St (w2.alloc (.cells (u64s l).toArray 31)) Q W n N ws' gv ms' F' ∧ Keeps (fun b => b = W ∨ F b) w (w2.alloc (.cells (u64s l).toArray 31)) := by
  have b := Blk.new w2 31 (u64s l).toArray
  have k : Keeps (fun _ => False) w2 (w2.alloc (.cells (u64s l).toArray 31)) := (Keeps.refl _ w2).alloc _
  have z1 := (k1 (fun _ => False)).size
  have z2 := h.keep.size
  refine ⟨_, .inr ⟨w2.heap.size, 0, l.length, u64s l, by rw [u64s_len], by omega, b, by rw [u64s_len]; exact Nat.le_refl _, by rw [u64s_len]; omega, fun k u hk => by rw [Nat.zero_add]; exact hk⟩, (h.st s).keeps k (fun z => z) (fun z => z) (fun _ _ z => z), ((k1 _).trans h.keep).trans (k.mono (fun _ _ z => z.elim))⟩
theorem do_box (kd : Int) (vl : Nat) (w : World) : ∃ w1, w1 = w.alloc (.cells #[.int .i64 kd, .int .u64 (vl : Int)] 33) ∧ (∀ S, Keeps S w w1) ∧ Blk w1 w.heap.size 33 [.int .i64 kd, .int .u64 (vl : Int)] := enter_blk w _ _
section
variable (Q W n N r vl c : Nat) (kd : Int) (ws row : List Nat) (gv : Value) (ms : List (Nat × Nat)) (F : Nat → Prop) (w : World)
set_option maxRecDepth 100000 in
set_option maxHeartbeats 4000000 in
theorem done_ (s : St w Q W n N ws gv ms F) (hl : ms.length < 600000) (h : Lk n ws row c) (hc : c < 800000) (hFb : ∀ b, F b → b < w.heap.size) (hr : kd % 3 = (r : Int)) (h1 : -9223372036854775808 ≤ kd) (h2 : kd ≤ 9223372036854775807) (hv : vl < 18446744073709551616) :
    Calls Try.prog 17 #[.pointer (some ⟨Q, 0, none⟩), gv, .agg #[.int .i64 kd, .int .u64 (vl : Int)]] w (Done Q W n N (nextOf n r vl ws row) (toldOf n r row) gv (ms ++ marksOf n r ws row) F w) := by
  obtain ⟨w1, hw1, k1, bD⟩ := do_box kd vl w
  have d0 : w1.cell? ⟨w.heap.size, 0, none⟩ = some (.int .i64 kd) := by rw [bD.cell]; rfl
  have d1 : w1.cell? ⟨w.heap.size, 1, none⟩ = some (.int .u64 (vl : Int)) := by rw [bD.cell]; rfl
  have HWI := Lib.hid (within_ kd 3 w1 (by omega) (by omega) h1 h2)
  have hc3 : ((3 : Nat) : Int) = 3 := rfl
  rw [hc3, hr] at HWI
  have hr3 : r = 0 ∨ r = 1 ∨ r = 2 := by omega
  have s1 := s.keeps (k1 (fun _ => False)) (fun z => z) (fun z => z) (fun _ _ z => z)
  have z1 := (k1 (fun _ => False)).size
  have hFb1 : ∀ b, F b → b < w1.heap.size := fun b hb => by have := hFb b hb; omega
  have HW := Lib.hid hw1
  have K1 : Hid (∀ S, Keeps S w w1) := Lib.hid k1
  have S1 := Lib.hid s1
  have HY : ∀ b w, Hid (Calls Try.prog 29 #[.bool b] w fun e w' => e = .returned (.int .u64 (((if b then 1 else 0 : Nat)) : Int)) ∧ w = w') := fun b w => Lib.hid (yes_ b w)
  rcases hr3 with rfl | rfl | rfl
  · by_cases hd : row.length < n
    · have HP := Lib.hid (put_yes Q W n N ws row c gv ms F w1 vl s1 (by omega) h hc hd hv)
      have e1 : toldOf n 0 row = [1] := by simp [toldOf, hd]
      have e2 : nextOf n 0 vl ws row = putW n vl ws := by simp [nextOf, hd]
      have e3 : ms ++ marksOf n 0 ws row = ms ++ [(1, 0)] ++ [(1, seqOf n (ws[0]?.getD 0))] ++ [(5, 0)] ++ [(2, seqOf n (ws[0]?.getD 0) + 1)] ++ [(2, seqOf n (ws[0]?.getD 0))] := by simp [marksOf, putM, hd]
      rw [e1, e2, e3]
      clear hw1 k1 bD hc3 hr h1 h2 h s s1 hl hc hd e1 e2 e3 hv hFb hFb1 z1
      go_enter Try.func17, Try.ntmps17
      go_wp2_with fail
      rw [← HW.out]
      go_wp2_with fail
      refine HWI.out.mono ?_
      rintro e w' ⟨rfl, rfl⟩
      go_wp2_with fail
      refine HP.out.mono ?_
      rintro e w2 ⟨rfl, lf⟩
      have LF := Lib.hid lf
      clear lf
      go_wp2_with fail
      refine (HY true w2).out.mono ?_
      rintro e w' ⟨rfl, rfl⟩
      go_wp2
      try rw [Exit.noGoto_ret]
      go_ret2
      obtain ⟨F', q1, q2, q3⟩ := told_end (l := [1]) K1.out S1.out LF.out
      exact ⟨_, _, F', rfl, q1, q2, q3⟩
    · have HP := Lib.hid (put_no Q W n N ws row c gv ms F w1 (vl : Int) s1 (by omega) h hc hd)
      have e1 : toldOf n 0 row = [0] := by simp [toldOf, hd]
      have e2 : nextOf n 0 vl ws row = ws := by simp [nextOf, hd]
      have e3 : ms ++ marksOf n 0 ws row = ms ++ [(1, 0)] ++ [(1, seqOf n (ws[0]?.getD 0))] := by simp [marksOf, putN, hd]
      rw [e1, e2, e3]
      clear hw1 k1 bD hc3 hr h1 h2 h s s1 hl hc hd e1 e2 e3 hv hFb hFb1 z1
      go_enter Try.func17, Try.ntmps17
      go_wp2_with fail
      rw [← HW.out]
      go_wp2_with fail
      refine HWI.out.mono ?_
      rintro e w' ⟨rfl, rfl⟩
      go_wp2_with fail
      refine HP.out.mono ?_
      rintro e w2 ⟨rfl, lf⟩
      have LF := Lib.hid lf
      clear lf
      go_wp2_with fail
      refine (HY false w2).out.mono ?_
      rintro e w' ⟨rfl, rfl⟩
      go_wp2
      try rw [Exit.noGoto_ret]
      go_ret2
      obtain ⟨F', q1, q2, q3⟩ := told_end (l := [0]) K1.out S1.out LF.out
      exact ⟨_, _, F', rfl, q1, q2, q3⟩
  · rcases row with _ | ⟨x, rest⟩
    · have HP := Lib.hid (take_no Q W n N ws c gv ms F w1 s1 (by omega) h hc)
      have e1 : toldOf n 1 [] = [0, 0] := by simp [toldOf]
      have e2 : nextOf n 1 vl ws [] = ws := by simp [nextOf]
      have e3 : ms ++ marksOf n 1 ws [] = ms ++ [(1, 1)] ++ [(1, seqOf n (ws[1]?.getD 0))] := by simp [marksOf, takeN]
      rw [e1, e2, e3]
      clear hw1 k1 bD hc3 hr h1 h2 h s s1 hl hc e1 e2 e3 hv hFb hFb1 z1
      go_enter Try.func17, Try.ntmps17
      go_wp2_with fail
      rw [← HW.out]
      go_wp2_with fail
      refine HWI.out.mono ?_
      rintro e w' ⟨rfl, rfl⟩
      go_wp2_with fail
      refine HP.out.mono ?_
      rintro e w2 ⟨rfl, lf⟩
      have LF := Lib.hid lf
      clear lf
      go_wp2_with fail
      refine (HY false w2).out.mono ?_
      rintro e w' ⟨rfl, rfl⟩
      go_wp2
      try rw [Exit.noGoto_ret]
      go_ret2
      obtain ⟨F', q1, q2, q3⟩ := told_end (l := [0, 0]) K1.out S1.out LF.out
      exact ⟨_, _, F', rfl, q1, q2, q3⟩
    · have HP := Lib.hid (take_yes Q W n N ws rest c gv ms F w1 x s1 (by omega) h hc)
      have e1 : toldOf n 1 (x :: rest) = [x, 1] := by simp [toldOf]
      have e2 : nextOf n 1 vl ws (x :: rest) = takeW n ws := by simp [nextOf]
      have e3 : ms ++ marksOf n 1 ws (x :: rest) = ms ++ [(1, 1)] ++ [(1, seqOf n (ws[1]?.getD 0))] ++ [(5, 1)] ++ [(1, seqOf n (ws[1]?.getD 0) + 1)] ++ [(2, seqOf n (ws[1]?.getD 0))] := by simp [marksOf, takeM]
      rw [e1, e2, e3]
      clear hw1 k1 bD hc3 hr h1 h2 h s s1 hl hc e1 e2 e3 hv hFb hFb1 z1
      go_enter Try.func17, Try.ntmps17
      go_wp2_with fail
      rw [← HW.out]
      go_wp2_with fail
      refine HWI.out.mono ?_
      rintro e w' ⟨rfl, rfl⟩
      go_wp2_with fail
      refine HP.out.mono ?_
      rintro e w2 ⟨rfl, lf⟩
      have LF := Lib.hid lf
      clear lf
      go_wp2_with fail
      refine (HY true w2).out.mono ?_
      rintro e w' ⟨rfl, rfl⟩
      go_wp2
      try rw [Exit.noGoto_ret]
      go_ret2
      obtain ⟨F', q1, q2, q3⟩ := told_end (l := [x, 1]) K1.out S1.out LF.out
      exact ⟨_, _, F', rfl, q1, q2, q3⟩
  · have HP := Lib.hid (drain_ Q W n N ws row c gv ms F w1 s1 (by omega) h hc hFb1)
    have e1 : toldOf n 2 row = row := by simp [toldOf]
    have e2 : nextOf n 2 vl ws row = drainW n row ws := by simp [nextOf]
    have e3 : ms ++ marksOf n 2 ws row = ms ++ drainM n row n ws := by simp [marksOf]
    rw [e1, e2, e3]
    clear hw1 k1 bD hc3 hr h1 h2 h s s1 hl hc e1 e2 e3 hv hFb hFb1 z1
    go_enter Try.func17, Try.ntmps17
    go_wp2_with fail
    rw [← HW.out]
    go_wp2_with fail
    refine HWI.out.mono ?_
    rintro e w' ⟨rfl, rfl⟩
    go_wp2_with fail
    refine HP.out.mono ?_
    rintro e w2 ⟨v, F', rfl, hq, s2, k2⟩
    obtain ⟨A, cp, rfl⟩ := hq.form
    rw [u64s_len] at hq ⊢
    have HQ := Lib.hid hq
    have S2 := Lib.hid s2
    have K2 := Lib.hid k2
    clear hq s2 k2
    go_wp2
    try rw [Exit.noGoto_ret]
    go_ret2
    exact ⟨A, cp, F', rfl, Que.more HQ.out (K1.out (fun _ => False)).size, S2.out, (K1.out _).trans K2.out⟩
end
end Go.Proofs.Ytlpgdpdjaoppbaa.rf7
set_option linter.unusedVariables false
namespace Go.Proofs.Ytlpgdpdjaoppbaa.rf7
open Go.RowKit Go.Proofs.Ytlpgdpdjaoppbaa.oc Go.Proofs.Ytlpgdpdjaoppbaa.mz Go.Proofs.Ytlpgdpdjaoppbaa.at_ Go.Proofs.Ytlpgdpdjaoppbaa.gt Go.Proofs.Ytlpgdpdjaoppbaa.gw Go.Proofs.Ytlpgdpdjaoppbaa.qu
theorem slots_snoc : ∀ (k i : Nat), slots i (k + 1) = slots i k ++ [i + k, 0]
  | 0, i => rfl
  | k + 1, i => by
    show i :: 0 :: slots (i + 1) (k + 1) = (i :: 0 :: slots (i + 1) k) ++ [i + (k + 1), 0]
    rw [slots_snoc k (i + 1)]
    simp only [List.cons_append, List.cons.injEq, true_and]
    rw [show i + 1 + k = i + (k + 1) from by omega]
set_option maxRecDepth 100000 in
set_option maxHeartbeats 2000000 in
theorem words_ (n : Nat) (w : World) (hn : n ≤ 1024) : Calls Try.prog 28 #[.int .i64 (n : Int)] w fun e w' => ∃ g c, e = .returned (.slice (some ⟨g, 0, none⟩) (2 * n + 2) c) ∧ Nm w w' (.slice (some ⟨g, 0, none⟩) (2 * n + 2) c) (startW n) := by
  have M0 := Lib.hid ((Nm.nil_ w).alloc (.cells #[.int .u64 0, .int .u64 0] 31))
  have B0 := Lib.hid (Blk.new w 31 (u64s [0, 0]).toArray)
  have hn' : (n : Int) ≤ 1024 := by omega
  have HN := Lib.hid hn
  clear hn
  go_enter Try.func28, Try.ntmps28
  go_wp2_with (at_builtin; refine Nm.wpList_append rfl _ _ rfl M0.out rfl w.heap.size 2 2 [0, 0] rfl rfl B0.out (by simp) ?_; intro v1 w1 m1; have M1 := Lib.hid m1; clear m1)
  go_loopw [3, 4] (fun v i wr => ∃ k : Nat, k ≤ n ∧ i = .int .i64 (k : Int) ∧ Nm w wr v (0 :: 0 :: slots 0 k)) (fun _ i _ => 2000 - (intOf i).toNat)
  case atStart => exact ⟨0, Nat.zero_le _, rfl, M1.out⟩
  case round =>
    clear M1 M0 B0
    obtain ⟨k, hk, rfl, hm⟩ := hrel
    have hlen : (0 :: 0 :: slots 0 k).length = 2 * k + 2 := by simp [slots_len]
    by_cases hlt : k < n
    · have hlt' : (k : Int) < (n : Int) := by omega
      obtain ⟨g, c, hu⟩ := hm.form hlen (by omega)
      subst hu
      have M := Lib.hid (hm.alloc (.cells #[.int .u64 (k : Int), .int .u64 0] 31))
      have B := Lib.hid (Blk.new wr 31 (u64s [k, 0]).toArray)
      have HL := Lib.hid (show (0 :: 0 :: slots 0 k).length + 2 ≤ 100000 by rw [hlen]; have := HN.out; omega)
      have HE := Lib.hid (show (0 :: 0 :: slots 0 k) ++ [k, 0] = 0 :: 0 :: slots 0 (k + 1) by rw [slots_snoc]; simp)
      clear hm hlen
      go_wp2_with (at_builtin; refine Nm.wpList_append rfl _ _ rfl M.out rfl wr.heap.size 2 2 [k, 0] rfl rfl B.out HL.out ?_; intro v2 w2 m2; have M2 := Lib.hid m2; clear m2)
      go_roundw
      case rel => exact ⟨k + 1, by omega, by go_num, by have := M2.out; rwa [HE.out] at this⟩
      case measure => simp [intOf]; omega
    · have hlt' : ¬ (k : Int) < (n : Int) := by omega
      obtain rfl : k = n := by omega
      obtain ⟨g, c, hu⟩ := hm.form hlen (by omega)
      subst hu
      have M := Lib.hid hm
      clear hm hlen
      go_wp2
      try rw [Exit.noGoto_ret]
      go_ret
      exact ⟨g, c, rfl, M.out⟩
set_option maxRecDepth 100000 in
set_option maxHeartbeats 2000000 in
theorem world_ (n : Nat) (w : World) (hn : n ≤ 1024) : Calls Try.prog 15 #[.int .i64 (n : Int)] w fun e w' => ∃ wv lv, e = .returned (.agg #[wv, lv]) ∧ (∀ w'', Keeps (fun b => b < w.heap.size ∨ w'.heap.size ≤ b) w' w'' → IsWords w'' w''.heap.size wv [startW n] ∧ IsLists w'' w''.heap.size lv 1) ∧ (∀ S, Keeps S w w') := by
  obtain ⟨w1, hw1, k1, bC⟩ := enter_blk w #[.slice none 0 0, .slice none 0 0] 47
  have HWD := Lib.hid (words_ n w1 hn)
  have HW := Lib.hid hw1
  have K1 : Hid (∀ S, Keeps S w w1) := Lib.hid k1
  have BC := Lib.hid bC
  have HZ := Lib.hid (show w1.heap.size = w.heap.size + 1 by rw [hw1]; simp)
  clear hw1 k1 bC hn
  go_enter Try.func15, Try.ntmps15
  go_wp2_with fail
  rw [← HW.out]
  go_wp2_with fail
  refine HWD.out.mono ?_
  rintro e w2 ⟨g, c, rfl, m2⟩
  have bC2 := Blk.keeps BC.out (m2.keep (fun _ => False)) (fun z => z)
  have b4 := (bC2.alloc (.cells #[.slice (some ⟨g, 0, none⟩) (2 * n + 2) c] 29)).alloc (.cells #[.slice none 0 0] 125)
  have bw := (Blk.new w2 29 #[.slice (some ⟨g, 0, none⟩) (2 * n + 2) c]).alloc (.cells #[.slice none 0 0] 125)
  have bl := Blk.new (w2.alloc (.cells #[.slice (some ⟨g, 0, none⟩) (2 * n + 2) c] 29)) 125 #[.slice none 0 0]
  rw [World.size_alloc] at bl
  have m4 := (m2.alloc (.cells #[.slice (some ⟨g, 0, none⟩) (2 * n + 2) c] 29)).alloc (.cells #[.slice none 0 0] 125)
  have f0 := b4.frozen 0
  have f1 := b4.frozen 1
  have x0 : ((w2.alloc (.cells #[.slice (some ⟨g, 0, none⟩) (2 * n + 2) c] 29)).alloc (.cells #[.slice none 0 0] 125)).cell? ⟨w.heap.size, 0, none⟩ = some (.slice none 0 0) := by rw [b4.cell]; rfl
  have x1 : ((w2.alloc (.cells #[.slice (some ⟨g, 0, none⟩) (2 * n + 2) c] 29)).alloc (.cells #[.slice none 0 0] 125)).cell? ⟨w.heap.size, 1, none⟩ = some (.slice none 0 0) := by rw [b4.cell]; rfl
  have HX := Lib.hid (show w.heap.size < w2.heap.size ∧ w.heap.size < g ∧ g < w2.heap.size from ⟨bC2.lt, by have := m2.lt.1; have := HZ.out; omega, m2.lt.2⟩)
  have B4 := Lib.hid b4
  have BW := Lib.hid bw
  have BL := Lib.hid bl
  have M4 := Lib.hid m4
  clear b4 bw bl m4 m2 bC2
  go_wp2
  obtain ⟨r0, r1, hk⟩ := mz.stored (u := .slice (some ⟨w2.heap.size, 0, none⟩) 1 1) (v := .slice (some ⟨w2.heap.size + 1, 0, none⟩) 1 1) B4.out
  refine bodyPost_ret (v := .agg #[.slice (some ⟨w2.heap.size, 0, none⟩) 1 1, .slice (some ⟨w2.heap.size + 1, 0, none⟩) 1 1]) (by simp [results, Try.results15, go_sem, r0, r1]) rfl ?_
  have hx := HX.out
  have BWf := Blk.keeps BW.out hk (by omega)
  have BLf := Blk.keeps BL.out hk (by omega)
  have kw : ∀ S, Keeps S w ((w2.alloc (.cells #[.slice (some ⟨g, 0, none⟩) (2 * n + 2) c] 29)).alloc (.cells #[.slice none 0 0] 125)) := fun S => (K1.out S).trans (M4.out.keep S)
  have rd4 := M4.out.rd
  generalize ((w2.alloc (.cells #[.slice (some ⟨g, 0, none⟩) (2 * n + 2) c] 29)).alloc (.cells #[.slice none 0 0] 125)) = w4 at *
  generalize ((w4.setCell ⟨w.heap.size, 0, none⟩ (.slice (some ⟨w2.heap.size, 0, none⟩) 1 1)).setCell ⟨w.heap.size, 1, none⟩ (.slice (some ⟨w2.heap.size + 1, 0, none⟩) 1 1)) = wf at *
  refine ⟨_, _, rfl, fun w'' kk => ⟨⟨_, _, rfl, fun i l hi => ?_⟩, ⟨_, _, rfl, fun i hi => ?_⟩⟩, fun S => ?_⟩
  · have bWf := BWf
    have bwlt := BWf.lt
    have b2 := Blk.keeps BWf kk (by omega)
    obtain ⟨rfl, rfl⟩ : i = 0 ∧ l = startW n := by
      rcases i with _ | i
      · simp at hi; exact ⟨rfl, hi.symm⟩
      · simp at hi
    refine ⟨_, 0, some ⟨g, 0, none⟩, c, rfl, b2.lt, by rw [b2.cell, show (startW n).length = 2 * n + 2 from by simp [startW, slots_len]]; rfl, fun k u hk2 => ?_⟩
    obtain ⟨b', o', e1, hb', hc'⟩ := rd4 k u hk2
    injection e1 with e1
    injection e1 with e1 e2
    subst e1
    subst e2
    have c1 := Keeps.cell hk hc' (by omega)
    have c2 := Keeps.cell kk c1 (by omega)
    exact ⟨g, 0, rfl, Keeps.lt_cell c2, c2⟩
  · have bllt := BLf.lt
    have b3 := Blk.keeps BLf kk (by omega)
    obtain rfl : i = 0 := by omega
    exact ⟨_, 0, rfl, b3.lt, by rw [b3.cell]; rfl⟩
  · have ka := kw S
    exact ⟨Nat.le_trans ka.size hk.size, fun b hb hs => by rw [hk.block b (Nat.lt_of_lt_of_le hb ka.size) (by omega), ka.block b hb hs], ka.same.trans hk.same⟩
theorem pow_next : ∀ x ∈ pows, ∀ n ∈ pows, x < n → 2 * x ∈ pows ∧ 2 * x ≤ n := by decide
theorem pow_on : ∀ x ∈ pows, 2 * x ∈ pows ∨ 2 * x = 2048 := by decide
set_option maxRecDepth 100000 in
set_option maxHeartbeats 1000000 in
theorem may_yes (n : Nat) (w : World) (hn : n ∈ pows) : Calls Try.prog 13 #[.int .i64 (n : Int)] w fun e w' => e = .returned (.bool true) ∧ w = w' := by
  have HN := Lib.hid hn
  have hn1 := pows_le hn
  clear hn
  go_enter Try.func13, Try.ntmps13
  go_wp2
  go_loopw [3] (fun i wr => ∃ x : Nat, (x ∈ pows ∧ x ≤ n) ∧ i = .int .i64 (x : Int) ∧ w = wr) (fun i _ => 2048 - (intOf i).toNat)
  case atStart => exact ⟨2, ⟨by decide, by have := (pows_le HN.out).1; omega⟩, rfl, rfl⟩
  case round =>
    obtain ⟨x, ⟨hx, hxn⟩, rfl, rfl⟩ := hrel
    have hx1 := pows_le hx
    have h1 : (x : Int) ≤ 1024 := by omega
    have h0 : (0 : Int) ≤ (x : Int) := by omega
    by_cases he : x = n
    · subst he
      have HX := Lib.hid hx
      clear hx
      go_wp2
      try rw [Exit.noGoto_ret]
      go_ret
      exact ⟨rfl, rfl⟩
    · have h2 := pow_next x hx n HN.out (by omega)
      have hne : ((x : Int) == (n : Int)) = false := by simp; omega
      have H2 := Lib.hid h2
      clear hx h2
      go_wp2
      go_roundw
      case rel => exact ⟨2 * x, H2.out, by go_num, by simp⟩
      case measure => simp [intOf]; omega
set_option maxRecDepth 100000 in
set_option maxHeartbeats 1000000 in
theorem may_no (s : Int) (w : World) (hs : ∀ n ∈ pows, s ≠ (n : Int)) : Calls Try.prog 13 #[.int .i64 s] w fun e w' => e = .returned (.bool false) ∧ w = w' := by
  have HS : Hid (∀ n ∈ pows, s ≠ (n : Int)) := Lib.hid hs
  clear hs
  go_enter Try.func13, Try.ntmps13
  go_wp2
  go_loopw [3] (fun i wr => ∃ x : Nat, (x ∈ pows ∨ x = 2048) ∧ i = .int .i64 (x : Int) ∧ w = wr) (fun i _ => 2049 - (intOf i).toNat)
  case atStart => exact ⟨2, .inl (by decide), rfl, rfl⟩
  case round =>
    obtain ⟨x, hx, rfl, rfl⟩ := hrel
    rcases hx with hx | rfl
    · have hx1 := pows_le hx
      have h1 : (x : Int) ≤ 1024 := by omega
      have h0 : (0 : Int) ≤ (x : Int) := by omega
      have hne : ((x : Int) == s) = false := by have := HS.out x hx; simp; omega
      have H2 := Lib.hid (pow_on x hx)
      clear hx
      go_wp2
      go_roundw
      case rel => exact ⟨2 * x, H2.out, by go_num, by simp⟩
      case measure => simp [intOf]; omega
    · go_wp2
      try rw [Exit.noGoto_ret]
      go_ret
      exact ⟨rfl, rfl⟩
theorem alone_ (n r v m c : Nat) (ws row : List Nat) (wv lv cv dv : Value) (w : World) (hr : r < 3) (hlk : Lk n ws row c) (hc8 : c < 800000) (hrl : row.length < 800) (hsm : ∀ x ∈ ws, x < 18446744073709551616) (hv : v < 18446744073709551616) (hw : IsWords w w.heap.size wv [ws]) (hl : IsLists w w.heap.size lv m) (hm : m < 1000000) (hc : IsCode w w.heap.size cv (codeOf n r v)) (hd : IsData w w.heap.size dv []) :
    Calls Try.prog 18 #[.agg #[wv, lv], .agg #[cv, dv]] w fun e w' => ∃ tA tc A cc A2 c2 m' mA mc, e = .returned (.tuple #[.slice tA (toldOf n r row).length tc, .agg #[.slice A 1 cc, .slice A2 m' c2], .slice mA (marksOf n r ws row).length mc]) ∧ m' < 1000000 ∧
      (∀ w'', Keeps (fun b => b < w.heap.size) w' w'' → IsData w'' w''.heap.size (.slice tA (toldOf n r row).length tc) (toldOf n r row) ∧ IsWords w'' w''.heap.size (.slice A 1 cc) [nextOf n r v ws row] ∧ IsLists w'' w''.heap.size (.slice A2 m' c2) m' ∧ IsMarks w'' w''.heap.size (.slice mA (marksOf n r ws row).length mc) (marksOf n r ws row)) ∧ ∀ S, Keeps S w w' := by
  have hlen := hlk.len
  have hp := pows_le hlk.wid
  have key : ∃ f pl, plays 40 f [ws] [] [[(codeOf n r v, [])]] = some pl ∧ pl.ws = [nextOf n r v ws row] ∧ pl.trace.map (·.2) = marksOf n r ws row ∧ pl.ths.map (·.ans) = [[(true, toldOf n r row)]] := by
    rcases (show r = 0 ∨ r = 1 ∨ r = 2 by omega) with rfl | rfl | rfl
    · by_cases hd : row.length < n
      · obtain ⟨pl, q1, q2, q3, q4⟩ := play_put_yes hlk hc8 hd hv
        exact ⟨_, pl, q1, by rw [q2]; simp [nextOf, hd], by rw [q3]; simp [marksOf, putM, hd], by rw [q4]; simp [toldOf, hd]⟩
      · obtain ⟨pl, q1, q2, q3, q4⟩ := play_put_no hlk hc8 hd hv
        exact ⟨_, pl, q1, by rw [q2]; simp [nextOf, hd], by rw [q3]; simp [marksOf, putN, hd], by rw [q4]; simp [toldOf, hd]⟩
    · rcases row with _ | ⟨x, rest⟩
      · obtain ⟨pl, q1, q2, q3, q4⟩ := play_take_no hlk hc8
        exact ⟨_, pl, q1, by rw [q2]; simp [nextOf], by rw [q3]; simp [marksOf], by rw [q4]; simp [toldOf]⟩
      · obtain ⟨pl, q1, q2, q3, q4⟩ := play_take_yes hlk hc8
        exact ⟨_, pl, q1, by rw [q2]; simp [nextOf], by rw [q3]; simp [marksOf], by rw [q4]; simp [toldOf]⟩
    · obtain ⟨pl, q1, q2, q3, q4⟩ := play_drain hlk hc8 hrl
      exact ⟨_, pl, q1, by rw [q2]; simp [nextOf], by rw [q3]; simp [marksOf], by rw [q4]; simp [toldOf]⟩
  obtain ⟨f, pl, h1, h2, h3, h4⟩ := key
  have hlen2 : pl.trace.length = (marksOf n r ws row).length := by rw [← h3]; simp
  have hlt := (marks_few n r ws row).1
  have hcl : (codeOf n r v).length < 1000000 := by unfold codeOf; (repeat' split) <;> simp [putCode, takeCode, drainCode]
  refine (alone_any 40 f w.heap.size m wv lv cv dv [ws] _ [] w hw hl hc hd (Nat.le_refl _) (by simp) hm (by simp; omega) (fun l hl x hx => by simp at hl; subst hl; exact hsm x hx) hcl pl h1 true (toldOf n r row) h4 (by omega)).mono ?_
  rintro e w' ⟨tA, tc, A, cc, A2, c2, m', mA, mc, he, hm', hr, hk⟩
  rw [h2, hlen2] at he hr
  refine ⟨tA, tc, A, cc, A2, c2, m', mA, mc, he, hm', fun w'' kk => ?_, hk⟩
  have := hr w'' kk
  rw [h2, h3] at this
  exact this
end Go.Proofs.Ytlpgdpdjaoppbaa.rf7
set_option linter.unusedVariables false
namespace Go.Proofs.Ytlpgdpdjaoppbaa.rf7
open Go.RowKit Go.Proofs.Ytlpgdpdjaoppbaa.oc Go.Proofs.Ytlpgdpdjaoppbaa.mz Go.Proofs.Ytlpgdpdjaoppbaa.at_ Go.Proofs.Ytlpgdpdjaoppbaa.gt Go.Proofs.Ytlpgdpdjaoppbaa.gw Go.Proofs.Ytlpgdpdjaoppbaa.qu
theorem Que.rd {w : World} {base n c : Nat} {e : TypeId} {A : Option Addr} {xs : List Value} (h : Que w base e (.slice A n c) xs) : Rd w w.heap.size A xs := by
  rcases h with ⟨h, rfl⟩ | ⟨g, off, cap, cs, he, h1, h2, h3, h4, h5⟩
  · intro k v hk; simp at hk
  · injection he with ha hn hc
    subst ha
    intro k v hk
    exact ⟨g, off, rfl, h2.lt, by rw [h2.cell]; exact h5 k v hk⟩
/-- an element, to be written over -/
theorem Que.spot {w : World} {base n c k : Nat} {e : TypeId} {A : Option Addr} {xs : List Value} (h : Que w base e (.slice A n c) xs) (hk : k < xs.length) :
    ∃ g o u, A = some ⟨g, o, none⟩ ∧ base ≤ g ∧ g < w.heap.size ∧ w.cell? ⟨g, o + k, none⟩ = some u ∧ w.frozen? ⟨g, o + k, none⟩ = false ∧ n = xs.length ∧ n ≤ c ∧ ∀ u, Que (w.setCell ⟨g, o + k, none⟩ u) base e (.slice A n c) (xs.set k u) := by
  rcases h with ⟨_, rfl⟩ | ⟨g, off, cap, cs, he, h1, h2, h3, h4, h5⟩
  · simp at hk
  · injection he with ha hn hc
    subst ha; subst hn; subst hc
    refine ⟨g, off, xs[k], rfl, h1, h2.lt, by rw [h2.cell]; exact h5 k _ (List.getElem?_eq_getElem hk), h2.frozen _, rfl, h3, fun u => .inr ⟨g, off, c, cs.set (off + k) u, by simp, h1, h2.put _ u, by simpa using h3, by simpa using h4, fun j y hj => ?_⟩⟩
    rcases Nat.decEq j k with q | q
    · rw [List.getElem?_set_ne (fun e => q e.symm)] at hj
      rw [List.getElem?_set_ne (by omega)]
      exact h5 j y hj
    · subst q
      rw [List.getElem?_set_self hk] at hj
      rw [List.getElem?_set_self (by omega)]
      exact hj
structure Rnd (w wr : World) (R W n X : Nat) (ws row : List Nat) (c : Nat) (wv lv : Value) (m : Nat) : Prop where
  ring : Qu wr R W n ws
  lk : Lk n ws row c
  few : row.length ≤ c
  world : Blk wr X 47 [wv, lv]
  read : ∀ w'', Keeps (fun b => b = W ∨ b = X) wr w'' → IsWords w'' w''.heap.size wv [ws] ∧ IsLists w'' w''.heap.size lv m
  small : m < 1000000
  ne : R ≠ X ∧ W ≠ X
  new : w.heap.size ≤ R ∧ w.heap.size ≤ W ∧ w.heap.size ≤ X
  keep : Keeps (fun b => w.heap.size ≤ b) w wr
theorem begins {w w1 ww : World} {R W n : Nat} {ws : List Nat} {wv lv : Value} (h : Qu w1 R W n ws) (hlk : Lk n ws [] 0) (hR : w.heap.size ≤ R) (hW : w.heap.size ≤ W) (k1 : Keeps (fun b => w.heap.size ≤ b) w w1)
    (hr : ∀ w'', Keeps (fun b => b < w1.heap.size ∨ ww.heap.size ≤ b) ww w'' → IsWords w'' w''.heap.size wv [ws] ∧ IsLists w'' w''.heap.size lv 1) (kw : ∀ S, Keeps S w1 ww) :
    Rnd w (ww.alloc (.cells #[wv, lv] 47)) R W n ww.heap.size ws [] 0 wv lv 1 := by
  have z1 := h.ltQ
  have z2 := h.ltW
  have z3 := (kw (fun _ => False)).size
  have z4 := k1.size
  have ka : ∀ S, Keeps S ww (ww.alloc (.cells #[wv, lv] 47)) := fun S => (Keeps.refl S ww).alloc _
  exact ⟨h.keeps ((kw (fun _ => False)).trans (ka _)) (fun z => z) (fun z => z), hlk, by simp, Blk.new ww _ _, fun w'' kk => hr w'' ((ka _).trans (kk.mono (fun b _ z => by omega))), by omega, ⟨by omega, by omega⟩, ⟨hR, hW, by omega⟩, (k1.trans (kw _)).trans (ka _)⟩
theorem round_end {w wr wa wz wx : World} {R W n X m m' c r v B0 : Nat} {ws row ws' : List Nat} {wv lv s1 s2 : Value} (HR : Rnd w wr R W n X ws row c wv lv m) (hr : Qu wa R W n ws') (hr3 : r < 3) (hws : ws' = nextOf n r v ws row) (kra : Keeps (fun b => b = W) wr wa) (kaz : ∀ S, Keeps S wa wz) (hB : wr.heap.size ≤ B0) (kzx : Keeps (fun b => B0 ≤ b ∧ b < wa.heap.size) wz wx) (hb : Blk wx X 47 [wv, lv])
    (hz : ∀ w'', Keeps (fun b => b < wa.heap.size) wz w'' → IsWords w'' w''.heap.size s1 [ws'] ∧ IsLists w'' w''.heap.size s2 m') (hm : m' < 1000000) :
    Rnd w ((wx.setCell ⟨X, 0, none⟩ s1).setCell ⟨X, 1, none⟩ s2) R W n X ws' (rowOf n r v row) (c + 1) s1 s2 m' := by
  have hn := HR.new
  have hX := HR.world.lt
  have hW := HR.ring.ltW
  have hR := HR.ring.ltQ
  have hza := kra.size
  have hzw := HR.keep.size
  have kf : Keeps (· = X) wx ((wx.setCell ⟨X, 0, none⟩ s1).setCell ⟨X, 1, none⟩ s2) := (Keeps.here s1).trans (Keeps.here s2)
  have bw : Blk ((wx.setCell ⟨X, 0, none⟩ s1).setCell ⟨X, 1, none⟩ s2) X 47 [s1, s2] := by simpa using (hb.put 0 s1).put 1 s2
  generalize (wx.setCell ⟨X, 0, none⟩ s1).setCell ⟨X, 1, none⟩ s2 = wf at *
  have kaf : Keeps (fun b => b = X ∨ (B0 ≤ b ∧ b < wa.heap.size)) wa wf := ((kaz _).trans (kzx.mono (fun b _ z => .inr z))).trans (kf.mono (fun b _ z => .inl z))
  have hrl := row_len n r v row
  have hfw := HR.few
  have hne := HR.ne
  refine ⟨hr.keeps kaf (by omega) (by omega), by rw [hws]; exact next_lk HR.lk hr3, by omega, bw, fun w'' kk => hz w'' (((kzx.mono (fun b _ z => z.2)).trans (kf.mono (fun b _ z => by omega))).trans (kk.mono (fun b _ z => by omega))), hm, HR.ne, hn, (HR.keep.trans (kra.mono (fun b _ z => by omega))).trans (kaf.mono (fun b _ z => by omega))⟩
end Go.Proofs.Ytlpgdpdjaoppbaa.rf7
