/-
  patchbaylaw07's call; what a call tells, the words behind it, its operations.
-/
import Derived.Test.YtlpgdpdjaoppbaaRf7g
import Derived.Test.YtlpgdpdjaoppbaaRf7p
import Derived.Test.YtlpgdpdjaoppbaaQuWk
set_option linter.unusedVariables false
namespace Go.Proofs.Ytlpgdpdjaoppbaa.rf7
open Go.RowKit Go.Proofs.Ytlpgdpdjaoppbaa.oc Go.Proofs.Ytlpgdpdjaoppbaa.mz Go.Proofs.Ytlpgdpdjaoppbaa.at_ Go.Proofs.Ytlpgdpdjaoppbaa.gt Go.Proofs.Ytlpgdpdjaoppbaa.gw Go.Proofs.Ytlpgdpdjaoppbaa.qu
/-- the code of a call of kind r -/
def codeOf (n r v : Nat) : List Ins := if r = 0 then putCode n v else if r = 1 then takeCode n else drainCode n
/-- what it tells, the words and the row behind it, its operations -/
def toldOf (n r : Nat) (row : List Nat) : List Nat := if r = 0 then (if row.length < n then [1] else [0]) else if r = 1 then (match row with | [] => [0, 0] | x :: _ => [x, 1]) else row
def nextOf (n r v : Nat) (ws row : List Nat) : List Nat := if r = 0 then (if row.length < n then putW n v ws else ws) else if r = 1 then (match row with | [] => ws | _ :: _ => takeW n ws) else drainW n row ws
def rowOf (n r v : Nat) (row : List Nat) : List Nat := if r = 0 then (if row.length < n then row ++ [v] else row) else if r = 1 then row.tail else []
def putM (n : Nat) (ws : List Nat) : List (Nat × Nat) := [(1, 0), (1, seqOf n (ws[0]?.getD 0)), (5, 0), (2, seqOf n (ws[0]?.getD 0) + 1), (2, seqOf n (ws[0]?.getD 0))]
def putN (n : Nat) (ws : List Nat) : List (Nat × Nat) := [(1, 0), (1, seqOf n (ws[0]?.getD 0))]
def marksOf (n r : Nat) (ws row : List Nat) : List (Nat × Nat) := if r = 0 then (if row.length < n then putM n ws else putN n ws) else if r = 1 then (match row with | [] => takeN n ws | _ :: _ => takeM n ws) else drainM n row n ws
theorem next_lk {n r v c : Nat} {ws row : List Nat} (h : Lk n ws row c) (hr : r < 3) : Lk n (nextOf n r v ws row) (rowOf n r v row) (c + 1) := by
  unfold nextOf rowOf
  rcases (show r = 0 ∨ r = 1 ∨ r = 2 by omega) with rfl | rfl | rfl
  · by_cases hl : row.length < n
    · simpa [hl] using h.put (v := v) hl
    · simpa [hl] using h.more (Nat.le_succ c)
  · rcases row with _ | ⟨x, t⟩
    · simpa using h.more (Nat.le_succ c)
    · simpa using h.take.more (Nat.le_succ c)
  · simpa using (drain_lk row ws h).more (Nat.le_succ c)
theorem row_len (n r v : Nat) (row : List Nat) : (rowOf n r v row).length ≤ row.length + 1 := by
  unfold rowOf; (repeat' split) <;> simp; omega
theorem row_small {n r v : Nat} {row : List Nat} (hv : v < 18446744073709551616) (h : ∀ x ∈ row, x < 18446744073709551616) : ∀ x ∈ rowOf n r v row, x < 18446744073709551616 := by
  unfold rowOf
  (repeat' split)
  · intro x hx
    rcases List.mem_append.1 hx with q | q
    · exact h x q
    · simp at q; subst q; exact hv
  · exact h
  · exact fun x hx => h x (List.mem_of_mem_tail hx)
  · intro x hx; cases hx
theorem marks_few (n r : Nat) (ws row : List Nat) : (marksOf n r ws row).length ≤ 5 * row.length + 10 ∧ (2 ≤ n → marksOf n r ws row ≠ []) := by
  refine ⟨?_, fun hn => ?_⟩
  · unfold marksOf putM putN takeM takeN
    have := drain_len n row n ws
    (repeat' split) <;> simp <;> omega
  · unfold marksOf putM putN takeM takeN
    (repeat' split) <;> try simp
    obtain ⟨k, rfl⟩ : ∃ k, n = k + 1 := ⟨n - 1, by omega⟩
    rcases row with _ | ⟨x, t⟩ <;> simp [drainM, takeM, takeN]
theorem told_few (n r : Nat) (row : List Nat) : (toldOf n r row).length ≤ row.length + 2 := by unfold toldOf; (repeat' split) <;> simp
theorem do_blk (kd : Int) (vl : Nat) (w : World) : ∃ w1, w1 = (w.alloc (.cells #[.int .i64 kd, .int .u64 (vl : Int)] 33)).alloc (.cells #[.slice none 0 0, .slice none 0 0] 57) ∧ (∀ S, Keeps S w w1) ∧ Blk w1 w.heap.size 33 [.int .i64 kd, .int .u64 (vl : Int)] ∧ Blk w1 (w.heap.size + 1) 57 [.slice none 0 0, .slice none 0 0] := by
  have b2 := Blk.new (w.alloc (.cells #[.int .i64 kd, .int .u64 (vl : Int)] 33)) 57 #[.slice none 0 0, .slice none 0 0]
  rw [World.size_alloc] at b2
  exact ⟨_, rfl, fun S => ((Keeps.refl _ w).alloc _).alloc _, (Blk.new w _ _).alloc _, b2⟩
set_option maxRecDepth 100000 in
set_option maxHeartbeats 2000000 in
theorem call_ (n r vl : Nat) (kd : Int) (w : World) (hn : n ≤ 1024) (h0 : 2 ≤ n) (hr : kd % 3 = (r : Int)) (h1 : -9223372036854775808 ≤ kd) (h2 : kd ≤ 9223372036854775807) :
    Calls Try.prog 19 #[.int .i64 (n : Int), .agg #[.int .i64 kd, .int .u64 (vl : Int)]] w (CallMade w (codeOf n r vl)) := by
  obtain ⟨w1, hw1, k1, bD, bC⟩ := do_blk kd vl w
  have d0 : w1.cell? ⟨w.heap.size, 0, none⟩ = some (.int .i64 kd) := by rw [bD.cell]; rfl
  have d1 : w1.cell? ⟨w.heap.size, 1, none⟩ = some (.int .u64 (vl : Int)) := by rw [bD.cell]; rfl
  have HWI := Lib.hid (within_ kd 3 w1 (by omega) (by omega) h1 h2)
  have hc3 : ((3 : Nat) : Int) = 3 := rfl
  rw [hc3, hr] at HWI
  have hr3 : r = 0 ∨ r = 1 ∨ r = 2 := by omega
  have HP := Lib.hid (put_code n vl w1 hn h0)
  have HT := Lib.hid (take_code n w1 hn h0)
  have HL := Lib.hid (drain_code n w1 hn h0)
  have HW := Lib.hid hw1
  have K1 : Hid (∀ S, Keeps S w w1) := Lib.hid k1
  have BC := Lib.hid bC
  clear hw1 k1 bD bC hc3 hr h1 h2 hn h0
  rcases hr3 with rfl | rfl | rfl
  all_goals
    go_enter Try.func19, Try.ntmps19
    go_wp2_with fail
    rw [← HW.out]
    go_wp2_with fail
    refine HWI.out.mono ?_
    rintro e w' ⟨rfl, rfl⟩
    go_wp2_with fail
    first
      | refine HP.out.mono ?_
      | refine HT.out.mono ?_
      | refine HL.out.mono ?_
    rintro e w2 ⟨cv, dv, rfl, hb, k2⟩
    obtain ⟨⟨CA, cc, hcv, _⟩, ⟨DA, dc, hdv, _⟩⟩ := hb w2 (Keeps.refl _ _)
    subst hcv
    subst hdv
    have bC2 := Blk.keeps BC.out (k2 (fun _ => False)) (fun z => z)
    have f0 := bC2.frozen 0
    have f1 := bC2.frozen 1
    have x0 : w2.cell? ⟨w.heap.size + 1, 0, none⟩ = some (.slice none 0 0) := by rw [bC2.cell]; rfl
    have x1 : w2.cell? ⟨w.heap.size + 1, 1, none⟩ = some (.slice none 0 0) := by rw [bC2.cell]; rfl
    have HB : Hid (∀ w'', Keeps (fun b => b < w1.heap.size) w2 w'' → _) := Lib.hid hb
    have K2 : Hid (∀ S, Keeps S w1 w2) := Lib.hid k2
    have BC2 := Lib.hid bC2
    clear hb k2 bC2
    go_wp2_with fail
    first
      | (obtain ⟨r0, r1, hk⟩ := mz.stored (u := .slice CA (putCode n vl).length cc) (v := .slice DA 0 dc) BC2.out
         refine bodyPost_ret (v := .agg #[.slice CA (putCode n vl).length cc, .slice DA 0 dc]) (by simp [results, Try.results19, go_sem, r0, r1]) rfl ?_
         have hsz : w.heap.size + 1 < w1.heap.size := BC.out.lt
         refine ⟨_, _, rfl, fun w'' kk => HB.out w'' ((hk.mono (fun b _ e => by omega)).trans (kk.mono (fun b _ z => by omega))), fun S => ?_⟩
         have kw := ((K1.out S).trans (K2.out S))
         exact ⟨Nat.le_trans kw.size hk.size, fun b hb hs => by rw [hk.block b (Nat.lt_of_lt_of_le hb kw.size) (by omega), kw.block b hb hs], kw.same.trans hk.same⟩)
      | (obtain ⟨r0, r1, hk⟩ := mz.stored (u := .slice CA (takeCode n).length cc) (v := .slice DA 0 dc) BC2.out
         refine bodyPost_ret (v := .agg #[.slice CA (takeCode n).length cc, .slice DA 0 dc]) (by simp [results, Try.results19, go_sem, r0, r1]) rfl ?_
         have hsz : w.heap.size + 1 < w1.heap.size := BC.out.lt
         refine ⟨_, _, rfl, fun w'' kk => HB.out w'' ((hk.mono (fun b _ e => by omega)).trans (kk.mono (fun b _ z => by omega))), fun S => ?_⟩
         have kw := ((K1.out S).trans (K2.out S))
         exact ⟨Nat.le_trans kw.size hk.size, fun b hb hs => by rw [hk.block b (Nat.lt_of_lt_of_le hb kw.size) (by omega), kw.block b hb hs], kw.same.trans hk.same⟩)
      | (obtain ⟨r0, r1, hk⟩ := mz.stored (u := .slice CA (drainCode n).length cc) (v := .slice DA 0 dc) BC2.out
         refine bodyPost_ret (v := .agg #[.slice CA (drainCode n).length cc, .slice DA 0 dc]) (by simp [results, Try.results19, go_sem, r0, r1]) rfl ?_
         have hsz : w.heap.size + 1 < w1.heap.size := BC.out.lt
         refine ⟨_, _, rfl, fun w'' kk => HB.out w'' ((hk.mono (fun b _ e => by omega)).trans (kk.mono (fun b _ z => by omega))), fun S => ?_⟩
         have kw := ((K1.out S).trans (K2.out S))
         exact ⟨Nat.le_trans kw.size hk.size, fun b hb hs => by rw [hk.block b (Nat.lt_of_lt_of_le hb kw.size) (by omega), kw.block b hb hs], kw.same.trans hk.same⟩)
end Go.Proofs.Ytlpgdpdjaoppbaa.rf7
