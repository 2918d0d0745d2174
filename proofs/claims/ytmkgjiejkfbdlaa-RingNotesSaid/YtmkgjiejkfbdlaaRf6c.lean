/-
  patchbaylaw06's call and done; R.World, R.May.
-/
import Derived.Test.YtmkgjiejkfbdlaaRf6g
import Derived.Test.YtmkgjiejkfbdlaaRgWk
set_option linter.unusedVariables false
namespace Go.Proofs.Ytmkgjiejkfbdlaa.rf6
open Go.RowKit Go.Proofs.Ytmkgjiejkfbdlaa.oc Go.Proofs.Ytmkgjiejkfbdlaa.mz Go.Proofs.Ytmkgjiejkfbdlaa.at_ Go.Proofs.Ytmkgjiejkfbdlaa.gt Go.Proofs.Ytmkgjiejkfbdlaa.rg
/-- the code of a call of kind r -/
def codeOf (n r v : Nat) : List Ins := if r = 0 then putCode n v else if r = 1 then takeCode n else lenCode n
/-- what it tells, the words behind it, its operations -/
def toldOf (n r : Nat) (ws : List Nat) : List Nat := if r = 0 then (if dif ws < n then [1] else [0]) else if r = 1 then (if ws[0]?.getD 0 = ws[1]?.getD 0 then [0, 0] else [ws[slotOf n (ws[0]?.getD 0)]?.getD 0, 1]) else [min (dif ws) n]
def nextOf (n r v : Nat) (ws : List Nat) : List Nat := if r = 0 then (if dif ws < n then (ws.set (slotOf n (ws[1]?.getD 0)) v).set 1 ((ws[1]?.getD 0 + 1) % 18446744073709551616) else ws) else if r = 1 then (if ws[0]?.getD 0 = ws[1]?.getD 0 then ws else ws.set 0 ((ws[0]?.getD 0 + 1) % 18446744073709551616)) else ws
def marksOf (n r : Nat) (ws : List Nat) : List (Nat × Nat) := if r = 0 then (if dif ws < n then [(1, 1), (1, 0), (2, slotOf n (ws[1]?.getD 0)), (2, 1)] else [(1, 1), (1, 0)]) else if r = 1 then (if ws[0]?.getD 0 = ws[1]?.getD 0 then [(1, 0), (1, 1)] else [(1, 0), (1, 1), (1, slotOf n (ws[0]?.getD 0)), (2, 0)]) else [(1, 0), (1, 1)]
theorem do_blk (kd : Int) (vl : Nat) (w : World) : ∃ w1, w1 = (w.alloc (.cells #[.int .i64 kd, .int .u64 (vl : Int)] 33)).alloc (.cells #[.slice none 0 0, .slice none 0 0] 57) ∧ (∀ S, Keeps S w w1) ∧ Blk w1 w.heap.size 33 [.int .i64 kd, .int .u64 (vl : Int)] ∧ Blk w1 (w.heap.size + 1) 57 [.slice none 0 0, .slice none 0 0] := by
  have b2 := Blk.new (w.alloc (.cells #[.int .i64 kd, .int .u64 (vl : Int)] 33)) 57 #[.slice none 0 0, .slice none 0 0]
  rw [World.size_alloc] at b2
  exact ⟨_, rfl, fun S => ((Keeps.refl _ w).alloc _).alloc _, (Blk.new w _ _).alloc _, b2⟩
theorem stored {w : World} {R : Nat} {t : TypeId} {a b u v : Value} (h : Blk w R t [a, b]) :
    ((w.setCell ⟨R, 0, none⟩ u).setCell ⟨R, 1, none⟩ v).cell? ⟨R, 0, none⟩ = some u ∧ ((w.setCell ⟨R, 0, none⟩ u).setCell ⟨R, 1, none⟩ v).cell? ⟨R, 1, none⟩ = some v ∧ Keeps (· = R) w ((w.setCell ⟨R, 0, none⟩ u).setCell ⟨R, 1, none⟩ v) := by
  have b1 := (h.put 0 u).put 1 v
  exact ⟨by rw [b1.cell]; rfl, by rw [b1.cell]; rfl, (Keeps.here u).trans (Keeps.here v)⟩
set_option maxRecDepth 100000 in
set_option maxHeartbeats 2000000 in
theorem call_ (n r vl : Nat) (kd : Int) (w : World) (hn : n ≤ 1024) (h0 : 0 < n) (hr : kd % 3 = (r : Int)) (h1 : -9223372036854775808 ≤ kd) (h2 : kd ≤ 9223372036854775807) :
    Calls Try.prog 18 #[.int .i64 (n : Int), .agg #[.int .i64 kd, .int .u64 (vl : Int)]] w (Built w (codeOf n r vl)) := by
  obtain ⟨w1, hw1, k1, bD, bC⟩ := do_blk kd vl w
  have d0 : w1.cell? ⟨w.heap.size, 0, none⟩ = some (.int .i64 kd) := by rw [bD.cell]; rfl
  have d1 : w1.cell? ⟨w.heap.size, 1, none⟩ = some (.int .u64 (vl : Int)) := by rw [bD.cell]; rfl
  have HWI := Lib.hid (within_ kd 3 w1 (by omega) (by omega) h1 h2)
  have hc3 : ((3 : Nat) : Int) = 3 := rfl
  rw [hc3, hr] at HWI
  have hr3 : r = 0 ∨ r = 1 ∨ r = 2 := by omega
  have HP := Lib.hid (put_code n vl w1 hn h0)
  have HT := Lib.hid (take_code n w1 hn h0)
  have HL := Lib.hid (len_code n w1 hn h0)
  have HW := Lib.hid hw1
  have K1 : Hid (∀ S, Keeps S w w1) := Lib.hid k1
  have BC := Lib.hid bC
  clear hw1 k1 bD bC hc3 hr h1 h2 hn h0
  rcases hr3 with rfl | rfl | rfl
  all_goals
    go_enter Try.func18, Try.ntmps18
    go_wp2_with fail
    rw [← HW.out]
    go_wp2_with fail
    refine HWI.out.mono ?_
    rintro e w' ⟨rfl, rfl⟩
    go_wp2_with fail
    first
      | refine HP.out.mono ?_
      | refine HT.out.mono ?_
      | refine HL.out.mono ?_
    rintro e w2 ⟨cv, dv, rfl, hb, k2⟩
    obtain ⟨⟨CA, cc, hcv, _⟩, ⟨DA, dc, hdv, _⟩⟩ := hb w2 (Keeps.refl _ _)
    subst hcv
    subst hdv
    have bC2 := Blk.keeps BC.out (k2 (fun _ => False)) (fun z => z)
    have f0 := bC2.frozen 0
    have f1 := bC2.frozen 1
    have x0 : w2.cell? ⟨w.heap.size + 1, 0, none⟩ = some (.slice none 0 0) := by rw [bC2.cell]; rfl
    have x1 : w2.cell? ⟨w.heap.size + 1, 1, none⟩ = some (.slice none 0 0) := by rw [bC2.cell]; rfl
    have HB : Hid (∀ w'', Keeps (fun b => b < w1.heap.size) w2 w'' → _) := Lib.hid hb
    have K2 : Hid (∀ S, Keeps S w1 w2) := Lib.hid k2
    have BC2 := Lib.hid bC2
    clear hb k2 bC2
    go_wp2_with fail
    first
      | (obtain ⟨r0, r1, hk⟩ := stored (u := .slice CA (putCode n vl).length cc) (v := .slice DA 0 dc) BC2.out
         refine bodyPost_ret (v := .agg #[.slice CA (putCode n vl).length cc, .slice DA 0 dc]) (by simp [results, Try.results18, go_sem, r0, r1]) rfl ?_
         have hsz : w.heap.size + 1 < w1.heap.size := BC.out.lt
         refine ⟨_, _, rfl, fun w'' kk => HB.out w'' ((hk.mono (fun b _ e => by omega)).trans (kk.mono (fun b _ z => by omega))), fun S => ?_⟩
         have kw := ((K1.out S).trans (K2.out S))
         exact ⟨Nat.le_trans kw.size hk.size, fun b hb hs => by rw [hk.block b (Nat.lt_of_lt_of_le hb kw.size) (by omega), kw.block b hb hs], kw.same.trans hk.same⟩)
      | (obtain ⟨r0, r1, hk⟩ := stored (u := .slice CA (takeCode n).length cc) (v := .slice DA 0 dc) BC2.out
         refine bodyPost_ret (v := .agg #[.slice CA (takeCode n).length cc, .slice DA 0 dc]) (by simp [results, Try.results18, go_sem, r0, r1]) rfl ?_
         have hsz : w.heap.size + 1 < w1.heap.size := BC.out.lt
         refine ⟨_, _, rfl, fun w'' kk => HB.out w'' ((hk.mono (fun b _ e => by omega)).trans (kk.mono (fun b _ z => by omega))), fun S => ?_⟩
         have kw := ((K1.out S).trans (K2.out S))
         exact ⟨Nat.le_trans kw.size hk.size, fun b hb hs => by rw [hk.block b (Nat.lt_of_lt_of_le hb kw.size) (by omega), kw.block b hb hs], kw.same.trans hk.same⟩)
      | (obtain ⟨r0, r1, hk⟩ := stored (u := .slice CA (lenCode n).length cc) (v := .slice DA 0 dc) BC2.out
         refine bodyPost_ret (v := .agg #[.slice CA (lenCode n).length cc, .slice DA 0 dc]) (by simp [results, Try.results18, go_sem, r0, r1]) rfl ?_
         have hsz : w.heap.size + 1 < w1.heap.size := BC.out.lt
         refine ⟨_, _, rfl, fun w'' kk => HB.out w'' ((hk.mono (fun b _ e => by omega)).trans (kk.mono (fun b _ z => by omega))), fun S => ?_⟩
         have kw := ((K1.out S).trans (K2.out S))
         exact ⟨Nat.le_trans kw.size hk.size, fun b hb hs => by rw [hk.block b (Nat.lt_of_lt_of_le hb kw.size) (by omega), kw.block b hb hs], kw.same.trans hk.same⟩)
end Go.Proofs.Ytmkgjiejkfbdlaa.rf6
