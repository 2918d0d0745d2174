/-
  patchbayref04's Get(0, m).
-/
import Derived.Test.YthleddflihidcabGreatMzAlone
import Derived.Test.YthleddflihidcabGreatOnSlot
import Derived.Deep.OwnRows
import Derived.Test.YthleddflihidcabGreatRf4
set_option linter.unusedVariables false
namespace Go.Proofs.YthleddflihidcabGreat.rf4
open Go.RowKit Go.Proofs.YthleddflihidcabGreat.oc Go.Proofs.YthleddflihidcabGreat.mz Go.Proofs.YthleddflihidcabGreat.on
theorem word_info : (Tryz.prog.info? 22).map (fun i => (i.zero, i.size, i.bytes)) = some (some (.int .u64 0), 1, 8) := by kernel_rfl
set_option maxRecDepth 100000 in
set_option maxHeartbeats 2000000 in
theorem world_ (w : World) : Calls Tryz.prog 10 #[.int .i64 1] w fun e w' => ∃ wv lv, e = .returned (.agg #[wv, lv]) ∧ (∀ w'', Keeps (fun b => b < w.heap.size ∨ w'.heap.size ≤ b) w' w'' → IsWords w'' w''.heap.size wv [[0]] ∧ IsLists w'' w''.heap.size lv 1) ∧ (∀ S, Keeps S w w') := by
  have hmk := fun u : World => run_make_row' (P := Tryz.prog) 44 22 (.int .u64 0) 8 Tryz.underlying44 word_info rfl .i64 .i64 1 (by omega) (by omega) u
  have h1 : ((1 : Nat) : Int) = 1 := rfl
  rw [h1] at hmk
  clear h1
  go_enter Tryz.func10, Tryz.ntmps10
  go_wp2
  obtain ⟨w4, hw4⟩ : ∃ w4, w4 = ((((w.alloc (.cells #[.slice (some ⟨w.heap.size + 1 + 1, 0, none⟩) 1 1, .slice (some ⟨w.heap.size + 1 + 1 + 1, 0, none⟩) 1 1] 38)).alloc (.cells (madeCells #[.int .u64 0] 1) 22)).alloc (.cells #[.slice (some ⟨w.heap.size + 1, 0, none⟩) 1 1] 44)).alloc (.cells #[.slice none 0 0] 158)) := ⟨_, rfl⟩
  have b0 := (((Blk.new w 38 #[.slice (some ⟨w.heap.size + 1 + 1, 0, none⟩) 1 1, .slice (some ⟨w.heap.size + 1 + 1 + 1, 0, none⟩) 1 1]).alloc (.cells (madeCells #[.int .u64 0] 1) 22)).alloc (.cells #[.slice (some ⟨w.heap.size + 1, 0, none⟩) 1 1] 44)).alloc (.cells #[.slice none 0 0] 158)
  have b1 := ((Blk.new (w.alloc (.cells #[.slice (some ⟨w.heap.size + 1 + 1, 0, none⟩) 1 1, .slice (some ⟨w.heap.size + 1 + 1 + 1, 0, none⟩) 1 1] 38)) 22 (madeCells #[.int .u64 0] 1)).alloc (.cells #[.slice (some ⟨w.heap.size + 1, 0, none⟩) 1 1] 44)).alloc (.cells #[.slice none 0 0] 158)
  have b2 := (Blk.new ((w.alloc (.cells #[.slice (some ⟨w.heap.size + 1 + 1, 0, none⟩) 1 1, .slice (some ⟨w.heap.size + 1 + 1 + 1, 0, none⟩) 1 1] 38)).alloc (.cells (madeCells #[.int .u64 0] 1) 22)) 44 #[.slice (some ⟨w.heap.size + 1, 0, none⟩) 1 1]).alloc (.cells #[.slice none 0 0] 158)
  have b3 := Blk.new (((w.alloc (.cells #[.slice (some ⟨w.heap.size + 1 + 1, 0, none⟩) 1 1, .slice (some ⟨w.heap.size + 1 + 1 + 1, 0, none⟩) 1 1] 38)).alloc (.cells (madeCells #[.int .u64 0] 1) 22)).alloc (.cells #[.slice (some ⟨w.heap.size + 1, 0, none⟩) 1 1] 44)) 158 #[.slice none 0 0]
  rw [← hw4] at b0 b1 b2 b3
  simp only [World.size_alloc, toList_madeCells_one] at b1 b2 b3
  have k4 : ∀ S, Keeps S w w4 := fun S => by rw [hw4]; exact ((((Keeps.refl S w).alloc _).alloc _).alloc _).alloc _
  have hz4 : w4.heap.size = w.heap.size + 4 := by rw [hw4]; simp
  rw [← hw4]
  clear hw4
  have r0 : w4.cell? ⟨w.heap.size, 0, none⟩ = some (.slice (some ⟨w.heap.size + 1 + 1, 0, none⟩) 1 1) := by rw [b0.cell]; rfl
  have r1 : w4.cell? ⟨w.heap.size, 1, none⟩ = some (.slice (some ⟨w.heap.size + 1 + 1 + 1, 0, none⟩) 1 1) := by rw [b0.cell]; rfl
  refine bodyPost_ret (v := .agg #[.slice (some ⟨w.heap.size + 1 + 1, 0, none⟩) 1 1, .slice (some ⟨w.heap.size + 1 + 1 + 1, 0, none⟩) 1 1]) (by simp [results, Tryz.results10, go_sem, r0, r1]) rfl ?_
  have z4 : w4.heap.size = w.heap.size + 4 := hz4
  refine ⟨_, _, rfl, fun w'' kk => ⟨⟨_, _, rfl, fun i l hi => ?_⟩, ⟨_, _, rfl, fun i hi => ?_⟩⟩, k4⟩
  · have b1 := Blk.keeps b1 kk (by omega)
    have b2 := Blk.keeps b2 kk (by omega)
    obtain ⟨rfl, rfl⟩ : i = 0 ∧ l = [0] := by
      rcases i with _ | i
      · simp at hi; exact ⟨rfl, hi.symm⟩
      · simp at hi
    refine ⟨_, 0, some ⟨w.heap.size + 1, 0, none⟩, 1, rfl, b2.lt, by rw [b2.cell]; rfl, fun k u hk => ⟨_, 0, rfl, b1.lt, ?_⟩⟩
    rw [Nat.zero_add, b1.cell]
    exact hk
  · have b3 := Blk.keeps b3 kk (by omega)
    obtain rfl : i = 0 := by omega
    exact ⟨_, 0, rfl, b3.lt, by rw [b3.cell]; rfl⟩
end Go.Proofs.YthleddflihidcabGreat.rf4
set_option linter.unusedVariables false
namespace Go.Proofs.YthleddflihidcabGreat.rf4
open Go.RowKit Go.Proofs.YthleddflihidcabGreat.oc Go.Proofs.YthleddflihidcabGreat.mz Go.Proofs.YthleddflihidcabGreat.on
theorem alloc_cell {w : World} {o : Obj} {b i : Nat} {v : Value} (h : w.cell? ⟨b, i, none⟩ = some v) : (w.alloc o).cell? ⟨b, i, none⟩ = some v := Keeps.cell ((Keeps.refl (fun _ => False) w).alloc o) h (fun z => z)
theorem two_cell {w : World} {R b i j k : Nat} {v u1 u2 : Value} (h : w.cell? ⟨b, i, none⟩ = some v) (hb : b ≠ R) : ((w.setCell ⟨R, j, none⟩ u1).setCell ⟨R, k, none⟩ u2).cell? ⟨b, i, none⟩ = some v := Keeps.cell ((Keeps.here (b := R) u1).trans (Keeps.here u2)) h hb
theorem cells_len (x : Ins) : x.cells.length = 7 := rfl
theorem code_at : ∀ (l : List Ins) (i : Nat) (x : Ins) (j : Nat) (u : Value), l[i]? = some x → x.cells[j]? = some u → (l.flatMap Ins.cells)[i * 7 + j]? = some u
  | a :: l, 0, x, j, u, h, hu => by
    simp at h; subst h
    rw [List.flatMap_cons, Nat.zero_mul, Nat.zero_add, List.getElem?_append_left (List.getElem?_eq_some_iff.1 hu).1]
    exact hu
  | a :: l, i + 1, x, j, u, h, hu => by
    rw [List.flatMap_cons, List.getElem?_append_right (by rw [cells_len]; omega), cells_len, show (i + 1) * 7 + j - 7 = i * 7 + j from by omega]
    exact code_at l i x j u (by simpa using h) hu
  | [], i, x, j, u, h, hu => by simp at h
/-- what Get leaves: the call, its code in a block of its own -/
theorem get_end (w4 : World) (R : Nat) (code : List Ins) (hb : Blk w4 R 50 [.slice none 0 0, .slice none 0 0]) (hl : code.length = 14) :
    (((w4.alloc (.cells (code.flatMap Ins.cells).toArray 107)).setCell ⟨R, 0, none⟩ (.slice (some ⟨w4.heap.size, 0, none⟩) 14 14)).setCell ⟨R, 1, none⟩ (.slice none 0 0)).cell? ⟨R, 0, none⟩ = some (.slice (some ⟨w4.heap.size, 0, none⟩) 14 14) ∧
    (((w4.alloc (.cells (code.flatMap Ins.cells).toArray 107)).setCell ⟨R, 0, none⟩ (.slice (some ⟨w4.heap.size, 0, none⟩) 14 14)).setCell ⟨R, 1, none⟩ (.slice none 0 0)).cell? ⟨R, 1, none⟩ = some (.slice none 0 0) ∧
    IsCode (((w4.alloc (.cells (code.flatMap Ins.cells).toArray 107)).setCell ⟨R, 0, none⟩ (.slice (some ⟨w4.heap.size, 0, none⟩) 14 14)).setCell ⟨R, 1, none⟩ (.slice none 0 0)) (((w4.alloc (.cells (code.flatMap Ins.cells).toArray 107)).setCell ⟨R, 0, none⟩ (.slice (some ⟨w4.heap.size, 0, none⟩) 14 14)).setCell ⟨R, 1, none⟩ (.slice none 0 0)).heap.size (.slice (some ⟨w4.heap.size, 0, none⟩) 14 14) code ∧
    Keeps (· = R) w4 (((w4.alloc (.cells (code.flatMap Ins.cells).toArray 107)).setCell ⟨R, 0, none⟩ (.slice (some ⟨w4.heap.size, 0, none⟩) 14 14)).setCell ⟨R, 1, none⟩ (.slice none 0 0)) := by
  have hR := hb.lt
  have b1 := ((hb.alloc (.cells (code.flatMap Ins.cells).toArray 107)).put 0 (.slice (some ⟨w4.heap.size, 0, none⟩) 14 14)).put 1 (.slice none 0 0)
  have b2 := ((Blk.new w4 107 (code.flatMap Ins.cells).toArray).far (p := ⟨R, 0, none⟩) (by show w4.heap.size ≠ R; omega) (.slice (some ⟨w4.heap.size, 0, none⟩) 14 14)).far (p := ⟨R, 1, none⟩) (by show w4.heap.size ≠ R; omega) (.slice none 0 0)
  refine ⟨by rw [b1.cell]; rfl, by rw [b1.cell]; rfl, ⟨_, 14, by rw [hl], fun i x hx => ⟨_, 0, rfl, b2.lt, fun j u hu => ?_⟩⟩, (((Keeps.refl _ w4).alloc _).trans (Keeps.here _)).trans (Keeps.here _)⟩
  rw [b2.cell, Nat.zero_add]
  exact code_at code i x j u hx hu
theorem get_blocks (d : Int) (v : Nat) (c : Int) (w : World) : ∃ w2, w2 = (w.alloc (.cells #[.int .i64 d, .int .u64 (v : Int), .int .i64 c] 24)).alloc (.cells #[.slice none 0 0, .slice none 0 0] 50) ∧ (∀ S, Keeps S w w2) ∧ w2.heap.size = w.heap.size + 2 ∧
    Blk w2 w.heap.size 24 [.int .i64 d, .int .u64 (v : Int), .int .i64 c] ∧ Blk w2 (w.heap.size + 1) 50 [.slice none 0 0, .slice none 0 0] := by
  have h1 : (w.alloc (.cells #[.int .i64 d, .int .u64 (v : Int), .int .i64 c] 24)).heap.size = w.heap.size + 1 := by simp
  have b2 := Blk.new (w.alloc (.cells #[.int .i64 d, .int .u64 (v : Int), .int .i64 c] 24)) 50 #[.slice none 0 0, .slice none 0 0]
  rw [h1] at b2
  exact ⟨_, rfl, fun S => ((Keeps.refl _ w).alloc _).alloc _, by simp, (Blk.new w _ _).alloc _, b2⟩
set_option maxRecDepth 100000 in
set_option maxHeartbeats 4000000 in
theorem get_ (d : Int) (v : Nat) (c : Int) (w : World) : Calls Tryz.prog 15 #[.int .i64 0, mkV d v c] w fun e w' => ∃ cv dv, e = .returned (.agg #[cv, dv]) ∧ IsCode w' w'.heap.size cv (getCode (stN d) (t0 d c) (t1 d v)) ∧ IsData w' w'.heap.size dv [] ∧ (∀ S, Keeps S w w') := by
  obtain ⟨w2, hw2, k2, z2, bM, bR⟩ := get_blocks d v c w
  have m0 : w2.cell? ⟨w.heap.size, 0, none⟩ = some (.int .i64 d) := by rw [bM.cell]; rfl
  have m1 : w2.cell? ⟨w.heap.size, 1, none⟩ = some (.int .u64 (v : Int)) := by rw [bM.cell]; rfl
  have m2 : w2.cell? ⟨w.heap.size, 2, none⟩ = some (.int .i64 c) := by rw [bM.cell]; rfl
  have HT := Lib.hid (told_ d v c w2)
  have HW := Lib.hid hw2
  have K2 : Hid (∀ S, Keeps S w w2) := Lib.hid k2
  have Z2 : Hid (w2.heap.size = w.heap.size + 2) := Lib.hid z2
  have M0 := Lib.hid m0
  have M1 := Lib.hid m1
  have M2 := Lib.hid m2
  have BR := Lib.hid bR
  have hst := state_ d v c
  have HST : Hid (∀ w, _) := Lib.hid hst
  clear hw2 k2 z2 bM bR hst
  unfold mkV at HT HST ⊢
  go_enter Tryz.func15, Tryz.ntmps15
  go_wp2_with fail
  rw [← HW.out]
  go_wp2_with fail
  refine HT.out.mono ?_
  rintro e w3 ⟨g, rfl, g0, g1, k3, hg1, hg2⟩
  have n0 := Keeps.cell (k3 (fun _ => False)) M0.out (fun z => z)
  have n1 := Keeps.cell (k3 (fun _ => False)) M1.out (fun z => z)
  have n2 := Keeps.cell (k3 (fun _ => False)) M2.out (fun z => z)
  have K3 : Hid (∀ S, Keeps S w2 w3) := Lib.hid k3
  have BR3 : Hid (Blk w3.drew (w.heap.size + 1) 50 [.slice none 0 0, .slice none 0 0]) := Lib.hid (show Blk w3 (w.heap.size + 1) 50 [.slice none 0 0, .slice none 0 0] from Blk.keeps BR.out (k3 (fun _ => False)) (fun z => z))
  have HG : Hid (w2.heap.size ≤ g ∧ g < w3.heap.size) := Lib.hid ⟨hg1, hg2⟩
  clear k3 hg1 hg2 m0 m1 m2
  have y1 : w.heap.size ≠ w.heap.size + 1 := by omega
  have y2 : g ≠ w.heap.size + 1 := by have := HG.out; have := Z2.out; omega
  go_wp2
  go_region_held3 (fun w' => w'.cell? ⟨w.heap.size, 0, none⟩ = some (.int .i64 d) ∧ w'.cell? ⟨w.heap.size, 1, none⟩ = some (.int .u64 (v : Int)) ∧ w'.cell? ⟨w.heap.size, 2, none⟩ = some (.int .i64 c) ∧ w'.cell? ⟨g, 0, none⟩ = some (.int .u64 (t0 d c : Int)) ∧ w'.cell? ⟨g, 1, none⟩ = some (.int .u64 (t1 d v : Int))) (first | exact ⟨n0, n1, n2, g0, g1⟩ | exact ⟨p0, p1, p2, q0, q1⟩ | exact ⟨alloc_cell p0, alloc_cell p1, alloc_cell p2, alloc_cell q0, alloc_cell q1⟩ | exact ⟨two_cell (alloc_cell p0) y1, two_cell (alloc_cell p1) y1, two_cell (alloc_cell p2) y1, two_cell (alloc_cell q0) y2, two_cell (alloc_cell q1) y2⟩)
    ((first | (go_at_call 28; refine (HST.out w3.drew).mono ?_; rintro e w4 ⟨rfl, k4⟩; have p0 := Keeps.cell (k4 (fun _ => False)) (show w3.drew.cell? _ = _ from n0) (fun z => z); have p1 := Keeps.cell (k4 (fun _ => False)) (show w3.drew.cell? _ = _ from n1) (fun z => z); have p2 := Keeps.cell (k4 (fun _ => False)) (show w3.drew.cell? _ = _ from n2) (fun z => z); have q0 := Keeps.cell (k4 (fun _ => False)) (show w3.drew.cell? _ = _ from g0) (fun z => z); have q1 := Keeps.cell (k4 (fun _ => False)) (show w3.drew.cell? _ = _ from g1) (fun z => z); have K4 : Hid (∀ S, Keeps S w3.drew w4) := Lib.hid k4; have b4 := Blk.keeps (BR3.out) (k4 (fun _ => False)) (fun z => z); have y3 : ∀ o, (w4.alloc o).cell? ⟨w.heap.size + 1, 0, none⟩ = some (.slice none 0 0) := (fun o => by rw [(b4.alloc o).cell]; rfl); have y4 : ∀ o, (w4.alloc o).cell? ⟨w.heap.size + 1, 1, none⟩ = some (.slice none 0 0) := (fun o => by rw [(b4.alloc o).cell]; rfl); have y5 : ∀ o, (w4.alloc o).frozen? ⟨w.heap.size + 1, 0, none⟩ = false := (fun o => (b4.alloc o).frozen 0); have y6 : ∀ o, (w4.alloc o).frozen? ⟨w.heap.size + 1, 1, none⟩ = false := (fun o => (b4.alloc o).frozen 1); have B4 := Lib.hid b4; clear k4 b4)))
  rename_i hheld
  clear hheld y3 y4 y5 y6
  go_wp2
  change bodyPost Tryz.prog _ _ Exit.ret _ (((w4.alloc (.cells ((getCode (stN d) (t0 d c) (t1 d v)).flatMap Ins.cells).toArray 107)).setCell ⟨w.heap.size + 1, 0, none⟩ (.slice (some ⟨w4.heap.size, 0, none⟩) 14 14)).setCell ⟨w.heap.size + 1, 1, none⟩ (.slice none 0 0))
  obtain ⟨r0, r1, hc, hk⟩ := get_end w4 (w.heap.size + 1) (getCode (stN d) (t0 d c) (t1 d v)) B4.out rfl
  generalize ((w4.alloc (.cells ((getCode (stN d) (t0 d c) (t1 d v)).flatMap Ins.cells).toArray 107)).setCell ⟨w.heap.size + 1, 0, none⟩ (.slice (some ⟨w4.heap.size, 0, none⟩) 14 14)).setCell ⟨w.heap.size + 1, 1, none⟩ (.slice none 0 0) = wx at r0 r1 hc hk ⊢
  refine bodyPost_ret (v := .agg #[.slice (some ⟨w4.heap.size, 0, none⟩) 14 14, .slice none 0 0]) (by simp [results, Tryz.results15, go_sem, r0, r1]) rfl ?_
  refine ⟨_, _, rfl, hc, ⟨none, 0, rfl, fun k u hk => by simp [u64s] at hk⟩, fun S => ?_⟩
  have k1 : Keeps S w w3.drew := ((K2.out S).trans (K3.out S)).drew
  have k2 : Keeps S w w4 := k1.trans (K4.out S)
  refine ⟨Nat.le_trans k2.size hk.size, fun b hb hs => ?_, k2.same.trans hk.same⟩
  rw [hk.block b (Nat.lt_of_lt_of_le hb k2.size) (by omega), k2.block b hb hs]
end Go.Proofs.YthleddflihidcabGreat.rf4
