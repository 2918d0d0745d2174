/-
  What OnceMakes' make does.
-/
import Derived.Test.YthleddflihidcabGreatRf4
import Derived.Deep.RegionHeld3
set_option linter.unusedVariables false
namespace Go.Proofs.YthleddflihidcabGreat.rf4
open Go.RowKit Go.Proofs.YthleddflihidcabGreat.oc Go.Proofs.YthleddflihidcabGreat.mz Go.Proofs.YthleddflihidcabGreat.on
theorem frozen_keeps {S : Nat → Prop} {w w' : World} (k : Keeps S w w') {b i : Nat} (hb : b < w.heap.size) (h : w.frozen? ⟨b, i, none⟩ = false) (hs : ¬ S b) : w'.frozen? ⟨b, i, none⟩ = false := by
  have := k.block b hb hs
  simp only [World.frozen?] at h ⊢
  rw [this]; exact h
set_option maxRecDepth 100000 in
set_option maxHeartbeats 1000000 in
theorem called_up (C : Nat) (w : World) (h : w.cell? ⟨C, 0, none⟩ = some (.int .i64 0)) (hf : w.frozen? ⟨C, 0, none⟩ = false) :
    Calls Tryz.prog 9 #[.pointer (some ⟨C, 0, none⟩)] w fun e w' => e = .returned (.tuple #[]) ∧ w' = w.setCell ⟨C, 0, none⟩ (.int .i64 1) := by
  go_enter Tryz.func9, Tryz.ntmps9
  go_wp2
  go_end0
  exact ⟨rfl, rfl⟩
/-- what a make answers -/
def vN (d : Int) (v : Nat) : Int := if d = 1 then (v : Int) else (v : Int)
def eN (d c : Int) : Int := if d = 1 then erN c else 0
set_option maxRecDepth 100000 in
set_option maxHeartbeats 2000000 in
theorem does_ (d : Int) (v : Nat) (c : Int) (C : Nat) (w : World) (h : w.cell? ⟨C, 0, none⟩ = some (.int .i64 0)) (hf : w.frozen? ⟨C, 0, none⟩ = false) :
    Calls Tryz.prog 8 #[mkV d v c, .func (.func 9) #[] #[.pointer (some ⟨C, 0, none⟩)]] w fun e w' => e = .returned (.tuple #[.int .u64 (v : Int), .int .i64 (eN d c)]) ∧ Keeps (· = C) w w' ∧ w'.cell? ⟨C, 0, none⟩ = some (.int .i64 1) := by
  obtain ⟨w1, hw1, k1, b1⟩ := box_make d v c w
  have hCl := Keeps.lt_cell h
  have hc1 := Keeps.cell (k1 (fun _ => False)) h (fun z => z)
  have hf1 := frozen_keeps (k1 (fun _ => False)) hCl hf (fun z => z)
  have HCU := Lib.hid (called_up C w1 hc1 hf1)
  obtain ⟨w2, hw2⟩ : ∃ w2, w2 = w1.setCell ⟨C, 0, none⟩ (.int .i64 1) := ⟨_, rfl⟩
  have b2 : Blk w2 w.heap.size 24 [.int .i64 d, .int .u64 (v : Int), .int .i64 c] := by rw [hw2]; exact b1.far (by show w.heap.size ≠ C; omega) _
  have k2 : Keeps (· = C) w w2 := by rw [hw2]; exact (k1 _).trans (Keeps.here _)
  have c2 : w2.cell? ⟨C, 0, none⟩ = some (.int .i64 1) := by rw [hw2]; exact World.cell?_setCell_same w1 _ _ hc1
  rw [← hw2] at HCU
  have m0 : w2.cell? ⟨w.heap.size, 0, none⟩ = some (.int .i64 d) := by rw [b2.cell]; rfl
  have m1 : w2.cell? ⟨w.heap.size, 1, none⟩ = some (.int .u64 (v : Int)) := by rw [b2.cell]; rfl
  have m2 : w2.cell? ⟨w.heap.size, 2, none⟩ = some (.int .i64 c) := by rw [b2.cell]; rfl
  have HER := Lib.hid (errno_ d v c w2.drew)
  have HW := Lib.hid hw1
  have K2 := Lib.hid k2
  have C2 := Lib.hid c2
  clear hw1 k1 b1 hw2 b2 k2 c2 hc1 hf1 h hf
  unfold mkV at HER ⊢
  by_cases h : d = 1
  · have hd : (d == 1) = true := by simp [h]
    have he : eN d c = erN c := by simp [eN, h]
    rw [he]
    have HE := Lib.hid h
    clear h he
    go_enter Tryz.func8, Tryz.ntmps8
    go_wp2_with fail
    rw [← HW.out]
    go_wp2_with fail
    refine HCU.out.mono ?_
    rintro e w' ⟨rfl, rfl⟩
    go_wp2
    go_region_held3 (fun w' => w'.cell? ⟨w.heap.size, 0, none⟩ = some (.int .i64 d) ∧ w'.cell? ⟨w.heap.size, 1, none⟩ = some (.int .u64 (v : Int)) ∧ w'.cell? ⟨w.heap.size, 2, none⟩ = some (.int .i64 c)) (first | exact ⟨m0, m1, m2⟩ | exact ⟨p0, p1, p2⟩)
      ((first | (go_at_call 23; refine HER.out.mono ?_; rintro e w4 ⟨rfl, k4⟩; have p0 := Keeps.cell (k4 (fun _ => False)) (show w'.drew.cell? _ = _ from m0) (fun z => z); have p1 := Keeps.cell (k4 (fun _ => False)) (show w'.drew.cell? _ = _ from m1) (fun z => z); have p2 := Keeps.cell (k4 (fun _ => False)) (show w'.drew.cell? _ = _ from m2) (fun z => z); have K4 : Hid (∀ S, Keeps S w'.drew w4) := Lib.hid k4; clear k4)))
    go_wp2
    try rw [Exit.noGoto_ret]
    go_ret2
    exact ⟨rfl, (K2.out.drew).trans (K4.out _), Keeps.cell (K4.out (fun _ => False)) (show w'.drew.cell? _ = _ from C2.out) (fun z => z)⟩
  · have hd : (d == 1) = false := by simp [h]
    have he : eN d c = 0 := by simp [eN, h]
    rw [he]
    clear h he
    go_enter Tryz.func8, Tryz.ntmps8
    go_wp2_with fail
    rw [← HW.out]
    go_wp2_with fail
    refine HCU.out.mono ?_
    rintro e w' ⟨rfl, rfl⟩
    go_wp2
    try rw [Exit.noGoto_ret]
    go_ret2
    exact ⟨rfl, K2.out, C2.out⟩
set_option maxRecDepth 100000 in
set_option maxHeartbeats 1000000 in
theorem make_ (d : Int) (v : Nat) (c : Int) (M C : Nat) (w : World) (hm : Blk w M 24 [.int .i64 d, .int .u64 (v : Int), .int .i64 c]) (h : w.cell? ⟨C, 0, none⟩ = some (.int .i64 0)) (hf : w.frozen? ⟨C, 0, none⟩ = false) :
    Calls Tryz.prog 7 #[.pointer (some ⟨M, 0, none⟩), .pointer (some ⟨C, 0, none⟩)] w fun e w' => e = .returned (.tuple #[.int .u64 (v : Int), .int .i64 (eN d c)]) ∧ Keeps (· = C) w w' ∧ w'.cell? ⟨C, 0, none⟩ = some (.int .i64 1) := by
  have hmf : ∀ (fn : Fn) (first cap : Array Value) (w : World), (Instr.makeFunc fn first cap).run Tryz.prog w = .ok (.func fn first cap) w := fun _ _ _ _ => rfl
  have m0 : w.cell? ⟨M, 0, none⟩ = some (.int .i64 d) := by rw [hm.cell]; rfl
  have m1 : w.cell? ⟨M, 1, none⟩ = some (.int .u64 (v : Int)) := by rw [hm.cell]; rfl
  have m2 : w.cell? ⟨M, 2, none⟩ = some (.int .i64 c) := by rw [hm.cell]; rfl
  have HD := Lib.hid (does_ d v c C w h hf)
  clear hm h hf
  unfold mkV at HD
  go_enter Tryz.func7, Tryz.ntmps7
  go_wp2_with fail
  refine HD.out.mono ?_
  rintro e w' ⟨rfl, k, hc⟩
  have K := Lib.hid k
  have HC := Lib.hid hc
  clear k hc
  go_wp2
  try rw [Exit.noGoto_ret]
  go_ret2
  exact ⟨rfl, K.out, HC.out⟩
end Go.Proofs.YthleddflihidcabGreat.rf4
