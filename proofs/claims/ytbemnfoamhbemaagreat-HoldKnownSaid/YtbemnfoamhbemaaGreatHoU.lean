/-
  hold at string: the shelf's keep, onto an empty one; what the shelf's closure tells; IndexFunc and DeleteFunc of a list of one.
-/
import Derived.Test.YtbemnfoamhbemaaGreatHoT
set_option linter.unusedVariables false
namespace Go.Proofs.YtbemnfoamhbemaaGreat.hoS
open Go.RowKit Go.Proofs.YtbemnfoamhbemaaGreat.oc Go.Proofs.YtbemnfoamhbemaaGreat.mz Go.Proofs.YtbemnfoamhbemaaGreat.at_ Go.Proofs.YtbemnfoamhbemaaGreat.gt Go.Proofs.YtbemnfoamhbemaaGreat.gw Go.Proofs.YtbemnfoamhbemaaGreat.ep Go.Proofs.YtbemnfoamhbemaaGreat.ho
/-- a hold's cells -/
def cellsH (H E D : Nat) (mu : Int) (lv : Value) : List Value := [.pointer (some ⟨H, 0, none⟩), .pointer (some ⟨E, 0, none⟩), .pointer (some ⟨D, 0, none⟩), .int .i32 mu, .int .u32 0, lv]
set_option maxRecDepth 100000 in
set_option maxHeartbeats 1000000 in
theorem keep_nil (H E D e x : Nat) (v : Value) (n : Nat) (w : World) (hH : Blk w H 119 (cellsH H E D 0 (.slice none 0 0))) (he : Blk w e 122 [v, .int .u64 (n : Int)]) (hne : e ≠ H) :
    Calls Tryz.prog 95 #[.pointer (some ⟨H, 3, none⟩), .pointer (some ⟨e, 0, none⟩), .int .u64 (x : Int)] w fun r w' => r = .returned (.tuple #[]) ∧ ∃ K c, Blk w' H 119 (cellsH H E D 0 (.slice (some ⟨K, 0, none⟩) 1 c)) ∧ One w' K c e x ∧ w.heap.size ≤ K ∧ Keeps (· = H) w w' := by
  have HA := Lib.hid (mu_lock H 3 w (by rw [hH.cell]; rfl) (hH.frozen _))
  have b1 : Blk (w.setCell ⟨H, 3, none⟩ (.int .i32 1)) H 119 (cellsH H E D 1 (.slice none 0 0)) := hH.put 3 _
  have k1 : Keeps (· = H) w (w.setCell ⟨H, 3, none⟩ (.int .i32 1)) := Keeps.here _
  obtain ⟨w1, hw1⟩ : ∃ w1, w1 = w.setCell ⟨H, 3, none⟩ (.int .i32 1) := ⟨_, rfl⟩
  rw [← hw1] at b1 k1 HA
  have e1 := Blk.keeps he k1 hne
  have ce1 : w1.cell? ⟨e, 1, none⟩ = some (.int .u64 (n : Int)) := by rw [e1.cell]; rfl
  have HF := Lib.hid (find_nil H 3 (n : Int) w1 (by rw [b1.cell]; rfl))
  have c5 : w1.cell? ⟨H, 5, none⟩ = some (.slice none 0 0) := by rw [b1.cell]; rfl
  obtain ⟨w2, hw2, k2, b2⟩ := enter_blk w1 #[.pointer (some ⟨e, 0, none⟩), .int .u64 (x : Int)] 206
  have HI := Lib.hid (insert_nil w1.heap.size e x w2 (by rw [b2.cell]; rfl) (by rw [b2.cell]; rfl))
  have B1 := Lib.hid (Blk.keeps b1 (k2 (fun _ => False)) (fun z => z))
  have HW2 := Lib.hid hw2
  have K1 := Lib.hid (k1.trans (k2 _))
  clear hH he hw1 b1 k1 e1 hw2 k2 b2
  go_enter_defers Tryz.func95, Tryz.ntmps95
  go_wp2_with fail
  refine HA.out.mono ?_
  rintro r w' ⟨rfl, rfl⟩
  go_wp2_with fail
  refine HF.out.mono ?_
  rintro r w' ⟨rfl, rfl⟩
  go_wp2_with fail
  rw [← HW2.out]
  refine HI.out.mono ?_
  rintro r w3 ⟨K, c, rfl, o3, hK, k3⟩
  have b3 := Blk.keeps B1.out (k3 (fun _ => False)) (fun z => z)
  have c53 : w3.cell? ⟨H, 5, none⟩ = some (.slice none 0 0) := by rw [b3.cell]; rfl
  have f53 := b3.frozen 5
  have B3 := Lib.hid b3
  have O3 := Lib.hid o3
  have K3 := Lib.hid (K1.out.trans (k3 _))
  have HK := Lib.hid hK
  clear b3 o3 k3 hK
  go_wp2
  refine leaves_cons (f := 86) (args := #[.pointer (some ⟨H, 3, none⟩)]) (by simp) (by simp [go_sem]) ?_
  have b4 : Blk (w3.setCell ⟨H, 5, none⟩ (.slice (some ⟨K, 0, none⟩) 1 c)) H 119 (cellsH H E D 1 (.slice (some ⟨K, 0, none⟩) 1 c)) := B3.out.put 5 _
  refine (mu_unlock H 3 _ _ (by rw [b4.cell]; rfl) (b4.frozen _)).mono ?_
  rintro r u' w4 ⟨rfl, rfl, rfl⟩
  have b5 := b4.put 3 (.int .i32 0)
  have k5 := (Keeps.here (w := w3) (b := H) (i := 5) (.slice (some ⟨K, 0, none⟩) 1 c)).trans (Keeps.here (b := H) (i := 3) (.int .i32 0))
  have hH1 : H < w3.heap.size := B3.out.lt
  have hKH : ¬ K = H := fun z => by
    have h1 := HK.out
    have h2 := HW2.out
    have h3 := B1.out.lt
    omega
  refine ⟨_, results_none rfl _ _ _, rfl, K, c, b5, O3.out.keeps k5 hKH, ?_, K3.out.trans k5⟩
  have h1 := HK.out
  have h2 := K1.out.size
  omega
/-- what the shelf's closure tells -/
def ripe (x m : Nat) : Bool := decide (x + 2 ≤ m)
set_option maxRecDepth 100000 in
set_option maxHeartbeats 1000000 in
theorem ripe_ (B e x m : Nat) (w : World) (hB : w.cell? ⟨B, 0, none⟩ = some (.int .u64 (m : Int))) (hx : x < 1000000) :
    Calls Tryz.prog 96 #[.agg #[.pointer (some ⟨e, 0, none⟩), .int .u64 (x : Int)], .pointer (some ⟨B, 0, none⟩)] w fun r w' => r = .returned (.bool (ripe x m)) ∧ ∀ S, Keeps S w w' := by
  obtain ⟨w1, hw1, k1, b1⟩ := enter_blk w #[.pointer (some ⟨e, 0, none⟩), .int .u64 (x : Int)] 206
  have hB2 : (w.alloc (.cells #[.pointer (some ⟨e, 0, none⟩), .int .u64 (x : Int)] 206)).cell? ⟨B, 0, none⟩ = some (.int .u64 (m : Int)) := by rw [← hw1]; exact Keeps.cell (k1 (fun _ => False)) hB (fun z => z)
  have HW := Lib.hid hw1
  have K1 := Lib.hid k1
  have hr : ripe x m = decide (IntKind.u64.wrap ((x : Int) + 2) ≤ (m : Int)) := by unfold ripe; rw [wrap_u64]; apply decide_eq_decide.2; omega
  rw [hr]
  clear hw1 k1 b1 hB hr hx
  go_enter Tryz.func96, Tryz.ntmps96
  go_wp2
  trace_state
  try rw [Exit.noGoto_ret]
  go_ret
  exact ⟨rfl, HW.out ▸ K1.out⟩
end Go.Proofs.YtbemnfoamhbemaaGreat.hoS
