/-
  patchbaylaw12's works, walked: whatever Run, Most and Fits are, so long as they keep these words.
-/
import Derived.Test.YtbiadglhfpapaaaBkMo
set_option linter.unusedVariables false
namespace Go.Proofs.Ytbiadglhfpapaaa.bk
open Go.RowKit Go.Proofs.Ytbiadglhfpapaaa.oc Go.Proofs.Ytbiadglhfpapaaa.mz
/-- bucket.Run, of good arguments -/
def RunSaid : Prop := ∀ (w : World) (n d b : Nat) (A : Option Addr) (m c : Nat) (l : List (Nat × Nat)), May n d b → Asks w w.heap.size A l → l.length = m → m ≤ 100000000000000 → (∀ p ∈ l, p.1 ≤ 1099511627776) → Calls Try.prog 22 #[bv n d b, .slice A m c] w fun e w' => ∃ v, e = .returned (.tuple #[v, .int .i64 0]) ∧ Bm w w' v (runs n d b 0 l)
theorem may_works : May 1 10 3 := ⟨⟨by omega, by omega⟩, ⟨by omega, by omega⟩, by omega, by omega⟩
theorem runs_works : runs 1 10 3 0 [(0, 3), (0, 1), (10, 1), (19, 1), (20, 1)] = [true, false, true, false, true] := by
  simp only [runs, lets, takeOf, aOf_eq, tOf]
  decide
theorem fits_works : IsFits 1 10 3 [(0, 3), (9, 1)] 1 := by
  refine ⟨by decide, fun j hj => ?_, fun _ => ⟨0, 1, by omega, by omega, by decide, by decide, by decide⟩⟩
  have e : j = 0 := by omega
  subst e
  rintro ⟨f, t, hf, ht, h1, h2, h3⟩
  obtain rfl : f = 0 := by omega
  obtain rfl : t = 0 := by omega
  revert h3
  decide
theorem Asks.of_blk {w : World} {g : Nat} {T : TypeId} {l : List (Nat × Nat)} (h : Blk w g T (askc l)) (hs : ∀ p ∈ l, p.1 < 18446744073709551616 ∧ p.2 < 18446744073709551616) : Asks w w.heap.size (some ⟨g, 0, none⟩) l := ⟨fun i v hv => ⟨g, 0, rfl, h.lt, by rw [h.cell, Nat.zero_add]; exact hv⟩, hs⟩
section
variable (w : World)
set_option maxRecDepth 100000 in
set_option maxHeartbeats 4000000 in
theorem works_ (HR : RunSaid) (HM : MostSaid) (HF : FitsSaid) : Calls Try.prog 20 #[] w fun e w' => e = .returned (.bool true) ∧ ∀ S, Keeps S w w' := by
  go_enter Try.func20, Try.ntmps20
  have b0 := (Blk.new w 24 #[.int .u64 1, .int .u64 10, .int .u64 3]).alloc (.cells #[.int .u64 0, .int .u64 3, .int .u64 0, .int .u64 1, .int .u64 10, .int .u64 1, .int .u64 19, .int .u64 1, .int .u64 20, .int .u64 1] 50)
  have ba := Asks.of_blk (l := [(0, 3), (0, 1), (10, 1), (19, 1), (20, 1)]) (Blk.new (w.alloc (.cells #[.int .u64 1, .int .u64 10, .int .u64 3] 24)) 50 #[.int .u64 0, .int .u64 3, .int .u64 0, .int .u64 1, .int .u64 10, .int .u64 1, .int .u64 19, .int .u64 1, .int .u64 20, .int .u64 1]) (by simp)
  rw [World.size_alloc w] at ba
  have h1 := HR _ 1 10 3 _ 5 5 _ may_works ba rfl (by omega) (by simp)
  rw [runs_works] at h1
  have H1 := Lib.hid h1
  have B0 := Lib.hid b0
  clear b0 ba h1
  go_wp2_with fail
  refine (H1.out).mono ?_
  rintro e w1 ⟨v, rfl, hbm⟩
  have K1 : Hid (∀ S, Keeps S w w1) := Lib.hid (fun S => (((Keeps.refl S w).alloc _).alloc _).trans (hbm.keep S))
  have HBM := Lib.hid hbm
  have b1 := Blk.keeps B0.out (hbm.keep (fun _ => False)) (fun z => z)
  have x0 : w1.cell? ⟨w.heap.size, 0, none⟩ = some (.int .u64 1) := by rw [b1.cell]; rfl
  have x1 : w1.cell? ⟨w.heap.size, 1, none⟩ = some (.int .u64 10) := by rw [b1.cell]; rfl
  have x2 : w1.cell? ⟨w.heap.size, 2, none⟩ = some (.int .u64 3) := by rw [b1.cell]; rfl
  have h2 := HM w1 1 10 3 25 may_works (by omega)
  rw [show 3 + 25 * 1 / 10 = 5 from rfl] at h2
  have H2 := Lib.hid h2
  have B1 := Lib.hid b1
  clear hbm b1 h2 H1 B0
  go_wp2_with fail
  refine (H2.out).mono ?_
  rintro e w2 ⟨rfl, k2⟩
  have K2 : Hid (∀ S, Keeps S w w2) := Lib.hid (fun S => (K1.out S).trans (k2 S))
  have BM2 := Lib.hid (HBM.out.grown k2)
  have b2 := Blk.keeps B1.out (k2 (fun _ => False)) (fun z => z)
  have x0 : w2.cell? ⟨w.heap.size, 0, none⟩ = some (.int .u64 1) := by rw [b2.cell]; rfl
  have x1 : w2.cell? ⟨w.heap.size, 1, none⟩ = some (.int .u64 10) := by rw [b2.cell]; rfl
  have x2 : w2.cell? ⟨w.heap.size, 2, none⟩ = some (.int .u64 3) := by rw [b2.cell]; rfl
  have ba := Asks.of_blk (l := [(0, 3), (9, 1)]) (Blk.new w2 50 #[.int .u64 0, .int .u64 3, .int .u64 9, .int .u64 1]) (by simp)
  have H3 := Lib.hid (HF _ 1 10 3 _ 2 2 _ may_works ba rfl (by omega) (by simp))
  clear b2 ba k2 B1 HBM K1 H2
  go_wp2_with fail
  refine (H3.out).mono ?_
  rintro e w3 ⟨kf, rfl, hfit, k3⟩
  have e3 := hfit.one fits_works
  subst e3
  have k23 : ∀ S, Keeps S w2 w3 := fun S => ((Keeps.refl S w2).alloc _).trans (k3 S)
  have K3 : Hid (∀ S, Keeps S w w3) := Lib.hid (fun S => (K2.out S).trans (k23 S))
  have BM3 := Lib.hid (BM2.out.grown k23)
  clear hfit k3 k23 x0 x1 x2 H3 BM2 K2
  obtain ⟨Av, cv, ev, hrv⟩ := rd_of_row ((BM3.out.alloc (.cells #[.bool true, .bool false, .bool true, .bool false, .bool true] 4)).own)
  subst ev
  have bl := Blk.new w3 4 #[.bool true, .bool false, .bool true, .bool false, .bool true]
  have hrl : Rd (w3.alloc (.cells #[.bool true, .bool false, .bool true, .bool false, .bool true] 4)) (w3.alloc (.cells #[.bool true, .bool false, .bool true, .bool false, .bool true] 4)).heap.size (some ⟨w3.heap.size, 0, none⟩) (bools [true, false, true, false, true]) := fun i u hu => ⟨w3.heap.size, 0, rfl, bl.lt, by rw [bl.cell, Nat.zero_add]; exact hu⟩
  have HS := Lib.hid (same_ _ Av (some ⟨w3.heap.size, 0, none⟩) 5 cv 5 5 _ _ hrv hrl rfl rfl (by omega))
  clear hrv hrl bl BM3
  go_wp2_with fail
  refine (HS.out).mono ?_
  rintro e w4 ⟨rfl, k4⟩
  have K4 : Hid (∀ S, Keeps S w w4) := Lib.hid (fun S => ((K3.out S).alloc _).trans (k4 S))
  clear k4 HS
  go_wp2
  try rw [Exit.noGoto_ret]
  go_ret
  exact ⟨rfl, K4.out⟩
end
end Go.Proofs.Ytbiadglhfpapaaa.bk
