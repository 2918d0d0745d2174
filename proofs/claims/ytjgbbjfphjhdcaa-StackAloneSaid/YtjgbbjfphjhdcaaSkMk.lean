/-
  stack: New.
-/
import Derived.Test.YtjgbbjfphjhdcaaSkNew
set_option linter.unusedVariables false
namespace Go.Proofs.Ytjgbbjfphjhdcaa.sk
open Go.RowKit Go.Proofs.Ytjgbbjfphjhdcaa.oc Go.Proofs.Ytjgbbjfphjhdcaa.mz Go.Proofs.Ytjgbbjfphjhdcaa.at_ Go.Proofs.Ytjgbbjfphjhdcaa.gt Go.Proofs.Ytjgbbjfphjhdcaa.gw
theorem Sk.drew {w : World} {Q W n : Nat} {ws : List Nat} (h : Sk w Q W n ws) : Sk w.drew Q W n ws := h.keeps (S := fun _ => False) (Keeps.refl _ w).drew (fun z => z) (fun z => z)
set_option maxRecDepth 100000 in
set_option maxHeartbeats 2000000 in
theorem new_ok (n : Nat) (w : World) (hn : n ∈ pows) : Calls Try.prog 5 #[.int .i64 (n : Int)] w fun e w' => ∃ Q W, e = .returned (.tuple #[.pointer (some ⟨Q, 0, none⟩), .int .i64 0]) ∧ Sk w' Q W n (mid n (n - 1)) ∧ w.heap.size ≤ Q ∧ w.heap.size ≤ W ∧ ∀ S, Keeps S w w' := by
  obtain ⟨h0, h1⟩ := pows_le hn
  have hand := (pow_and ⟨n, by omega⟩ h0).2 hn
  simp only at hand
  have hmk := make_words (2 * n + 2) w (by omega)
  obtain ⟨w1, hw1⟩ : ∃ w1, w1 = w.alloc (.cells (madeCells #[.int .u64 0] (2 * n + 2)) 62) := ⟨_, rfl⟩
  have b1 : Blk w1 w.heap.size 62 (u64s (List.replicate (2 * n + 2) 0)) := by
    have q := Blk.new w 62 (madeCells #[.int .u64 0] (2 * n + 2))
    rw [made_u64s, ← hw1] at q
    exact q
  have k1 : ∀ S, Keeps S w w1 := fun S => by rw [hw1]; exact (Keeps.refl _ w).alloc _
  have z1 : w1.heap.size = w.heap.size + 1 := by rw [hw1]; simp
  rw [← hw1] at hmk
  have hcast : (((2 * n + 2 : Nat)) : Int) = 2 + 2 * (n : Int) := by omega
  rw [hcast] at hmk
  have B1 := Lib.hid b1
  have K1 : Hid (∀ S, Keeps S w w1) := Lib.hid k1
  have Z1 := Lib.hid z1
  have HN := Lib.hid hn
  have hi1 : (n : Int) ≤ 1024 := by omega
  have hi0 : (1 : Int) ≤ (n : Int) := by omega
  have H0 := Lib.hid h0
  clear hw1 b1 k1 z1 h0 h1 hn hcast
  go_enter Try.func5, Try.ntmps5
  go_wp2_with fail
  have b2 := Blk.new w1 41 #[.pointer (some ⟨w1.heap.size, 0, none⟩), .int .i64 (n : Int), .slice (some ⟨w.heap.size, 0, none⟩) (2 * n + 2) (2 * n + 2)]
  have kb : Keeps (fun b => w.heap.size ≤ b) w (w1.alloc (.cells #[.pointer (some ⟨w1.heap.size, 0, none⟩), .int .i64 (n : Int), .slice (some ⟨w.heap.size, 0, none⟩) (2 * n + 2) (2 * n + 2)] 41)) := (K1.out _).alloc _
  have bw := B1.out.alloc (.cells #[.pointer (some ⟨w1.heap.size, 0, none⟩), .int .i64 (n : Int), .slice (some ⟨w.heap.size, 0, none⟩) (2 * n + 2) (2 * n + 2)] 41)
  have hq0 : w.heap.size ≤ w1.heap.size ∧ w1.heap.size ≠ w.heap.size := by have := Z1.out; omega
  generalize w1.alloc (.cells #[.pointer (some ⟨w1.heap.size, 0, none⟩), .int .i64 (n : Int), .slice (some ⟨w.heap.size, 0, none⟩) (2 * n + 2) (2 * n + 2)] 41) = wb at *
  generalize w1.heap.size = Q at *
  have q0 : Sk wb Q w.heap.size n (List.replicate (2 * n + 2) 0) := ⟨b2, ⟨bw, fun x hx => by have := (List.mem_replicate.1 hx).2; omega⟩, by simp, hq0.2, H0.out, by omega⟩
  have HST := Lib.hid (kstore (N := 0) (gv := .nilIface) (ms := []) (F := fun _ => False) (k := 1) (v := 1) ⟨q0, GF.nil_ _ _ _ _, fun z => z, fun z => z⟩ (by simp) (by omega) (by omega))
  have KB := Lib.hid kb
  have HQ0 := Lib.hid hq0.1
  clear b2 kb bw hq0 q0 hand hmk B1 K1 Z1
  generalize hW : w.heap.size = W at *
  refine HST.out.mono ?_
  rintro e wc ⟨rfl, l0⟩
  have Q0 := Lib.hid (show Sk wc Q W n (mid n 0) ∧ Keeps (fun b => W ≤ b) w wc from ⟨l0.sk, KB.out.trans (l0.keep.mono (fun b hb z => by rcases z with z | z; omega; exact z.elim))⟩)
  clear l0 KB HST
  go_wp2_with fail
  go_loopw [6] (fun i wr => ∃ j : Nat, 1 ≤ j ∧ j ≤ n ∧ i = .int .u64 (j : Int) ∧ Sk wr Q W n (mid n (j - 1)) ∧ Keeps (fun b => W ≤ b) w wr) (fun i _ => 2000 - (intOf i).toNat)
  case atStart => exact ⟨1, by omega, by have := H0.out; omega, rfl, Q0.out⟩
  case round =>
    clear Q0
    obtain ⟨j, hj, hk, rfl, hq, hkk⟩ := hrel
    have c1 := hq.cell1
    have c2 := hq.cell2
    have HQ := Lib.hid hq
    have HK := Lib.hid hkk
    by_cases hlt : j < n
    · have hlt' : (j : Int) < (n : Int) := by omega
      have HX : Hid (∀ w, Calls Try.prog 12 #[.int .u64 (j : Int)] w fun e w' => e = .returned (.int .i64 ((2 * j : Nat) : Int)) ∧ w = w') := Lib.hid (fun w => next_ j w (by omega) (by omega))
      have HT := Lib.hid (kstore (N := 0) (gv := .nilIface) (ms := []) (F := fun _ => False) (k := 2 * j) (v := j + 1) ⟨hq.drew, GF.nil_ _ _ _ _, fun z => z, fun z => z⟩ (by simp) (by omega) (by omega))
      have HE := Lib.hid (show IntKind.u64.wrap ((j : Int) + 1) = ((j + 1 : Nat) : Int) by rw [wrap_u64]; omega)
      have HM : Hid ((mid n (j - 1)).set (2 * j) (j + 1) = mid n (j + 1 - 1)) := Lib.hid (by obtain ⟨i, rfl⟩ : ∃ i, j = i + 1 := ⟨j - 1, by omega⟩; rfl)
      have hk2 : (j : Int) < 2000 := by omega
      clear hq hkk
      go_wp2_with fail
      go_region_held3 (fun w' => w'.cell? ⟨Q, 2, none⟩ = some (.slice (some ⟨W, 0, none⟩) (2 * n + 2) (2 * n + 2))) (first | exact c2 | exact c2w)
        ((first
          | (go_at_call 12; refine (HX.out _).mono ?_; rintro e w' ⟨rfl, rfl⟩)
          | (go_at_call 11; rw [HE.out]; refine HT.out.mono ?_; rintro e w2 ⟨rfl, l2⟩; have c2w := l2.sk.cell2; have L2 := Lib.hid l2.of_drew; clear l2)))
      go_wp2_with fail
      go_roundw
      case rel => exact ⟨j + 1, by omega, by omega, rfl, by have := L2.out.sk; rwa [HM.out] at this, HK.out.trans (L2.out.keep.mono (fun b hb z => by rcases z with z | z; omega; exact z.elim))⟩
      case measure => simp [intOf]; omega
    · have hlt' : ¬ (j : Int) < (n : Int) := by omega
      have HE : Hid (j = n) := Lib.hid (by omega)
      clear hq hkk
      go_wp2
      try rw [Exit.noGoto_ret]
      go_ret2
      have hq := HQ.out
      rw [HE.out] at hq
      exact ⟨Q, rfl, W, hq, HQ0.out, Nat.le_refl _, fun S => (HK.out.only (fun b z => by omega)).mono (fun b hb z => z.elim)⟩
end Go.Proofs.Ytjgbbjfphjhdcaa.sk
