/-
  queue: New, Slots.
-/
import Derived.Test.YtlpgdpdjaoppbaaQuOp
set_option linter.unusedVariables false
namespace Go.Proofs.Ytlpgdpdjaoppbaa.qu
open Go.RowKit Go.Proofs.Ytlpgdpdjaoppbaa.oc Go.Proofs.Ytlpgdpdjaoppbaa.mz Go.Proofs.Ytlpgdpdjaoppbaa.at_ Go.Proofs.Ytlpgdpdjaoppbaa.gt Go.Proofs.Ytlpgdpdjaoppbaa.gw
theorem pow_and : ∀ n : Fin 1025, 2 ≤ n.val → (bits BinOp.and IntKind.i64 (n.val : Int) ((n.val : Int) - 1) = 0 ↔ n.val ∈ pows) := by decide +kernel
theorem word_info : (Try.prog.info? 101).map (fun i => (i.zero.map Value.cells, i.size, decide (i.bytes ≤ 8))) = some (some #[.int .u64 0], 1, true) := by kernel_rfl
theorem make_words (n : Nat) (w : World) (hn : n ≤ 3000) :
    (Instr.makeSlice 63 (.int .i64 (n : Int)) (.int .i64 (n : Int))).run Try.prog w = .ok (.slice (some ⟨w.heap.size, 0, none⟩) n n) (w.alloc (.cells (madeCells #[.int .u64 0] n) 101)) := by
  obtain ⟨i0, hi0, hx⟩ := Option.map_eq_some_iff.1 word_info
  simp only [Prod.mk.injEq, decide_eq_true_eq] at hx
  obtain ⟨hz0, hsz, hby⟩ := hx
  obtain ⟨z, hz, hzc⟩ := Option.map_eq_some_iff.1 hz0
  have h := run_make (P := Try.prog) w 63 101 i0 z Try.underlying63 hi0 hz .i64 .i64 (n : Int) (n : Int) (by omega) (Int.le_refl _) (by
    have q : i0.bytes * n ≤ 8 * 3000 := Nat.mul_le_mul hby hn
    have : ((i0.bytes * n : Nat) : Int) ≤ 281474976710656 := by omega
    rwa [Int.natCast_mul] at this) (by omega)
  rw [hsz, hzc] at h
  simpa using h
theorem made_u64s (n : Nat) : (madeCells #[.int .u64 0] n).toList = u64s (List.replicate n 0) := by
  apply List.ext_getElem?
  intro i
  simp only [madeCells, u64s, Array.toList_map, Array.toList_range, List.getElem?_map, List.getElem?_replicate]
  by_cases h : i < n
  · simp [h, Nat.mod_one]
  · simp [h]
/-- the words while New lays the sequences, k of them laid -/
def mid (n : Nat) : Nat → List Nat
  | 0 => List.replicate (2 * n + 2) 0
  | k + 1 => (mid n k).set (2 * k + 2) k
theorem mid_len (n : Nat) : ∀ k, (mid n k).length = 2 * n + 2
  | 0 => by simp [mid]
  | k + 1 => by simp [mid, mid_len n k]
theorem mid_at (n : Nat) : ∀ k i, k ≤ n → i < 2 * n + 2 → (mid n k)[i]?.getD 0 = if 2 ≤ i ∧ i % 2 = 0 ∧ i < 2 * k + 2 then (i - 2) / 2 else 0
  | 0, i, hk, hi => by
    rw [if_neg (by omega)]
    simp [mid, hi]
  | k + 1, i, hk, hi => by
    simp only [mid]
    by_cases he : i = 2 * k + 2
    · subst he
      rw [List.getElem?_set_self (by rw [mid_len]; omega), if_pos (by omega)]
      show k = _
      omega
    · rw [List.getElem?_set_ne (by omega), mid_at n k i (by omega) hi]
      by_cases hc : 2 ≤ i ∧ i % 2 = 0 ∧ i < 2 * k + 2
      · rw [if_pos hc, if_pos (by omega)]
      · rw [if_neg hc, if_neg (by omega)]
theorem slots_odd : ∀ (k i j : Nat), (slots i k)[2 * j + 1]?.getD 0 = 0
  | 0, i, j => by simp [slots]
  | k + 1, i, 0 => by simp [slots]
  | k + 1, i, j + 1 => by
    rw [show 2 * (j + 1) + 1 = 2 * j + 1 + 1 + 1 from by omega]
    simp only [slots, List.getElem?_cons_succ]
    exact slots_odd k (i + 1) j
theorem mid_end (n : Nat) : mid n n = startW n := by
  apply List.ext_getElem
  · simp [mid_len, startW, slots_len]
  · intro i h1 h2
    have e1 : (mid n n)[i]?.getD 0 = (mid n n)[i] := by rw [List.getElem?_eq_getElem h1]; rfl
    have e2 : (startW n)[i]?.getD 0 = (startW n)[i] := by rw [List.getElem?_eq_getElem h2]; rfl
    rw [mid_len] at h1
    rw [← e1, ← e2, mid_at n n i (Nat.le_refl _) h1]
    rcases i with _ | _ | i
    · rw [if_neg (by omega)]; rfl
    · rw [if_neg (by omega)]; rfl
    · simp only [startW, List.getElem?_cons_succ]
      rcases Nat.mod_two_eq_zero_or_one i with q | q
      · obtain ⟨j, rfl⟩ : ∃ j, i = 2 * j := ⟨i / 2, by omega⟩
        rw [slots_at n 0 j (by omega), if_pos (by omega)]
        omega
      · obtain ⟨j, rfl⟩ : ∃ j, i = 2 * j + 1 := ⟨i / 2, by omega⟩
        rw [slots_odd, if_neg (by omega)]
set_option maxRecDepth 100000 in
set_option maxHeartbeats 2000000 in
theorem new_ok (n : Nat) (w : World) (hn : n ∈ pows) : Calls Try.prog 7 #[.int .i64 (n : Int)] w fun e w' => ∃ Q W, e = .returned (.tuple #[.pointer (some ⟨Q, 0, none⟩), .int .i64 0]) ∧ Qu w' Q W n (startW n) ∧ w.heap.size ≤ Q ∧ w.heap.size ≤ W ∧ ∀ S, Keeps S w w' := by
  obtain ⟨h0, h1⟩ := pows_le hn
  have hand := (pow_and ⟨n, by omega⟩ h0).2 hn
  simp only at hand
  have hmk := make_words (2 * n + 2) w (by omega)
  obtain ⟨w1, hw1⟩ : ∃ w1, w1 = w.alloc (.cells (madeCells #[.int .u64 0] (2 * n + 2)) 101) := ⟨_, rfl⟩
  have b1 : Blk w1 w.heap.size 101 (u64s (List.replicate (2 * n + 2) 0)) := by
    have q := Blk.new w 101 (madeCells #[.int .u64 0] (2 * n + 2))
    rw [made_u64s, ← hw1] at q
    exact q
  have k1 : ∀ S, Keeps S w w1 := fun S => by rw [hw1]; exact (Keeps.refl _ w).alloc _
  have z1 : w1.heap.size = w.heap.size + 1 := by rw [hw1]; simp
  rw [← hw1] at hmk
  have hcast : (((2 * n + 2 : Nat)) : Int) = 2 + 2 * (n : Int) := by omega
  rw [hcast] at hmk
  have B1 := Lib.hid b1
  have K1 : Hid (∀ S, Keeps S w w1) := Lib.hid k1
  have Z1 := Lib.hid z1
  have HN := Lib.hid hn
  have hi1 : (n : Int) ≤ 1024 := by omega
  have hi0 : (2 : Int) ≤ (n : Int) := by omega
  have H0 := Lib.hid h0
  clear hw1 b1 k1 z1 h0 h1 hn hcast
  go_enter Try.func7, Try.ntmps7
  go_wp2
  have b2 := Blk.new w1 65 #[.pointer (some ⟨w1.heap.size, 0, none⟩), .int .u64 (n : Int), .slice (some ⟨w.heap.size, 0, none⟩) (2 * n + 2) (2 * n + 2)]
  have kb : Keeps (fun b => w.heap.size ≤ b) w (w1.alloc (.cells #[.pointer (some ⟨w1.heap.size, 0, none⟩), .int .u64 (n : Int), .slice (some ⟨w.heap.size, 0, none⟩) (2 * n + 2) (2 * n + 2)] 65)) := (K1.out _).alloc _
  have bw := B1.out.alloc (.cells #[.pointer (some ⟨w1.heap.size, 0, none⟩), .int .u64 (n : Int), .slice (some ⟨w.heap.size, 0, none⟩) (2 * n + 2) (2 * n + 2)] 65)
  have hq0 : w.heap.size ≤ w1.heap.size ∧ w1.heap.size ≠ w.heap.size := by have := Z1.out; omega
  generalize w1.alloc (.cells #[.pointer (some ⟨w1.heap.size, 0, none⟩), .int .u64 (n : Int), .slice (some ⟨w.heap.size, 0, none⟩) (2 * n + 2) (2 * n + 2)] 65) = wb at *
  generalize w1.heap.size = Q at *
  have q0 : Qu wb Q w.heap.size n (mid n 0) := ⟨b2, ⟨bw, fun x hx => by have := (List.mem_replicate.1 hx).2; omega⟩, mid_len n 0, hq0.2, H0.out, by omega⟩
  have Q0 := Lib.hid (show Qu wb Q w.heap.size n (mid n 0) ∧ Keeps (fun b => w.heap.size ≤ b) w wb from ⟨q0, kb⟩)
  have HQ0 := Lib.hid hq0.1
  clear b2 kb bw hq0 q0 hand hmk B1 K1 Z1
  generalize hW : w.heap.size = W at *
  go_loopw [35] (fun i wr => ∃ k : Nat, k ≤ n ∧ i = .int .u64 (k : Int) ∧ Qu wr Q W n (mid n k) ∧ Keeps (fun b => W ≤ b) w wr) (fun i _ => 2000 - (intOf i).toNat)
  case atStart => exact ⟨0, Nat.zero_le _, rfl, Q0.out⟩
  case round =>
    clear Q0
    obtain ⟨k, hk, rfl, hq, hkk⟩ := hrel
    have c1 := hq.cell1
    have c2 := hq.cell2
    have HQ := Lib.hid hq
    have HK := Lib.hid hkk
    by_cases hlt : k < n
    · have hlt' : (k : Int) < (n : Int) := by omega
      have hp := H0.out
      have hsl := seqOf_lt hp k
      have HS := Lib.hid (seq_ Q W n k _ wr.drew hq.drew (by omega))
      have HT := Lib.hid (qstore (N := 0) (gv := .nilIface) (ms := []) (F := fun _ => False) (k := seqOf n k) (v := k) ⟨hq.drew, GF.nil_ _ _ _ _, fun z => z, fun z => z⟩ (by simp) (by omega) (by omega))
      have HM : Hid ((mid n k).set (seqOf n k) k = mid n (k + 1)) := Lib.hid (by rw [seq_mod HN.out, Nat.mod_eq_of_lt hlt]; rfl)
      clear hq hkk hp hsl
      go_wp2_with fail
      go_region_held3 (fun w' => w'.cell? ⟨Q, 2, none⟩ = some (.slice (some ⟨W, 0, none⟩) (2 * n + 2) (2 * n + 2))) (first | exact c2 | exact c2w)
        ((first
          | (go_at_call 23; refine HS.out.mono ?_; rintro e w' ⟨rfl, rfl⟩)
          | (go_at_call 22; refine HT.out.mono ?_; rintro e w2 ⟨rfl, l2⟩; have c2w := l2.qu.cell2; have L2 := Lib.hid l2.of_drew; clear l2)))
      go_wp2_with fail
      go_roundw
      case rel => exact ⟨k + 1, by omega, by go_num, by have := L2.out.qu; rwa [HM.out] at this, HK.out.trans (L2.out.keep.mono (fun b hb z => by rcases z with z | z; omega; exact z.elim))⟩
      case measure => simp [intOf]; omega
    · have hlt' : ¬ (k : Int) < (n : Int) := by omega
      have HE : Hid (k = n) := Lib.hid (by omega)
      clear hq hkk
      go_wp2
      try rw [Exit.noGoto_ret]
      go_ret2
      have hq := HQ.out
      rw [HE.out, mid_end] at hq
      exact ⟨Q, rfl, W, hq, HQ0.out, Nat.le_refl _, fun S => (HK.out.only (fun b z => by omega)).mono (fun b hb z => z.elim)⟩
set_option maxRecDepth 100000 in
set_option maxHeartbeats 2000000 in
theorem new_arg (s : Int) (w : World) (hs : ∀ n ∈ pows, s ≠ (n : Int)) : Calls Try.prog 7 #[.int .i64 s] w fun e w' => e = .returned (.tuple #[.pointer none, .int .i64 2]) ∧ w = w' := by
  rcases Int.lt_or_le s 2 with h | h
  · clear hs
    have hd : decide (s < 2) = true := decide_eq_true h
    go_enter Try.func7, Try.ntmps7
    go_wp2
    try rw [Exit.noGoto_ret]
    go_ret2
    exact ⟨rfl, rfl⟩
  · rcases Int.lt_or_le 1024 s with h2 | h2
    · clear hs
      have hd : decide (s < 2) = false := decide_eq_false (by omega)
      have hd2 : decide (1024 < s) = true := decide_eq_true h2
      go_enter Try.func7, Try.ntmps7
      go_wp2
      try rw [Exit.noGoto_ret]
      go_ret2
      exact ⟨rfl, rfl⟩
    · obtain ⟨n, rfl⟩ := Int.eq_ofNat_of_zero_le (show 0 ≤ s by omega)
      have hand : ¬ bits BinOp.and IntKind.i64 (n : Int) ((n : Int) - 1) = 0 := fun z => hs n ((pow_and ⟨n, by omega⟩ (by show 2 ≤ n; omega)).1 z) rfl
      have hd : decide ((n : Int) < 2) = false := decide_eq_false (by omega)
      have hd2 : decide (1024 < (n : Int)) = false := decide_eq_false (by omega)
      have hne : (bits BinOp.and IntKind.i64 (n : Int) ((n : Int) - 1) != 0) = true := by simpa using hand
      have hne2 : (bits BinOp.and IntKind.i64 (n : Int) ((n : Int) - 1) == 0) = false := by simpa using hand
      clear hs hand
      go_enter Try.func7, Try.ntmps7
      go_wp2
      try rw [Exit.noGoto_ret]
      go_ret2
      exact ⟨rfl, rfl⟩
set_option maxRecDepth 100000 in
set_option maxHeartbeats 1000000 in
theorem slots_ (Q W n : Nat) (ws : List Nat) (w : World) (h : Qu w Q W n ws) : Calls Try.prog 14 #[.pointer (some ⟨Q, 0, none⟩)] w fun e w' => e = .returned (.int .i64 (n : Int)) ∧ w = w' := by
  have HN := Lib.hid (none_ Q W n ws w h)
  have c1 := h.cell1
  have htop := h.top
  clear h
  go_enter Try.func14, Try.ntmps14
  go_wp2_with fail
  refine HN.out.mono ?_
  rintro e w1 ⟨rfl, rfl⟩
  go_wp2
  try rw [Exit.noGoto_ret]
  go_ret
  exact ⟨rfl, rfl⟩
end Go.Proofs.Ytlpgdpdjaoppbaa.qu
