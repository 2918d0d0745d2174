/-
  stack: Push, Pop under a gate; New, Slots.
-/
import Derived.Test.YtjgbbjfphjhdcaaSkOp
set_option linter.unusedVariables false
namespace Go.Proofs.Ytjgbbjfphjhdcaa.sk
open Go.RowKit Go.Proofs.Ytjgbbjfphjhdcaa.oc Go.Proofs.Ytjgbbjfphjhdcaa.mz Go.Proofs.Ytjgbbjfphjhdcaa.at_ Go.Proofs.Ytjgbbjfphjhdcaa.gt Go.Proofs.Ytjgbbjfphjhdcaa.gw
set_option maxRecDepth 100000 in
set_option maxHeartbeats 1000000 in
theorem value_ (i : Nat) (w : World) (h1 : 1 ≤ i) (h2 : i ≤ 1024) :
    Calls Try.prog 18 #[.int .u64 (i : Int)] w fun e w' => e = .returned (.int .i64 ((2 * i + 1 : Nat) : Int)) ∧ w = w' := by
  have HN := Lib.hid (next_ i w h1 h2)
  have e3 : ((2 * i + 1 : Nat) : Int) = wrap64 (((2 * i : Nat) : Int) + 1) := by unfold wrap64; omega
  rw [e3]
  clear h1 h2 e3
  generalize 2 * i = j at *
  go_enter Try.func18, Try.ntmps18
  go_wp2_with fail
  refine HN.out.mono ?_
  rintro e w' ⟨rfl, rfl⟩
  go_wp2
  go_ret
  exact ⟨rfl, rfl⟩
section
variable (Q W n N : Nat) (ws : List Nat) (gv : Value) (ms : List (Nat × Nat)) (F : Nat → Prop) (w : World)
set_option maxRecDepth 100000 in
set_option maxHeartbeats 2000000 in
theorem push_no (v : Int) (s : St w Q W n N ws gv ms F) (hl : ms.length < 800000) (h0 : nd (ws[1]?.getD 0) = 0) :
    Calls Try.prog 8 #[.pointer (some ⟨Q, 0, none⟩), gv, .int .u64 v] w fun e w' => e = .returned (.tuple #[.bool false, .int .i64 0]) ∧ Left Q W n N ws gv (ms ++ [(1, 1)]) F w w' := by
  have HN := Lib.hid (none_ Q W n ws w s.sk)
  have HD := Lib.hid (take_no Q W n N 1 ws gv ms F w s (by omega) (by omega) h0)
  clear s hl h0
  go_enter Try.func8, Try.ntmps8
  go_wp2_with fail
  refine HN.out.mono ?_
  rintro e w' ⟨rfl, rfl⟩
  go_wp2_with fail
  refine HD.out.mono ?_
  rintro e w1 ⟨rfl, l⟩
  have L := Lib.hid l
  clear l
  go_wp2
  try rw [Exit.noGoto_ret]
  go_ret2
  exact ⟨rfl, L.out⟩
set_option maxRecDepth 100000 in
set_option maxHeartbeats 2000000 in
theorem pop_no (s : St w Q W n N ws gv ms F) (hl : ms.length < 800000) (h0 : nd (ws[0]?.getD 0) = 0) :
    Calls Try.prog 9 #[.pointer (some ⟨Q, 0, none⟩), gv] w fun e w' => e = .returned (.tuple #[.int .u64 0, .bool false, .int .i64 0]) ∧ Left Q W n N ws gv (ms ++ [(1, 0)]) F w w' := by
  have HN := Lib.hid (none_ Q W n ws w s.sk)
  have HD := Lib.hid (take_no Q W n N 0 ws gv ms F w s (by omega) (by omega) h0)
  clear s hl h0
  go_enter Try.func9, Try.ntmps9
  go_wp2_with fail
  refine HN.out.mono ?_
  rintro e w' ⟨rfl, rfl⟩
  go_wp2_with fail
  refine HD.out.mono ?_
  rintro e w1 ⟨rfl, l⟩
  have L := Lib.hid l
  clear l
  go_wp2
  try rw [Exit.noGoto_ret]
  go_ret3
  exact ⟨rfl, L.out⟩
set_option maxRecDepth 100000 in
set_option maxHeartbeats 2000000 in
theorem push_yes (v i : Nat) (s : St w Q W n N ws gv ms F) (hl : ms.length < 800000) (h0 : nd (ws[1]?.getD 0) = i) (h1 : 1 ≤ i) (h2 : i ≤ n) (hm2 : ws[2 * i]?.getD 0 ≤ n) (hv : v < 18446744073709551616) :
    Calls Try.prog 8 #[.pointer (some ⟨Q, 0, none⟩), gv, .int .u64 (v : Int)] w fun e w' => e = .returned (.tuple #[.bool true, .int .i64 0]) ∧ Left Q W n N (pushW v ws) gv (ms ++ [(1, 1)] ++ [(1, 2 * i)] ++ [(5, 1)] ++ [(2, 2 * i + 1)] ++ [(1, 0)] ++ [(2, 2 * i)] ++ [(5, 0)]) F w w' := by
  have HN := Lib.hid (none_ Q W n ws w s.sk)
  have ht := s.sk.top
  have hlen := s.sk.len
  have HD := Lib.hid (take_yes Q W n N 1 ws gv ms F w i _ s (by omega) (by omega) h0 h1 h2 rfl (by omega))
  have HV : Hid (∀ w, Calls Try.prog 18 #[.int .u64 (i : Int)] w fun e w' => e = .returned (.int .i64 ((2 * i + 1 : Nat) : Int)) ∧ w = w') := Lib.hid (fun w => value_ i w h1 (by omega))
  have HB : Hid (1 ≤ i ∧ i ≤ n ∧ v < 18446744073709551616 ∧ ms.length < 800000) := Lib.hid ⟨h1, h2, hv, hl⟩
  have HW : Hid ((((ws.set 1 (fol (ws[1]?.getD 0) (ws[2 * i]?.getD 0))).set (2 * i + 1) v)[0]?.getD 0) = ws[0]?.getD 0) := Lib.hid (by rw [List.getElem?_set_ne (by omega), List.getElem?_set_ne (by omega)])
  have HP : Hid (pushW v ws = ((((ws.set 1 (fol (ws[1]?.getD 0) (ws[2 * i]?.getD 0))).set (2 * i + 1) v).set (2 * i) (nd (ws[0]?.getD 0))).set 0 (fol (ws[0]?.getD 0) i))) := Lib.hid (by unfold pushW; simp only [h0])
  have SS := Lib.hid s
  clear s hl h0 h1 h2 hm2 hv ht hlen
  generalize ws.set 1 (fol (ws[1]?.getD 0) (ws[2 * i]?.getD 0)) = ws1 at *
  go_enter Try.func8, Try.ntmps8
  go_wp2_with fail
  refine HN.out.mono ?_
  rintro e w' ⟨rfl, rfl⟩
  go_wp2_with fail
  refine HD.out.mono ?_
  rintro e w1 ⟨rfl, l1⟩
  have s1 := l1.st SS.out
  have c2 := s1.sk.cell2
  have L1 := Lib.hid l1
  have HST := Lib.hid (kstore (k := 2 * i + 1) (v := v) s1.drew (by have := HB.out; simp; omega) (by have := HB.out; omega) HB.out.2.2.1)
  clear l1 s1
  go_wp2_with fail
  go_region_held3 (fun w' => w'.cell? ⟨Q, 2, none⟩ = some (.slice (some ⟨W, 0, none⟩) (2 * n + 2) (2 * n + 2))) (first | exact c2 | exact c2w)
    ((first
      | (go_at_call 18; refine (HV.out _).mono ?_; rintro e w' ⟨rfl, rfl⟩)
      | (go_at_call 11; refine HST.out.mono ?_; rintro e w2 ⟨rfl, l2⟩; have c2w := l2.sk.cell2; have L2 := Lib.hid (L1.out.trans l2.of_drew); clear l2)))
  have s2 := L2.out.st SS.out
  have hla := lay_ Q W n N 0 _ gv _ _ w2 i s2 (by have := HB.out; simp; omega) (by omega) HB.out.1 HB.out.2.1
  rw [HW.out, ← HP.out] at hla
  have HLA := Lib.hid hla
  clear hla s2
  go_wp2_with fail
  refine HLA.out.mono ?_
  rintro e w3 ⟨rfl, l3⟩
  have L3 := Lib.hid (L2.out.trans l3)
  clear l3
  go_wp2
  try rw [Exit.noGoto_ret]
  go_ret2
  exact ⟨rfl, L3.out⟩
set_option maxRecDepth 100000 in
set_option maxHeartbeats 2000000 in
theorem pop_yes (v i : Nat) (s : St w Q W n N ws gv ms F) (hl : ms.length < 800000) (h0 : nd (ws[0]?.getD 0) = i) (h1 : 1 ≤ i) (h2 : i ≤ n) (hm2 : ws[2 * i]?.getD 0 ≤ n) (hv : ws[2 * i + 1]?.getD 0 = v) :
    Calls Try.prog 9 #[.pointer (some ⟨Q, 0, none⟩), gv] w fun e w' => e = .returned (.tuple #[.int .u64 (v : Int), .bool true, .int .i64 0]) ∧ Left Q W n N (popW ws) gv (ms ++ [(1, 0)] ++ [(1, 2 * i)] ++ [(5, 0)] ++ [(1, 2 * i + 1)] ++ [(1, 1)] ++ [(2, 2 * i)] ++ [(5, 1)]) F w w' := by
  have HN := Lib.hid (none_ Q W n ws w s.sk)
  have ht := s.sk.top
  have hlen := s.sk.len
  have HD := Lib.hid (take_yes Q W n N 0 ws gv ms F w i _ s (by omega) (by omega) h0 h1 h2 rfl (by omega))
  have HV : Hid (∀ w, Calls Try.prog 18 #[.int .u64 (i : Int)] w fun e w' => e = .returned (.int .i64 ((2 * i + 1 : Nat) : Int)) ∧ w = w') := Lib.hid (fun w => value_ i w h1 (by omega))
  have HB : Hid (1 ≤ i ∧ i ≤ n ∧ ms.length < 800000) := Lib.hid ⟨h1, h2, hl⟩
  have HX : Hid (((ws.set 0 (fol (ws[0]?.getD 0) (ws[2 * i]?.getD 0)))[2 * i + 1]?.getD 0) = v) := Lib.hid (by rw [List.getElem?_set_ne (by omega)]; exact hv)
  have HW : Hid (((ws.set 0 (fol (ws[0]?.getD 0) (ws[2 * i]?.getD 0)))[1]?.getD 0) = ws[1]?.getD 0) := Lib.hid (by rw [List.getElem?_set_ne (by omega)])
  have HP : Hid (popW ws = (((ws.set 0 (fol (ws[0]?.getD 0) (ws[2 * i]?.getD 0))).set (2 * i) (nd (ws[1]?.getD 0))).set 1 (fol (ws[1]?.getD 0) i))) := Lib.hid (by unfold popW; simp only [h0])
  have SS := Lib.hid s
  clear s hl h0 h1 h2 hm2 hv ht hlen
  generalize ws.set 0 (fol (ws[0]?.getD 0) (ws[2 * i]?.getD 0)) = ws1 at *
  go_enter Try.func9, Try.ntmps9
  go_wp2_with fail
  refine HN.out.mono ?_
  rintro e w' ⟨rfl, rfl⟩
  go_wp2_with fail
  refine HD.out.mono ?_
  rintro e w1 ⟨rfl, l1⟩
  have s1 := l1.st SS.out
  have c2 := s1.sk.cell2
  have L1 := Lib.hid l1
  have hst := kload (k := 2 * i + 1) s1.drew (by have := HB.out; simp; omega) (by have := HB.out; omega)
  rw [HX.out] at hst
  have HST := Lib.hid hst
  clear l1 s1 hst
  go_wp2_with fail
  go_region_held3 (fun w' => w'.cell? ⟨Q, 2, none⟩ = some (.slice (some ⟨W, 0, none⟩) (2 * n + 2) (2 * n + 2))) (first | exact c2 | exact c2w)
    ((first
      | (go_at_call 18; refine (HV.out _).mono ?_; rintro e w' ⟨rfl, rfl⟩)
      | (go_at_call 20; refine HST.out.mono ?_; rintro e w2 ⟨rfl, l2⟩; have c2w := l2.sk.cell2; have L2 := Lib.hid (L1.out.trans l2.of_drew); clear l2)))
  have s2 := L2.out.st SS.out
  have hla := lay_ Q W n N 1 _ gv _ _ w2 i s2 (by have := HB.out; simp; omega) (by omega) HB.out.1 HB.out.2.1
  rw [HW.out, ← HP.out] at hla
  have HLA := Lib.hid hla
  clear hla s2
  go_wp2_with fail
  refine HLA.out.mono ?_
  rintro e w3 ⟨rfl, l3⟩
  have L3 := Lib.hid (L2.out.trans l3)
  clear l3
  go_wp2
  try rw [Exit.noGoto_ret]
  go_ret3
  exact ⟨rfl, L3.out⟩
end
def pows : List Nat := [1, 2, 4, 8, 16, 32, 64, 128, 256, 512, 1024]
theorem pows_le {n : Nat} (h : n ∈ pows) : 1 ≤ n ∧ n ≤ 1024 := by
  simp [pows] at h
  omega
theorem pow_and : ∀ n : Fin 1025, 1 ≤ n.val → (bits BinOp.and IntKind.i64 (n.val : Int) ((n.val : Int) - 1) = 0 ↔ n.val ∈ pows) := by decide +kernel
theorem word_info : (Try.prog.info? 62).map (fun i => (i.zero.map Value.cells, i.size, decide (i.bytes ≤ 8))) = some (some #[.int .u64 0], 1, true) := by kernel_rfl
theorem make_words (n : Nat) (w : World) (hn : n ≤ 3000) :
    (Instr.makeSlice 39 (.int .i64 (n : Int)) (.int .i64 (n : Int))).run Try.prog w = .ok (.slice (some ⟨w.heap.size, 0, none⟩) n n) (w.alloc (.cells (madeCells #[.int .u64 0] n) 62)) := by
  obtain ⟨i0, hi0, hx⟩ := Option.map_eq_some_iff.1 word_info
  simp only [Prod.mk.injEq, decide_eq_true_eq] at hx
  obtain ⟨hz0, hsz, hby⟩ := hx
  obtain ⟨z, hz, hzc⟩ := Option.map_eq_some_iff.1 hz0
  have h := run_make (P := Try.prog) w 39 62 i0 z Try.underlying39 hi0 hz .i64 .i64 (n : Int) (n : Int) (by omega) (Int.le_refl _) (by
    have q : i0.bytes * n ≤ 8 * 3000 := Nat.mul_le_mul hby hn
    have : ((i0.bytes * n : Nat) : Int) ≤ 281474976710656 := by omega
    rwa [Int.natCast_mul] at this) (by omega)
  rw [hsz, hzc] at h
  simpa using h
theorem made_u64s (n : Nat) : (madeCells #[.int .u64 0] n).toList = u64s (List.replicate n 0) := by
  apply List.ext_getElem?
  intro i
  simp only [madeCells, u64s, Array.toList_map, Array.toList_range, List.getElem?_map, List.getElem?_replicate]
  by_cases h : i < n
  · simp [h, Nat.mod_one]
  · simp [h]
set_option maxRecDepth 100000 in
set_option maxHeartbeats 1000000 in
theorem slots_ (Q W n : Nat) (ws : List Nat) (w : World) (h : Sk w Q W n ws) : Calls Try.prog 7 #[.pointer (some ⟨Q, 0, none⟩)] w fun e w' => e = .returned (.int .i64 (n : Int)) ∧ w = w' := by
  have HN := Lib.hid (none_ Q W n ws w h)
  have c1 := h.cell1
  have htop := h.top
  clear h
  go_enter Try.func7, Try.ntmps7
  go_wp2_with fail
  refine HN.out.mono ?_
  rintro e w1 ⟨rfl, rfl⟩
  go_wp2
  try rw [Exit.noGoto_ret]
  go_ret
  exact ⟨rfl, rfl⟩
set_option maxRecDepth 100000 in
set_option maxHeartbeats 2000000 in
theorem new_arg (s : Int) (w : World) (hs : ∀ n ∈ pows, s ≠ (n : Int)) : Calls Try.prog 5 #[.int .i64 s] w fun e w' => e = .returned (.tuple #[.pointer none, .int .i64 2]) ∧ w = w' := by
  rcases Int.lt_or_le s 1 with h | h
  · clear hs
    have hd : decide (s < 1) = true := decide_eq_true h
    go_enter Try.func5, Try.ntmps5
    go_wp2
    try rw [Exit.noGoto_ret]
    go_ret2
    exact ⟨rfl, rfl⟩
  · rcases Int.lt_or_le 1024 s with h2 | h2
    · clear hs
      have hd : decide (s < 1) = false := decide_eq_false (by omega)
      have hd2 : decide (1024 < s) = true := decide_eq_true h2
      go_enter Try.func5, Try.ntmps5
      go_wp2
      try rw [Exit.noGoto_ret]
      go_ret2
      exact ⟨rfl, rfl⟩
    · obtain ⟨n, rfl⟩ := Int.eq_ofNat_of_zero_le (show 0 ≤ s by omega)
      have hand : ¬ bits BinOp.and IntKind.i64 (n : Int) ((n : Int) - 1) = 0 := fun z => hs n ((pow_and ⟨n, by omega⟩ (by show 1 ≤ n; omega)).1 z) rfl
      have hd : decide ((n : Int) < 1) = false := decide_eq_false (by omega)
      have hd2 : decide (1024 < (n : Int)) = false := decide_eq_false (by omega)
      have hne : (bits BinOp.and IntKind.i64 (n : Int) ((n : Int) - 1) != 0) = true := by simpa using hand
      have hne2 : (bits BinOp.and IntKind.i64 (n : Int) ((n : Int) - 1) == 0) = false := by simpa using hand
      clear hs hand
      go_enter Try.func5, Try.ntmps5
      go_wp2
      try rw [Exit.noGoto_ret]
      go_ret2
      exact ⟨rfl, rfl⟩
end Go.Proofs.Ytjgbbjfphjhdcaa.sk
