/-
  patchbayref09's codes in memory. patchbayref09's Move, Fails, Words, World in memory. patchbayref09's Fails, Words, World in memory.
-/
import Derived.Test.YtebjmmckejbklaaRf9p
import Derived.Test.YtebjmmckejbklaaMzMade
import Derived.Deep.OwnRows
import Derived.Deep.LoopGhost
import Derived.WalkMore
set_option linter.unusedVariables false
namespace Go.Proofs.Ytebjmmckejbklaa.rf9
open Go.RowKit Go.Proofs.Ytebjmmckejbklaa.oc Go.Proofs.Ytebjmmckejbklaa.mz
set_option maxRecDepth 100000 in
set_option maxHeartbeats 4000000 in
theorem now_code (w : World) : Calls Try.prog 27 #[] w (CallMade w nowCode) := by
  go_enter Try.func27, Try.ntmps27
  go_wp2
  change bodyPost Try.prog _ _ Exit.ret _ ((w.alloc (.cells #[.slice (some ⟨w.heap.size + 1, 0, none⟩) 2 2, .slice none 0 0] 46)).alloc (.cells (nowCode.flatMap Ins.cells).toArray 119))
  obtain ⟨r0, r1, hc, hk⟩ := code_end w nowCode 2 rfl
  generalize ((w.alloc (.cells #[.slice (some ⟨w.heap.size + 1, 0, none⟩) 2 2, .slice none 0 0] 46)).alloc (.cells (nowCode.flatMap Ins.cells).toArray 119)) = wx at r0 r1 hc hk ⊢
  refine bodyPost_ret (v := .agg #[.slice (some ⟨w.heap.size + 1, 0, none⟩) 2 2, .slice none 0 0]) (by simp [results, Try.results27, go_sem, r0, r1]) rfl ?_
  exact ⟨_, _, rfl, fun w'' kk => ⟨hc w'' kk, ⟨none, 0, rfl, fun k u hk => by simp [u64s] at hk⟩⟩, hk⟩
set_option maxRecDepth 100000 in
set_option maxHeartbeats 4000000 in
theorem safe_code (q : Nat) (w : World) : Calls Try.prog 32 #[.int .u64 (q : Int)] w (CallMade w (safeCode q)) := by
  go_enter Try.func32, Try.ntmps32
  go_wp2
  change bodyPost Try.prog _ _ Exit.ret _ ((w.alloc (.cells #[.slice (some ⟨w.heap.size + 1, 0, none⟩) 9 9, .slice none 0 0] 46)).alloc (.cells ((safeCode q).flatMap Ins.cells).toArray 119))
  obtain ⟨r0, r1, hc, hk⟩ := code_end w (safeCode q) 9 rfl
  generalize ((w.alloc (.cells #[.slice (some ⟨w.heap.size + 1, 0, none⟩) 9 9, .slice none 0 0] 46)).alloc (.cells ((safeCode q).flatMap Ins.cells).toArray 119)) = wx at r0 r1 hc hk ⊢
  refine bodyPost_ret (v := .agg #[.slice (some ⟨w.heap.size + 1, 0, none⟩) 9 9, .slice none 0 0]) (by simp [results, Try.results32, go_sem, r0, r1]) rfl ?_
  exact ⟨_, _, rfl, fun w'' kk => ⟨hc w'' kk, ⟨none, 0, rfl, fun k u hk => by simp [u64s] at hk⟩⟩, hk⟩
set_option maxRecDepth 100000 in
set_option maxHeartbeats 4000000 in
theorem pincode_ (k : Nat) (w : World) (hk : k < 16) : Calls Try.prog 45 #[.int .i64 0, .int .i64 (k : Int), .int .i64 0, .int .i64 0, .int .i64 1] w fun e w' => e = .returned (.slice (some ⟨w.heap.size, 0, none⟩) 13 13) ∧ Blk w' w.heap.size 119 ((pinAt k).flatMap Ins.cells) ∧ (∀ S, Keeps S w w') := by
  have n1 : (k : Int) < 16 := by omega
  have n2 : (0 : Int) ≤ (k : Int) := by omega
  have HN := Lib.hid (show 1 + (k : Int) = ((k + 1 : Nat) : Int) by omega)
  clear hk
  go_enter Try.func45, Try.ntmps45
  go_wp2
  rw [HN.out]
  go_ret
  exact ⟨rfl, Blk.new w _ ((pinAt k).flatMap Ins.cells).toArray, fun S => (Keeps.refl S w).alloc _⟩
set_option maxRecDepth 100000 in
set_option maxHeartbeats 4000000 in
theorem unpincode_ (k : Nat) (w : World) (hk : k < 16) : Calls Try.prog 46 #[.int .i64 0, .int .i64 (k : Int), .int .i64 0, .int .i64 1] w fun e w' => e = .returned (.slice (some ⟨w.heap.size, 0, none⟩) 5 5) ∧ Blk w' w.heap.size 119 ((unpinAt k).flatMap Ins.cells) ∧ (∀ S, Keeps S w w') := by
  have n1 : (k : Int) < 16 := by omega
  have n2 : (0 : Int) ≤ (k : Int) := by omega
  have HN := Lib.hid (show 1 + (k : Int) = ((k + 1 : Nat) : Int) by omega)
  clear hk
  go_enter Try.func46, Try.ntmps46
  go_wp2
  rw [HN.out]
  go_ret
  exact ⟨rfl, Blk.new w _ ((unpinAt k).flatMap Ins.cells).toArray, fun S => (Keeps.refl S w).alloc _⟩
set_option maxRecDepth 100000 in
set_option maxHeartbeats 4000000 in
theorem pin_code (k : Nat) (w : World) (hk : k < 16) : Calls Try.prog 29 #[.int .i64 (k : Int)] w (CallMade w (pinCode k)) := by
  obtain ⟨w2, hw2, k2, b2⟩ := enter_blk w #[.slice none 0 0, .slice none 0 0] 46
  have HP := Lib.hid (pincode_ k w2 hk)
  have HW := Lib.hid hw2
  have K2 : Hid (∀ S, Keeps S w w2) := Lib.hid k2
  have B2 := Lib.hid b2
  clear hw2 hk k2 b2
  go_enter Try.func29, Try.ntmps29
  go_wp2_with fail
  rw [← HW.out]
  go_wp2_with fail
  refine HP.out.mono ?_
  rintro e w3 ⟨rfl, b3, k3⟩
  have m4 : Mk w w3 (.slice (some ⟨w2.heap.size, 0, none⟩) 13 13) (pinAt k) := Mk.start (Blk.keeps B2.out (k3 (fun _ => False)) (fun z => z)) b3 rfl B2.out.lt (by omega) (fun S => (K2.out S).trans (k3 S))
  have b5 := Blk.new w3 119 (([⟨22, 0, 0, 0, 0, 0, 0⟩, ⟨22, 0, 1, 0, 0, 0, 0⟩] : List Ins).flatMap Ins.cells).toArray
  have M4 := Lib.hid (m4.alloc (.cells (([⟨22, 0, 0, 0, 0, 0, 0⟩, ⟨22, 0, 1, 0, 0, 0, 0⟩] : List Ins).flatMap Ins.cells).toArray 119))
  have B5 := Lib.hid b5
  clear b3 k3 m4 b5
  go_wp2_with (at_builtin; refine Mk.wpList_append rfl _ _ rfl M4.out rfl w3.heap.size 2 2 [⟨22, 0, 0, 0, 0, 0, 0⟩, ⟨22, 0, 1, 0, 0, 0, 0⟩] rfl rfl B5.out (by simp [pinAt]) ?_; intro v6 w6 m6; obtain ⟨g6, c6, rfl⟩ := m6.form (n := 15) rfl (by omega); have b6 := m6.res; have f0 := b6.frozen 0; have f1 := b6.frozen 1; have x0 : w6.cell? ⟨w.heap.size, 0, none⟩ = some (.slice none 0 0) := (by rw [b6.cell]; rfl); have x1 : w6.cell? ⟨w.heap.size, 1, none⟩ = some (.slice none 0 0) := (by rw [b6.cell]; rfl); have M6 := Lib.hid m6; clear m6 b6)
  obtain ⟨r0, r1, hk⟩ := M6.out.end_ rfl (by simp)
  refine bodyPost_ret (v := .agg #[.slice (some ⟨g6, 0, none⟩) 15 c6, .slice none 0 0]) (by simp [results, Try.results29, go_sem, r0, r1]) rfl hk
set_option maxRecDepth 100000 in
set_option maxHeartbeats 4000000 in
theorem unpin_code (k : Nat) (w : World) (hk : k < 16) : Calls Try.prog 30 #[.int .i64 (k : Int)] w (CallMade w (unpinCode k)) := by
  obtain ⟨w2, hw2, k2, b2⟩ := enter_blk w #[.slice none 0 0, .slice none 0 0] 46
  have HP := Lib.hid (unpincode_ k w2 hk)
  have HW := Lib.hid hw2
  have K2 : Hid (∀ S, Keeps S w w2) := Lib.hid k2
  have B2 := Lib.hid b2
  clear hw2 hk k2 b2
  go_enter Try.func30, Try.ntmps30
  go_wp2_with fail
  rw [← HW.out]
  go_wp2_with fail
  refine HP.out.mono ?_
  rintro e w3 ⟨rfl, b3, k3⟩
  have m4 : Mk w w3 (.slice (some ⟨w2.heap.size, 0, none⟩) 5 5) (unpinAt k) := Mk.start (Blk.keeps B2.out (k3 (fun _ => False)) (fun z => z)) b3 rfl B2.out.lt (by omega) (fun S => (K2.out S).trans (k3 S))
  have b5 := Blk.new w3 119 (([⟨22, 0, 1, 0, 0, 0, 0⟩] : List Ins).flatMap Ins.cells).toArray
  have M4 := Lib.hid (m4.alloc (.cells (([⟨22, 0, 1, 0, 0, 0, 0⟩] : List Ins).flatMap Ins.cells).toArray 119))
  have B5 := Lib.hid b5
  clear b3 k3 m4 b5
  go_wp2_with (at_builtin; refine Mk.wpList_append rfl _ _ rfl M4.out rfl w3.heap.size 1 1 [⟨22, 0, 1, 0, 0, 0, 0⟩] rfl rfl B5.out (by simp [unpinAt]) ?_; intro v6 w6 m6; obtain ⟨g6, c6, rfl⟩ := m6.form (n := 6) rfl (by omega); have b6 := m6.res; have f0 := b6.frozen 0; have f1 := b6.frozen 1; have x0 : w6.cell? ⟨w.heap.size, 0, none⟩ = some (.slice none 0 0) := (by rw [b6.cell]; rfl); have x1 : w6.cell? ⟨w.heap.size, 1, none⟩ = some (.slice none 0 0) := (by rw [b6.cell]; rfl); have M6 := Lib.hid m6; clear m6 b6)
  obtain ⟨r0, r1, hk⟩ := M6.out.end_ rfl (by simp)
  refine bodyPost_ret (v := .agg #[.slice (some ⟨g6, 0, none⟩) 6 c6, .slice none 0 0]) (by simp [results, Try.results30, go_sem, r0, r1]) rfl hk
end Go.Proofs.Ytebjmmckejbklaa.rf9
set_option linter.unusedVariables false
namespace Go.Proofs.Ytebjmmckejbklaa.rf9
open Go.RowKit Go.Proofs.Ytebjmmckejbklaa.oc Go.Proofs.Ytebjmmckejbklaa.mz Go.Proofs.Ytebjmmckejbklaa.ep
set_option maxRecDepth 100000 in
set_option maxHeartbeats 4000000 in
theorem movecode_ (n : Nat) (w0 w : World) (h1 : 1 ≤ n) (hn : n ≤ 16) (hr : Blk w w0.heap.size 46 [.slice none 0 0, .slice none 0 0]) (k0 : ∀ S, Keeps S w0 w) :
    Calls Try.prog 47 #[.int .i64 0, .int .i64 (n : Int), .int .i64 0, .int .i64 0, .int .i64 1] w fun e w' => ∃ g c, e = .returned (.slice (some ⟨g, 0, none⟩) (4 * n + 7) c) ∧ Mk w0 w' (.slice (some ⟨g, 0, none⟩) (4 * n + 7) c) (moveAt n) := by
  have n1 : (n : Int) ≤ 16 := by omega
  have n2 : (1 : Int) ≤ (n : Int) := by omega
  have hz := hr.lt
  have b1 := Blk.new w 119 (moveHead.flatMap Ins.cells).toArray
  have M0 := Lib.hid (Mk.start (w := w0) (wi := w.alloc (.cells (moveHead.flatMap Ins.cells).toArray 119)) (g := w.heap.size) (n := 3) (code := moveHead) (hr.alloc _) b1 rfl hz (by omega) (fun S => (k0 S).alloc _))
  have HN := Lib.hid (show 1 ≤ n ∧ n ≤ 16 from ⟨h1, hn⟩)
  obtain ⟨E, hE⟩ : ∃ E, E = 4 * n + 7 := ⟨_, rfl⟩
  have HE := Lib.hid (show 3 + 4 * (n : Int) + 4 = (E : Int) by omega)
  have HE2 := Lib.hid hE
  clear h1 hn hr k0 hz b1 hE
  go_enter Try.func47, Try.ntmps47
  go_wp2_with fail
  rw [HE.out]
  go_loopw [13, 14] (fun v i wr => ∃ k : Nat, k ≤ n ∧ i = .int .i64 (k : Int) ∧ Mk w0 wr v (moveHead ++ quads E 0 k)) (fun _ i _ => 100 - (intOf i).toNat)
  case atStart => exact ⟨0, Nat.zero_le _, rfl, by rw [show quads E 0 0 = [] from rfl, List.append_nil]; exact M0.out⟩
  case round =>
    clear M0
    obtain ⟨k, hk, rfl, hm⟩ := hrel
    have hlen : (moveHead ++ quads E 0 k).length = 4 * k + 3 := by simp [moveHead, quads_len]
    obtain ⟨L, hL⟩ : ∃ L, 4 * k + 3 = L := ⟨_, rfl⟩
    rw [hL] at hlen
    obtain ⟨g, c, hu⟩ := hm.form hlen (by omega)
    subst hu
    have k0 : (0 : Int) ≤ (k : Int) := by omega
    have hn16 := HN.out
    by_cases hlt : k < n
    · have hlt' : (k : Int) < (n : Int) := by omega
      have k16 : (k : Int) < 16 := by omega
      have l0 : (0 : Int) ≤ (L : Int) := by omega
      have l1 : (L : Int) ≤ 100 := by omega
      have M := Lib.hid (hm.alloc (.cells (([⟨1, 0, 19, 9, 0, 0, 1 + k⟩, ⟨19, 0, 19, 9, 0, 0, L + 4⟩, ⟨19, 0, 19, 17, 0, 0, L + 4⟩, ⟨18, 0, 0, 0, 0, 0, E⟩] : List Ins).flatMap Ins.cells).toArray 119))
      have B := Lib.hid (Blk.new wr 119 (([⟨1, 0, 19, 9, 0, 0, 1 + k⟩, ⟨19, 0, 19, 9, 0, 0, L + 4⟩, ⟨19, 0, 19, 17, 0, 0, L + 4⟩, ⟨18, 0, 0, 0, 0, 0, E⟩] : List Ins).flatMap Ins.cells).toArray)
      have HL := Lib.hid (show (moveHead ++ quads E 0 k).length + 4 ≤ 1000 by rw [hlen]; omega)
      have HQ := Lib.hid (show (moveHead ++ quads E 0 k) ++ [⟨1, 0, 19, 9, 0, 0, 1 + k⟩, ⟨19, 0, 19, 9, 0, 0, L + 4⟩, ⟨19, 0, 19, 17, 0, 0, L + 4⟩, ⟨18, 0, 0, 0, 0, 0, E⟩] = moveHead ++ quads E 0 (k + 1) by rw [quads_snoc, Nat.zero_add, ← List.append_assoc, ← hL, quad, Nat.add_comm 1 k])
      clear hm hlen hL hk hn16
      go_wp2_with (at_builtin; refine Mk.wpList_append rfl _ _ rfl M.out rfl wr.heap.size 4 4 [⟨1, 0, 19, 9, 0, 0, 1 + k⟩, ⟨19, 0, 19, 9, 0, 0, L + 4⟩, ⟨19, 0, 19, 17, 0, 0, L + 4⟩, ⟨18, 0, 0, 0, 0, 0, E⟩] rfl rfl B.out HL.out ?_; intro v2 w2 m2; have M2 := Lib.hid m2; clear m2)
      go_roundw
      case rel => exact ⟨k + 1, by omega, by go_num, by have := M2.out; rwa [HQ.out] at this⟩
      case measure => simp [intOf]; omega
    · have hlt' : ¬ (k : Int) < (n : Int) := by omega
      obtain rfl : k = n := by omega
      have M := Lib.hid (hm.alloc (.cells (([⟨8, 0, 18, 17, 9, 0, 1⟩, ⟨5, 0, 1, 9, 17, 18, 0⟩, ⟨19, 0, 1, 9, 0, 0, E⟩, ⟨7, 0, 0, 18, 0, 0, 0⟩] : List Ins).flatMap Ins.cells).toArray 119))
      have B := Lib.hid (Blk.new wr 119 (([⟨8, 0, 18, 17, 9, 0, 1⟩, ⟨5, 0, 1, 9, 17, 18, 0⟩, ⟨19, 0, 1, 9, 0, 0, E⟩, ⟨7, 0, 0, 18, 0, 0, 0⟩] : List Ins).flatMap Ins.cells).toArray)
      have HL := Lib.hid (show (moveHead ++ quads E 0 k).length + 4 ≤ 1000 by rw [hlen]; omega)
      have HLL := Lib.hid hL
      clear hm hlen hL hk hn16
      go_wp2_with (at_builtin; refine Mk.wpList_append rfl _ _ rfl M.out rfl wr.heap.size 4 4 [⟨8, 0, 18, 17, 9, 0, 1⟩, ⟨5, 0, 1, 9, 17, 18, 0⟩, ⟨19, 0, 1, 9, 0, 0, E⟩, ⟨7, 0, 0, 18, 0, 0, 0⟩] rfl rfl B.out HL.out ?_; intro v2 w2 m2; have M2 := Lib.hid m2; clear m2)
      try rw [Exit.noGoto_ret]
      go_ret
      have m := M2.out
      rw [HE2.out] at m
      obtain ⟨g6, c6, e6⟩ := m.form (n := 4 * k + 7) (move_len k).1 (by omega)
      subst e6
      exact ⟨g6, c6, rfl, m⟩
set_option maxRecDepth 100000 in
set_option maxHeartbeats 4000000 in
theorem move_code (n : Nat) (w : World) (h1 : 1 ≤ n) (hn : n ≤ 16) : Calls Try.prog 31 #[.int .i64 (n : Int)] w (CallMade w (moveCode n)) := by
  obtain ⟨w2, hw2, k2, b2⟩ := enter_blk w #[.slice none 0 0, .slice none 0 0] 46
  have HP := Lib.hid (movecode_ n w w2 h1 hn b2 k2)
  have HW := Lib.hid hw2
  have HLN := Lib.hid (show (moveAt n).length + 2 ≤ 1000 by rw [(move_len n).1]; omega)
  clear hw2 k2 b2 h1 hn
  go_enter Try.func31, Try.ntmps31
  go_wp2_with fail
  rw [← HW.out]
  go_wp2_with fail
  refine HP.out.mono ?_
  rintro e w3 ⟨g, c, rfl, m4⟩
  have b5 := Blk.new w3 119 (([⟨22, 0, 0, 0, 0, 0, 0⟩, ⟨22, 0, 1, 0, 0, 0, 0⟩] : List Ins).flatMap Ins.cells).toArray
  have M4 := Lib.hid (m4.alloc (.cells (([⟨22, 0, 0, 0, 0, 0, 0⟩, ⟨22, 0, 1, 0, 0, 0, 0⟩] : List Ins).flatMap Ins.cells).toArray 119))
  have B5 := Lib.hid b5
  clear m4 b5
  go_wp2_with (at_builtin; refine Mk.wpList_append rfl _ _ rfl M4.out rfl w3.heap.size 2 2 [⟨22, 0, 0, 0, 0, 0, 0⟩, ⟨22, 0, 1, 0, 0, 0, 0⟩] rfl rfl B5.out HLN.out ?_; intro v6 w6 m6; obtain ⟨g6, c6, rfl⟩ := m6.form (n := 4 * n + 9) (move_len n).2 (by omega); have b6 := m6.res; have f0 := b6.frozen 0; have f1 := b6.frozen 1; have x0 : w6.cell? ⟨w.heap.size, 0, none⟩ = some (.slice none 0 0) := (by rw [b6.cell]; rfl); have x1 : w6.cell? ⟨w.heap.size, 1, none⟩ = some (.slice none 0 0) := (by rw [b6.cell]; rfl); have M6 := Lib.hid m6; clear m6 b6)
  obtain ⟨r0, r1, hk⟩ := M6.out.end_ (move_len n).2 (by omega)
  refine bodyPost_ret (v := .agg #[.slice (some ⟨g6, 0, none⟩) (4 * n + 9) c6, .slice none 0 0]) (by simp [results, Try.results31, go_sem, r0, r1]) rfl hk
end Go.Proofs.Ytebjmmckejbklaa.rf9
set_option linter.unusedVariables false
namespace Go.Proofs.Ytebjmmckejbklaa.rf9
open Go.RowKit Go.Proofs.Ytebjmmckejbklaa.oc Go.Proofs.Ytebjmmckejbklaa.mz Go.Proofs.Ytebjmmckejbklaa.ep
/-- a builder's variable of a call: the code so far stands in it -/
structure Cv (w wi : World) (C g n c : Nat) (code : List Ins) : Prop where
  cd : Mk w wi (.slice (some ⟨g, 0, none⟩) n c) code
  blk : Blk wi C 46 [.slice (some ⟨g, 0, none⟩) n c, .slice none 0 0]
  far : g ≠ C
  new : w.heap.size < C
theorem Cv.alloc {w wi : World} {C g n c : Nat} {code : List Ins} (h : Cv w wi C g n c code) (o : Obj) : Cv w (wi.alloc o) C g n c code := ⟨h.cd.alloc o, h.blk.alloc o, h.far, h.new⟩
theorem Cv.stored {w wi w6 : World} {C g n c g6 n6 c6 : Nat} {code code6 : List Ins} (h : Cv w wi C g n c code) (m6 : Mk w w6 (.slice (some ⟨g6, 0, none⟩) n6 c6) code6) (kk : Keeps (fun b => (Value.slice (some ⟨g, 0, none⟩) n c).ownBlock = some b) wi w6)
    (hat : (Value.slice (some ⟨g6, 0, none⟩) n6 c6).ownBlock = (Value.slice (some ⟨g, 0, none⟩) n c).ownBlock ∨ (Value.slice (some ⟨g6, 0, none⟩) n6 c6).ownBlock = some wi.heap.size) :
    Blk w6 C 46 [.slice (some ⟨g, 0, none⟩) n c, .slice none 0 0] ∧ Cv w (w6.setCell ⟨C, 0, none⟩ (.slice (some ⟨g6, 0, none⟩) n6 c6)) C g6 n6 c6 code6 := by
  have b6 := Blk.keeps h.blk kk (fun e => by have := h.far; injection e with e; exact this e)
  have hg6 : g6 ≠ C := by
    rcases hat with e | e
    · injection e with e
      have e : g6 = g := e
      rw [e]; exact h.far
    · injection e with e
      have e : g6 = wi.heap.size := e
      have := h.blk.lt
      rw [e]; omega
  have kC : Keeps (· = C) w6 (w6.setCell ⟨C, 0, none⟩ (.slice (some ⟨g6, 0, none⟩) n6 c6)) := Keeps.here _
  refine ⟨b6, ⟨⟨Blk.keeps m6.res kC (by have := h.new; omega), owns_keeps m6.own kC (fun b hb e => by injection hb with hb; subst hb; exact hg6 e), fun S => ?_⟩, by simpa using b6.put 0 (.slice (some ⟨g6, 0, none⟩) n6 c6), hg6, h.new⟩⟩
  have k1 := m6.keep S
  exact ⟨Nat.le_trans k1.size kC.size, fun b hb hs => by rw [kC.block b (Nat.lt_of_lt_of_le hb k1.size) (by have := h.new; omega), k1.block b hb hs], k1.same.trans kC.same⟩
theorem cv_begin (w : World) (code : List Ins) (n : Nat) (hn : code.length = n) (hl : n ≤ 1000) (w2 : World) (hw2 : w2 = ((w.alloc (.cells #[.slice none 0 0, .slice none 0 0] 46)).alloc (.cells (code.flatMap Ins.cells).toArray 119)).alloc (.cells #[.slice (some ⟨w.heap.size + 1, 0, none⟩) n n, .slice none 0 0] 46)) : Cv w w2 (w.heap.size + 1 + 1) (w.heap.size + 1) n n code := by
  have b1 : Blk w2 w.heap.size 46 [.slice none 0 0, .slice none 0 0] := by rw [hw2]; exact ((Blk.new w _ _).alloc _).alloc _
  have b2 : Blk w2 (w.heap.size + 1) 119 (code.flatMap Ins.cells) := by
    have := (Blk.new (w.alloc (.cells #[.slice none 0 0, .slice none 0 0] 46)) 119 (code.flatMap Ins.cells).toArray).alloc (.cells #[.slice (some ⟨w.heap.size + 1, 0, none⟩) n n, .slice none 0 0] 46)
    rw [World.size_alloc] at this
    rw [hw2]; exact this
  have b3 : Blk w2 (w.heap.size + 1 + 1) 46 [.slice (some ⟨w.heap.size + 1, 0, none⟩) n n, .slice none 0 0] := by
    have := Blk.new ((w.alloc (.cells #[.slice none 0 0, .slice none 0 0] 46)).alloc (.cells (code.flatMap Ins.cells).toArray 119)) 46 #[.slice (some ⟨w.heap.size + 1, 0, none⟩) n n, .slice none 0 0]
    rw [World.size_alloc, World.size_alloc] at this
    rw [hw2]; exact this
  exact ⟨Mk.start b1 b2 hn (by omega) hl (fun S => by rw [hw2]; exact (((Keeps.refl S w).alloc _).alloc _).alloc _), b3, by omega, by omega⟩
set_option maxRecDepth 100000 in
set_option maxHeartbeats 4000000 in
theorem fails0_code (w : World) : Calls Try.prog 28 #[.int .i64 0, .int .u64 5] w (CallMade w (failsCode 0 5)) := by
  obtain ⟨w2, hw2⟩ : ∃ w2, w2 = ((w.alloc (.cells #[.slice none 0 0, .slice none 0 0] 46)).alloc (.cells (([⟨6, 0, 20, 0, 0, 0, 5⟩] : List Ins).flatMap Ins.cells).toArray 119)).alloc (.cells #[.slice (some ⟨w.heap.size + 1, 0, none⟩) 1 1, .slice none 0 0] 46) := ⟨_, rfl⟩
  have cv := cv_begin w [⟨6, 0, 20, 0, 0, 0, 5⟩] 1 rfl (by omega) w2 hw2
  have HW : Hid (w2 = ((w.alloc (.cells #[.slice none 0 0, .slice none 0 0] 46)).alloc (.cells #[.int .i64 6, .int .i64 0, .int .i64 20, .int .i64 0, .int .i64 0, .int .i64 0, .int .u64 5] 119)).alloc (.cells #[.slice (some ⟨w.heap.size + 1, 0, none⟩) 1 1, .slice none 0 0] 46)) := Lib.hid hw2
  clear hw2
  go_enter Try.func28, Try.ntmps28
  go_wp2_with fail
  rw [← HW.out]
  have c0 : w2.cell? ⟨w.heap.size + 1 + 1, 0, none⟩ = some (.slice (some ⟨w.heap.size + 1, 0, none⟩) 1 1) := by rw [cv.blk.cell]; rfl
  have c1 : w2.cell? ⟨w.heap.size + 1 + 1, 1, none⟩ = some (.slice none 0 0) := by rw [cv.blk.cell]; rfl
  have cf := cv.blk.frozen 0
  have CV := Lib.hid (cv.alloc (.cells (([⟨22, 0, 20, 0, 0, 0, 0⟩] : List Ins).flatMap Ins.cells).toArray 119))
  have B5 := Lib.hid (Blk.new w2 119 (([⟨22, 0, 20, 0, 0, 0, 0⟩] : List Ins).flatMap Ins.cells).toArray)
  clear cv
  refine wp_loop_rounds 1 ?_
  rw [rounds_succ]
  go_wp2_with (at_builtin; refine Mk.wpList_append2 rfl _ _ rfl CV.out.cd rfl w2.heap.size 1 1 [⟨22, 0, 20, 0, 0, 0, 0⟩] rfl rfl B5.out (by simp) ?_; intro v6 w6 m6 kk6 hat6; obtain ⟨g6, c6, rfl⟩ := m6.form (n := 2) rfl (by omega); obtain ⟨b6, cv6⟩ := Cv.stored CV.out m6 kk6 hat6; have f0 := b6.frozen 0; have f1 := b6.frozen 1; have x0 : w6.cell? ⟨w.heap.size + 1 + 1, 0, none⟩ = some (.slice (some ⟨w.heap.size + 1, 0, none⟩) 1 1) := (by rw [b6.cell]; rfl); have x1 : w6.cell? ⟨w.heap.size + 1 + 1, 1, none⟩ = some (.slice none 0 0) := (by rw [b6.cell]; rfl); have br := m6.res; have y0 : w6.cell? ⟨w.heap.size, 0, none⟩ = some (.slice none 0 0) := (by rw [br.cell]; rfl); have y1 : w6.cell? ⟨w.heap.size, 1, none⟩ = some (.slice none 0 0) := (by rw [br.cell]; rfl); have yf0 := br.frozen 0; have yf1 := br.frozen 1; have C6 := Lib.hid cv6; clear m6 b6 kk6 hat6 cv6 br)
  obtain ⟨r0, r1, hk⟩ := C6.out.cd.end_ rfl (by omega)
  refine bodyPost_ret (v := .agg #[.slice (some ⟨g6, 0, none⟩) 2 c6, .slice none 0 0]) (by simp [results, Try.results28, go_sem, r0, r1]) rfl hk
set_option maxRecDepth 100000 in
set_option maxHeartbeats 4000000 in
theorem fails1_code (w : World) : Calls Try.prog 28 #[.int .i64 1, .int .u64 5] w (CallMade w (failsCode 1 5)) := by
  obtain ⟨w2, hw2⟩ : ∃ w2, w2 = ((w.alloc (.cells #[.slice none 0 0, .slice none 0 0] 46)).alloc (.cells (([⟨6, 0, 20, 0, 0, 0, 5⟩] : List Ins).flatMap Ins.cells).toArray 119)).alloc (.cells #[.slice (some ⟨w.heap.size + 1, 0, none⟩) 1 1, .slice none 0 0] 46) := ⟨_, rfl⟩
  have cv := cv_begin w [⟨6, 0, 20, 0, 0, 0, 5⟩] 1 rfl (by omega) w2 hw2
  have HW : Hid (w2 = ((w.alloc (.cells #[.slice none 0 0, .slice none 0 0] 46)).alloc (.cells #[.int .i64 6, .int .i64 0, .int .i64 20, .int .i64 0, .int .i64 0, .int .i64 0, .int .u64 5] 119)).alloc (.cells #[.slice (some ⟨w.heap.size + 1, 0, none⟩) 1 1, .slice none 0 0] 46)) := Lib.hid hw2
  clear hw2
  go_enter Try.func28, Try.ntmps28
  go_wp2_with fail
  rw [← HW.out]
  have c0 : w2.cell? ⟨w.heap.size + 1 + 1, 0, none⟩ = some (.slice (some ⟨w.heap.size + 1, 0, none⟩) 1 1) := by rw [cv.blk.cell]; rfl
  have c1 : w2.cell? ⟨w.heap.size + 1 + 1, 1, none⟩ = some (.slice none 0 0) := by rw [cv.blk.cell]; rfl
  have cf := cv.blk.frozen 0
  have CV := Lib.hid (cv.alloc (.cells (([⟨22, 0, 9, 0, 0, 0, 0⟩] : List Ins).flatMap Ins.cells).toArray 119))
  have B5 := Lib.hid (Blk.new w2 119 (([⟨22, 0, 9, 0, 0, 0, 0⟩] : List Ins).flatMap Ins.cells).toArray)
  clear cv
  refine wp_loop_rounds 2 ?_
  rw [rounds_succ]
  go_wp2_with (at_builtin; refine Mk.wpList_append2 rfl _ _ rfl CV.out.cd rfl w2.heap.size 1 1 [⟨22, 0, 9, 0, 0, 0, 0⟩] rfl rfl B5.out (by simp) ?_; intro v6 w6 m6 kk6 hat6; obtain ⟨g6, c6, rfl⟩ := m6.form (n := 2) rfl (by omega); obtain ⟨b6, cv6⟩ := Cv.stored CV.out m6 kk6 hat6; have f0 := b6.frozen 0; have f1 := b6.frozen 1; have x0 : w6.cell? ⟨w.heap.size + 1 + 1, 0, none⟩ = some (.slice (some ⟨w.heap.size + 1, 0, none⟩) 1 1) := (by rw [b6.cell]; rfl); have x1 : w6.cell? ⟨w.heap.size + 1 + 1, 1, none⟩ = some (.slice none 0 0) := (by rw [b6.cell]; rfl); have C6 := Lib.hid cv6; clear m6 b6 kk6 hat6 cv6)
  obtain ⟨w7, hw7⟩ : ∃ w7, w7 = w6.setCell ⟨w.heap.size + 1 + 1, 0, none⟩ (.slice (some ⟨g6, 0, none⟩) 2 c6) := ⟨_, rfl⟩
  rw [← hw7] at C6 ⊢
  have d0 : w7.cell? ⟨w.heap.size + 1 + 1, 0, none⟩ = some (.slice (some ⟨g6, 0, none⟩) 2 c6) := by rw [C6.out.blk.cell]; rfl
  have d1 : w7.cell? ⟨w.heap.size + 1 + 1, 1, none⟩ = some (.slice none 0 0) := by rw [C6.out.blk.cell]; rfl
  have df := C6.out.blk.frozen 0
  have C7 := Lib.hid (C6.out.alloc (.cells (([⟨22, 0, 20, 0, 0, 0, 0⟩] : List Ins).flatMap Ins.cells).toArray 119))
  have B7 := Lib.hid (Blk.new w7 119 (([⟨22, 0, 20, 0, 0, 0, 0⟩] : List Ins).flatMap Ins.cells).toArray)
  clear hw7 f0 f1 x0 x1 C6 CV B5
  try rw [rounds_succ]
  go_wp2_with (at_builtin; refine Mk.wpList_append2 rfl _ _ rfl C7.out.cd rfl w7.heap.size 1 1 [⟨22, 0, 20, 0, 0, 0, 0⟩] rfl rfl B7.out (by simp) ?_; intro v8 w8 m8 kk8 hat8; obtain ⟨g8, c8, rfl⟩ := m8.form (n := 3) rfl (by omega); obtain ⟨b8, cv8⟩ := Cv.stored C7.out m8 kk8 hat8; have f0 := b8.frozen 0; have f1 := b8.frozen 1; have x0 : w8.cell? ⟨w.heap.size + 1 + 1, 0, none⟩ = some (.slice (some ⟨g6, 0, none⟩) 2 c6) := (by rw [b8.cell]; rfl); have x1 : w8.cell? ⟨w.heap.size + 1 + 1, 1, none⟩ = some (.slice none 0 0) := (by rw [b8.cell]; rfl); have br := m8.res; have y0 : w8.cell? ⟨w.heap.size, 0, none⟩ = some (.slice none 0 0) := (by rw [br.cell]; rfl); have y1 : w8.cell? ⟨w.heap.size, 1, none⟩ = some (.slice none 0 0) := (by rw [br.cell]; rfl); have yf0 := br.frozen 0; have yf1 := br.frozen 1; have C8 := Lib.hid cv8; clear m8 b8 kk8 hat8 cv8 br)
  obtain ⟨r0, r1, hk⟩ := C8.out.cd.end_ rfl (by omega)
  refine bodyPost_ret (v := .agg #[.slice (some ⟨g8, 0, none⟩) 3 c8, .slice none 0 0]) (by simp [results, Try.results28, go_sem, r0, r1]) rfl hk
theorem num_info : (Try.prog.info? 38).map (fun i => (i.zero, i.size, i.bytes)) = some (some (.int .u64 0), 1, 8) := by kernel_rfl
set_option maxRecDepth 100000 in
set_option maxHeartbeats 2000000 in
theorem words_ (n : Nat) (w : World) (hn : n ≤ 16) : Calls Try.prog 21 #[.int .i64 (n : Int)] w fun e w' => ∃ g c, e = .returned (.slice (some ⟨g, 0, none⟩) (n + 1) c) ∧ Nm w w' (.slice (some ⟨g, 0, none⟩) (n + 1) c) (startW n) := by
  have hmk := run_make_row' (P := Try.prog) 36 38 (.int .u64 0) 8 Try.underlying36 num_info rfl .i64 .i64 (n + 1) (by omega) (by omega) w
  have hcast : (((n + 1 : Nat)) : Int) = 1 + (n : Int) := by omega
  rw [hcast] at hmk
  obtain ⟨w1, hw1⟩ : ∃ w1, w1 = w.alloc (.cells (madeCells #[.int .u64 0] (n + 1)) 38) := ⟨_, rfl⟩
  have b1 : Blk w1 w.heap.size 38 (u64s (List.replicate (n + 1) 0)) := by
    have q := Blk.new w 38 (madeCells #[.int .u64 0] (n + 1))
    have e : (madeCells #[.int .u64 0] (n + 1)).toList = u64s (List.replicate (n + 1) 0) := by
      apply List.ext_getElem?
      intro i
      simp only [madeCells, u64s, Array.toList_map, Array.toList_range, List.getElem?_map, List.getElem?_replicate]
      by_cases h : i < n + 1
      · simp [h, Nat.mod_one]
      · simp [h]
    rw [e, ← hw1] at q
    exact q
  have k1 : ∀ S, Keeps S w w1 := fun S => by rw [hw1]; exact (Keeps.refl _ w).alloc _
  rw [← hw1] at hmk
  have c0 : w1.cell? ⟨w.heap.size, 0, none⟩ = some (.int .u64 0) := by rw [b1.cell]; rfl
  have f0 := b1.frozen 0
  have B1 := Lib.hid b1
  have K1 : Hid (∀ S, Keeps S w w1) := Lib.hid k1
  have hn' : (n : Int) ≤ 16 := by omega
  have h0' : (0 : Int) ≤ (n : Int) := by omega
  have hp : (0 : Int) < 1 + (n : Int) := by omega
  have HN := Lib.hid hn
  clear hcast hn hw1 b1 k1
  go_enter Try.func21, Try.ntmps21
  go_wp2
  go_ret
  have b2 := B1.out.put 0 (.int .u64 1)
  have k2 : ∀ S, Keeps S w (w1.setCell ⟨w.heap.size, 0, none⟩ (.int .u64 1)) := fun S => (K1.out S).setCell (.inr (Nat.le_refl _)) _
  refine ⟨_, _, rfl, ?_, k2⟩
  have o := own_of_blk (n := n + 1) (sz := 1) (base := w.heap.size) b2 (by simp [u64s]) (Nat.le_refl _) (by have := HN.out; unfold maxLen; omega)
  rw [show (startW n).length = n + 1 from by simp [startW]]
  exact o
set_option maxRecDepth 100000 in
set_option maxHeartbeats 2000000 in
theorem world_ (n : Nat) (w : World) (hn : n ≤ 16) : Calls Try.prog 7 #[.int .i64 (n : Int)] w fun e w' => ∃ wv lv, e = .returned (.agg #[wv, lv]) ∧ (∀ w'', Keeps (fun b => b < w.heap.size ∨ w'.heap.size ≤ b) w' w'' → IsWords w'' w''.heap.size wv [startW n] ∧ IsLists w'' w''.heap.size lv 1) ∧ (∀ S, Keeps S w w') := by
  obtain ⟨w1, hw1, k1, bC⟩ := enter_blk w #[.slice none 0 0, .slice none 0 0] 32
  have HWD := Lib.hid (words_ n w1 hn)
  have HW := Lib.hid hw1
  have K1 : Hid (∀ S, Keeps S w w1) := Lib.hid k1
  have BC := Lib.hid bC
  have HZ := Lib.hid (show w1.heap.size = w.heap.size + 1 by rw [hw1]; simp)
  clear hw1 k1 bC hn
  go_enter Try.func7, Try.ntmps7
  go_wp2_with fail
  rw [← HW.out]
  go_wp2_with fail
  refine HWD.out.mono ?_
  rintro e w2 ⟨g, c, rfl, m2⟩
  have bC2 := Blk.keeps BC.out (m2.keep (fun _ => False)) (fun z => z)
  have b4 := (bC2.alloc (.cells #[.slice (some ⟨g, 0, none⟩) (n + 1) c] 36)).alloc (.cells #[.slice none 0 0] 126)
  have bw := (Blk.new w2 36 #[.slice (some ⟨g, 0, none⟩) (n + 1) c]).alloc (.cells #[.slice none 0 0] 126)
  have bl := Blk.new (w2.alloc (.cells #[.slice (some ⟨g, 0, none⟩) (n + 1) c] 36)) 126 #[.slice none 0 0]
  rw [World.size_alloc] at bl
  have m4 := (m2.alloc (.cells #[.slice (some ⟨g, 0, none⟩) (n + 1) c] 36)).alloc (.cells #[.slice none 0 0] 126)
  have f0 := b4.frozen 0
  have f1 := b4.frozen 1
  have x0 : ((w2.alloc (.cells #[.slice (some ⟨g, 0, none⟩) (n + 1) c] 36)).alloc (.cells #[.slice none 0 0] 126)).cell? ⟨w.heap.size, 0, none⟩ = some (.slice none 0 0) := by rw [b4.cell]; rfl
  have x1 : ((w2.alloc (.cells #[.slice (some ⟨g, 0, none⟩) (n + 1) c] 36)).alloc (.cells #[.slice none 0 0] 126)).cell? ⟨w.heap.size, 1, none⟩ = some (.slice none 0 0) := by rw [b4.cell]; rfl
  have HX := Lib.hid (show w.heap.size < w2.heap.size ∧ w.heap.size < g ∧ g < w2.heap.size from ⟨bC2.lt, by have := m2.lt.1; have := HZ.out; omega, m2.lt.2⟩)
  have B4 := Lib.hid b4
  have BW := Lib.hid bw
  have BL := Lib.hid bl
  have M4 := Lib.hid m4
  clear b4 bw bl m4 m2 bC2
  go_wp2
  obtain ⟨r0, r1, hk⟩ := mz.stored (u := .slice (some ⟨w2.heap.size, 0, none⟩) 1 1) (v := .slice (some ⟨w2.heap.size + 1, 0, none⟩) 1 1) B4.out
  refine bodyPost_ret (v := .agg #[.slice (some ⟨w2.heap.size, 0, none⟩) 1 1, .slice (some ⟨w2.heap.size + 1, 0, none⟩) 1 1]) (by simp [results, Try.results7, go_sem, r0, r1]) rfl ?_
  have hx := HX.out
  have BWf := Blk.keeps BW.out hk (by omega)
  have BLf := Blk.keeps BL.out hk (by omega)
  have kw : ∀ S, Keeps S w ((w2.alloc (.cells #[.slice (some ⟨g, 0, none⟩) (n + 1) c] 36)).alloc (.cells #[.slice none 0 0] 126)) := fun S => (K1.out S).trans (M4.out.keep S)
  have rd4 := M4.out.rd
  generalize ((w2.alloc (.cells #[.slice (some ⟨g, 0, none⟩) (n + 1) c] 36)).alloc (.cells #[.slice none 0 0] 126)) = w4 at *
  generalize ((w4.setCell ⟨w.heap.size, 0, none⟩ (.slice (some ⟨w2.heap.size, 0, none⟩) 1 1)).setCell ⟨w.heap.size, 1, none⟩ (.slice (some ⟨w2.heap.size + 1, 0, none⟩) 1 1)) = wf at *
  refine ⟨_, _, rfl, fun w'' kk => ⟨⟨_, _, rfl, fun i l hi => ?_⟩, ⟨_, _, rfl, fun i hi => ?_⟩⟩, fun S => ?_⟩
  · have bWf := BWf
    have bwlt := BWf.lt
    have b2 := Blk.keeps BWf kk (by omega)
    obtain ⟨rfl, rfl⟩ : i = 0 ∧ l = startW n := by
      rcases i with _ | i
      · simp at hi; exact ⟨rfl, hi.symm⟩
      · simp at hi
    refine ⟨_, 0, some ⟨g, 0, none⟩, c, rfl, b2.lt, by rw [b2.cell, show (startW n).length = n + 1 from by simp [startW]]; rfl, fun k u hk2 => ?_⟩
    obtain ⟨b', o', e1, hb', hc'⟩ := rd4 k u hk2
    injection e1 with e1
    injection e1 with e1 e2
    subst e1
    subst e2
    have c1 := Keeps.cell hk hc' (by omega)
    have c2 := Keeps.cell kk c1 (by omega)
    exact ⟨g, 0, rfl, Keeps.lt_cell c2, c2⟩
  · have bllt := BLf.lt
    have b3 := Blk.keeps BLf kk (by omega)
    obtain rfl : i = 0 := by omega
    exact ⟨_, 0, rfl, b3.lt, by rw [b3.cell]; rfl⟩
  · have ka := kw S
    exact ⟨Nat.le_trans ka.size hk.size, fun b hb hs => by rw [hk.block b (Nat.lt_of_lt_of_le hb ka.size) (by omega), ka.block b hb hs], ka.same.trans hk.same⟩
end Go.Proofs.Ytebjmmckejbklaa.rf9
