/-
  ring: Put, Take, Len under a gate.
-/
import Derived.Test.YtmkgjiejkfbdlaaRg
import Derived.StillTailTactics
import Derived.Deep.QuietTactic
import Derived.BigQuiet
set_option linter.unusedVariables false
namespace Go.Proofs.Ytmkgjiejkfbdlaa.rg
open Go.RowKit Go.Proofs.Ytmkgjiejkfbdlaa.oc Go.Proofs.Ytmkgjiejkfbdlaa.mz Go.Proofs.Ytmkgjiejkfbdlaa.at_ Go.Proofs.Ytmkgjiejkfbdlaa.gt
/-- how many numbers are there, modulo 2^64 -/
def dif (ws : List Nat) : Nat := (ws[1]?.getD 0 + (18446744073709551616 - ws[0]?.getD 0)) % 18446744073709551616
/-- the place of a count's slot -/
def slotOf (n c : Nat) : Nat := ((n - 1) &&& c) + 2
theorem dif_eq {w : World} {R W n : Nat} {ws : List Nat} (h : Rg w R W n ws) : IntKind.u64.wrap (((ws[1]?.getD 0 : Nat) : Int) - ((ws[0]?.getD 0 : Nat) : Int)) = ((dif ws : Nat) : Int) := by
  have h0 := h.small 0
  have h1 := h.small 1
  unfold dif
  rw [wrap_u64]; omega
theorem inc_eq (x : Nat) : IntKind.u64.wrap ((x : Int) + 1) = (((x + 1) % 18446744073709551616 : Nat) : Int) := by rw [wrap_u64]; omega
theorem slotOf_lt {n : Nat} (h : 0 < n) (c : Nat) : slotOf n c < n + 2 := by
  unfold slotOf
  have : (n - 1) &&& c ≤ n - 1 := Nat.and_le_left
  omega
/-- what a call leaves: its ring, its gate, the frame -/
structure Left (R W n N : Nat) (ws' : List Nat) (gv : Value) (ms' : List (Nat × Nat)) (w w' : World) : Prop where
  ring : Rg w' R W n ws'
  gate : Gate w' gv N ms'
  keep : Keeps (fun b => b = W ∨ N ≤ b) w w'
section
variable (R W n N : Nat) (ws : List Nat) (gv : Value) (ms : List (Nat × Nat)) (w : World)
set_option maxRecDepth 100000 in
set_option maxHeartbeats 2000000 in
theorem put_no (v : Int) (h : Rg w R W n ws) (hg : Gate w gv N ms) (hl : ms.length < 900000) (hR : R < N) (hW : W < N) (hd : ¬ dif ws < n) :
    Calls Try.prog 9 #[.pointer (some ⟨R, 0, none⟩), gv, .int .u64 v] w fun e w' => e = .returned (.tuple #[.bool false, .int .i64 0]) ∧ Left R W n N ws gv (ms ++ [(1, 1)] ++ [(1, 0)]) w w' := by
  have HN := Lib.hid (none_ R W n ws w h)
  have H := Lib.hid h
  have hk1 := h.pos
  have HT1 := Lib.hid (load_ R W n 1 N ws gv ms w h hg (by omega) (by omega) hR hW)
  have HT2 : Hid (∀ w1, Gate w1 gv N (ms ++ [(1, 1)]) → Rg w1 R W n ws → _) := Lib.hid (fun w1 g1 r1 => load_ R W n 0 N ws gv (ms ++ [(1, 1)]) w1 r1 g1 (by simp; omega) (by omega) hR hW)
  have HB : Hid (R < N ∧ W < N) := Lib.hid ⟨hR, hW⟩
  have hdw := dif_eq h
  have hge : (n : Int) ≤ IntKind.u64.wrap (((ws[1]?.getD 0 : Nat) : Int) - ((ws[0]?.getD 0 : Nat) : Int)) := by rw [hdw]; omega
  clear h hg hl hR hW hk1 hdw hd
  generalize ((ws[1]?.getD 0 : Nat) : Int) = p at *
  generalize ((ws[0]?.getD 0 : Nat) : Int) = t at *
  go_enter Try.func9, Try.ntmps9
  go_wp2_with fail
  refine HN.out.mono ?_
  rintro e w1 ⟨rfl, rfl⟩
  go_wp2_with fail
  refine HT1.out.mono ?_
  rintro e w1 ⟨rfl, g1, k1⟩
  have r1 := H.out.keeps k1 (by have := HB.out; omega) (by have := HB.out; omega)
  have HT3 := Lib.hid (HT2.out w1 g1 r1)
  have R1 := Lib.hid r1
  have K1 := Lib.hid k1
  clear g1 k1 r1 HT2
  go_wp2_with fail
  refine HT3.out.mono ?_
  rintro e w2 ⟨rfl, g2, k2⟩
  have r2 := R1.out.keeps k2 (by have := HB.out; omega) (by have := HB.out; omega)
  have c1 := r2.cell1
  have R2 := Lib.hid r2
  have G2 := Lib.hid g2
  have K2 := Lib.hid k2
  clear g2 k2 r2
  go_wp2
  try rw [Exit.noGoto_ret]
  go_ret2
  exact ⟨rfl, R2.out, G2.out, (K1.out.mono (fun _ _ z => .inr z)).trans (K2.out.mono (fun _ _ z => .inr z))⟩
set_option maxRecDepth 100000 in
set_option maxHeartbeats 2000000 in
theorem put_yes (v : Nat) (h : Rg w R W n ws) (hg : Gate w gv N ms) (hl : ms.length < 900000) (hR : R < N) (hW : W < N) (hd : dif ws < n) (hv : v < 18446744073709551616) :
    Calls Try.prog 9 #[.pointer (some ⟨R, 0, none⟩), gv, .int .u64 (v : Int)] w fun e w' => e = .returned (.tuple #[.bool true, .int .i64 0]) ∧ Left R W n N ((ws.set (slotOf n (ws[1]?.getD 0)) v).set 1 ((ws[1]?.getD 0 + 1) % 18446744073709551616)) gv (ms ++ [(1, 1)] ++ [(1, 0)] ++ [(2, slotOf n (ws[1]?.getD 0))] ++ [(2, 1)]) w w' := by
  have HN := Lib.hid (none_ R W n ws w h)
  have H := Lib.hid h
  have hk1 := h.pos
  have hp1 := h.small 1
  have HT1 := Lib.hid (load_ R W n 1 N ws gv ms w h hg (by omega) (by omega) hR hW)
  have HT2 : Hid (∀ w1, Gate w1 gv N (ms ++ [(1, 1)]) → Rg w1 R W n ws → _) := Lib.hid (fun w1 g1 r1 => load_ R W n 0 N ws gv (ms ++ [(1, 1)]) w1 r1 g1 (by simp; omega) (by omega) hR hW)
  have HT4 : Hid (∀ w1, Rg w1 R W n ws → _) := Lib.hid (fun w1 r1 => slot_ R W n (ws[1]?.getD 0) ws w1 r1 hp1)
  have HT5 : Hid (∀ w1, Gate w1 gv N (ms ++ [(1, 1)] ++ [(1, 0)]) → Rg w1 R W n ws → _) := Lib.hid (fun w1 g1 r1 => store_ R W n (slotOf n (ws[1]?.getD 0)) N v ws gv (ms ++ [(1, 1)] ++ [(1, 0)]) w1 r1 g1 (by simp; omega) (slotOf_lt hk1 _) hR hW hv)
  have HT6 : Hid (∀ w1, Gate w1 gv N (ms ++ [(1, 1)] ++ [(1, 0)] ++ [(2, slotOf n (ws[1]?.getD 0))]) → Rg w1 R W n (ws.set (slotOf n (ws[1]?.getD 0)) v) → _) := Lib.hid (fun w1 g1 r1 => store_ R W n 1 N ((ws[1]?.getD 0 + 1) % 18446744073709551616) (ws.set (slotOf n (ws[1]?.getD 0)) v) gv (ms ++ [(1, 1)] ++ [(1, 0)] ++ [(2, slotOf n (ws[1]?.getD 0))]) w1 r1 g1 (by simp; omega) (by omega) hR hW (Nat.mod_lt _ (by omega)))
  have HB : Hid (R < N ∧ W < N) := Lib.hid ⟨hR, hW⟩
  have hdw := dif_eq h
  have hge : IntKind.u64.wrap (((ws[1]?.getD 0 : Nat) : Int) - ((ws[0]?.getD 0 : Nat) : Int)) < (n : Int) := by rw [hdw]; omega
  have HI := Lib.hid (inc_eq (ws[1]?.getD 0))
  clear h hg hl hR hW hk1 hdw hd hp1 hv
  rw [show ((n - 1) &&& (ws[1]?.getD 0)) + 2 = slotOf n (ws[1]?.getD 0) from rfl] at HT4
  generalize slotOf n (ws[1]?.getD 0) = sl at *
  generalize ws[1]?.getD 0 = p at *
  generalize ws[0]?.getD 0 = t at *
  go_enter Try.func9, Try.ntmps9
  go_wp2_with fail
  refine HN.out.mono ?_
  rintro e w1 ⟨rfl, rfl⟩
  go_wp2_with fail
  refine HT1.out.mono ?_
  rintro e w1 ⟨rfl, g1, k1⟩
  have r1 := H.out.keeps k1 (by have := HB.out; omega) (by have := HB.out; omega)
  have HT3 := Lib.hid (HT2.out w1 g1 r1)
  have R1 := Lib.hid r1
  have K1 := Lib.hid k1
  clear g1 k1 r1 HT2
  go_wp2_with fail
  refine HT3.out.mono ?_
  rintro e w2 ⟨rfl, g2, k2⟩
  have r2 := R1.out.keeps k2 (by have := HB.out; omega) (by have := HB.out; omega)
  have c1 := r2.cell1
  have HT7 := Lib.hid (HT4.out w2 r2)
  have HT8 := Lib.hid (HT5.out w2 g2 r2)
  have K2 := Lib.hid k2
  clear g2 k2 r2 HT4 HT5
  go_wp2_with fail
  refine HT7.out.mono ?_
  rintro e w3 ⟨rfl, rfl⟩
  go_wp2_with fail
  refine HT8.out.mono ?_
  rintro e w3 ⟨rfl, r3, g3, k3⟩
  have HT9 := Lib.hid (HT6.out w3 g3 r3)
  have K3 := Lib.hid k3
  clear g3 k3 r3 HT6
  go_wp2_with fail
  rw [HI.out]
  refine HT9.out.mono ?_
  rintro e w4 ⟨rfl, r4, g4, k4⟩
  have R4 := Lib.hid r4
  have G4 := Lib.hid g4
  have K4 := Lib.hid k4
  clear r4 g4 k4
  go_wp2
  try rw [Exit.noGoto_ret]
  go_ret2
  exact ⟨rfl, R4.out, G4.out, (((K1.out.mono (fun _ _ z => .inr z)).trans (K2.out.mono (fun _ _ z => .inr z))).trans K3.out).trans K4.out⟩
set_option maxRecDepth 100000 in
set_option maxHeartbeats 2000000 in
theorem take_no (h : Rg w R W n ws) (hg : Gate w gv N ms) (hl : ms.length < 900000) (hR : R < N) (hW : W < N) (hd : ws[0]?.getD 0 = ws[1]?.getD 0) :
    Calls Try.prog 10 #[.pointer (some ⟨R, 0, none⟩), gv] w fun e w' => e = .returned (.tuple #[.int .u64 0, .bool false, .int .i64 0]) ∧ Left R W n N ws gv (ms ++ [(1, 0)] ++ [(1, 1)]) w w' := by
  have HN := Lib.hid (none_ R W n ws w h)
  have H := Lib.hid h
  have hk1 := h.pos
  have HT1 := Lib.hid (load_ R W n 0 N ws gv ms w h hg (by omega) (by omega) hR hW)
  have HT2 : Hid (∀ w1, Gate w1 gv N (ms ++ [(1, 0)]) → Rg w1 R W n ws → _) := Lib.hid (fun w1 g1 r1 => load_ R W n 1 N ws gv (ms ++ [(1, 0)]) w1 r1 g1 (by simp; omega) (by omega) hR hW)
  have HB : Hid (R < N ∧ W < N) := Lib.hid ⟨hR, hW⟩
  have hge : (((ws[0]?.getD 0 : Nat) : Int) == ((ws[1]?.getD 0 : Nat) : Int)) = true := by rw [hd]; simp
  clear h hg hl hR hW hk1 hd
  generalize ((ws[1]?.getD 0 : Nat) : Int) = p at *
  generalize ((ws[0]?.getD 0 : Nat) : Int) = t at *
  go_enter Try.func10, Try.ntmps10
  go_wp2_with fail
  refine HN.out.mono ?_
  rintro e w1 ⟨rfl, rfl⟩
  go_wp2_with fail
  refine HT1.out.mono ?_
  rintro e w1 ⟨rfl, g1, k1⟩
  have r1 := H.out.keeps k1 (by have := HB.out; omega) (by have := HB.out; omega)
  have HT3 := Lib.hid (HT2.out w1 g1 r1)
  have R1 := Lib.hid r1
  have K1 := Lib.hid k1
  clear g1 k1 r1 HT2
  go_wp2_with fail
  refine HT3.out.mono ?_
  rintro e w2 ⟨rfl, g2, k2⟩
  have r2 := R1.out.keeps k2 (by have := HB.out; omega) (by have := HB.out; omega)
  have R2 := Lib.hid r2
  have G2 := Lib.hid g2
  have K2 := Lib.hid k2
  clear g2 k2 r2
  go_wp2
  try rw [Exit.noGoto_ret]
  go_ret3
  exact ⟨rfl, R2.out, G2.out, (K1.out.mono (fun _ _ z => .inr z)).trans (K2.out.mono (fun _ _ z => .inr z))⟩
set_option maxRecDepth 100000 in
set_option maxHeartbeats 2000000 in
theorem take_yes (h : Rg w R W n ws) (hg : Gate w gv N ms) (hl : ms.length < 900000) (hR : R < N) (hW : W < N) (hd : ¬ ws[0]?.getD 0 = ws[1]?.getD 0) :
    Calls Try.prog 10 #[.pointer (some ⟨R, 0, none⟩), gv] w fun e w' => e = .returned (.tuple #[.int .u64 ((ws[slotOf n (ws[0]?.getD 0)]?.getD 0 : Nat) : Int), .bool true, .int .i64 0]) ∧ Left R W n N (ws.set 0 ((ws[0]?.getD 0 + 1) % 18446744073709551616)) gv (ms ++ [(1, 0)] ++ [(1, 1)] ++ [(1, slotOf n (ws[0]?.getD 0))] ++ [(2, 0)]) w w' := by
  have HN := Lib.hid (none_ R W n ws w h)
  have H := Lib.hid h
  have hk1 := h.pos
  have hp1 := h.small 0
  have HT1 := Lib.hid (load_ R W n 0 N ws gv ms w h hg (by omega) (by omega) hR hW)
  have HT2 : Hid (∀ w1, Gate w1 gv N (ms ++ [(1, 0)]) → Rg w1 R W n ws → _) := Lib.hid (fun w1 g1 r1 => load_ R W n 1 N ws gv (ms ++ [(1, 0)]) w1 r1 g1 (by simp; omega) (by omega) hR hW)
  have HT4 : Hid (∀ w1, Rg w1 R W n ws → _) := Lib.hid (fun w1 r1 => slot_ R W n (ws[0]?.getD 0) ws w1 r1 hp1)
  have HT5 : Hid (∀ w1, Gate w1 gv N (ms ++ [(1, 0)] ++ [(1, 1)]) → Rg w1 R W n ws → _) := Lib.hid (fun w1 g1 r1 => load_ R W n (slotOf n (ws[0]?.getD 0)) N ws gv (ms ++ [(1, 0)] ++ [(1, 1)]) w1 r1 g1 (by simp; omega) (slotOf_lt hk1 _) hR hW)
  have HT6 : Hid (∀ w1, Gate w1 gv N (ms ++ [(1, 0)] ++ [(1, 1)] ++ [(1, slotOf n (ws[0]?.getD 0))]) → Rg w1 R W n ws → _) := Lib.hid (fun w1 g1 r1 => store_ R W n 0 N ((ws[0]?.getD 0 + 1) % 18446744073709551616) ws gv (ms ++ [(1, 0)] ++ [(1, 1)] ++ [(1, slotOf n (ws[0]?.getD 0))]) w1 r1 g1 (by simp; omega) (by omega) hR hW (Nat.mod_lt _ (by omega)))
  have HB : Hid (R < N ∧ W < N) := Lib.hid ⟨hR, hW⟩
  have hge : (((ws[0]?.getD 0 : Nat) : Int) == ((ws[1]?.getD 0 : Nat) : Int)) = false := by simp; omega
  have HI := Lib.hid (inc_eq (ws[0]?.getD 0))
  clear h hg hl hR hW hk1 hd hp1
  rw [show ((n - 1) &&& (ws[0]?.getD 0)) + 2 = slotOf n (ws[0]?.getD 0) from rfl] at HT4
  generalize ws[slotOf n (ws[0]?.getD 0)]?.getD 0 = x at *
  generalize slotOf n (ws[0]?.getD 0) = sl at *
  generalize ws[1]?.getD 0 = p at *
  generalize ws[0]?.getD 0 = t at *
  go_enter Try.func10, Try.ntmps10
  go_wp2_with fail
  refine HN.out.mono ?_
  rintro e w1 ⟨rfl, rfl⟩
  go_wp2_with fail
  refine HT1.out.mono ?_
  rintro e w1 ⟨rfl, g1, k1⟩
  have r1 := H.out.keeps k1 (by have := HB.out; omega) (by have := HB.out; omega)
  have HT3 := Lib.hid (HT2.out w1 g1 r1)
  have R1 := Lib.hid r1
  have K1 := Lib.hid k1
  clear g1 k1 r1 HT2
  go_wp2_with fail
  refine HT3.out.mono ?_
  rintro e w2 ⟨rfl, g2, k2⟩
  have r2 := R1.out.keeps k2 (by have := HB.out; omega) (by have := HB.out; omega)
  have R2 := Lib.hid r2
  have HT7 := Lib.hid (HT4.out w2 r2)
  have HT8 := Lib.hid (HT5.out w2 g2 r2)
  have K2 := Lib.hid k2
  clear g2 k2 r2 HT4 HT5
  go_wp2_with fail
  refine HT7.out.mono ?_
  rintro e w3 ⟨rfl, rfl⟩
  go_wp2_with fail
  refine HT8.out.mono ?_
  rintro e w3 ⟨rfl, g3, k3⟩
  have r3 := R2.out.keeps k3 (by have := HB.out; omega) (by have := HB.out; omega)
  have HT9 := Lib.hid (HT6.out w3 g3 r3)
  have K3 := Lib.hid k3
  clear g3 k3 r3 HT6
  go_wp2_with fail
  rw [HI.out]
  refine HT9.out.mono ?_
  rintro e w4 ⟨rfl, r4, g4, k4⟩
  have R4 := Lib.hid r4
  have G4 := Lib.hid g4
  have K4 := Lib.hid k4
  clear r4 g4 k4
  go_wp2
  try rw [Exit.noGoto_ret]
  go_ret3
  exact ⟨rfl, R4.out, G4.out, (((K1.out.mono (fun _ _ z => .inr z)).trans (K2.out.mono (fun _ _ z => .inr z))).trans (K3.out.mono (fun _ _ z => .inr z))).trans K4.out⟩
set_option maxRecDepth 100000 in
set_option maxHeartbeats 2000000 in
theorem len_ (h : Rg w R W n ws) (hg : Gate w gv N ms) (hl : ms.length < 900000) (hR : R < N) (hW : W < N) :
    Calls Try.prog 11 #[.pointer (some ⟨R, 0, none⟩), gv] w fun e w' => e = .returned (.tuple #[.int .i64 ((min (dif ws) n : Nat) : Int), .int .i64 0]) ∧ Left R W n N ws gv (ms ++ [(1, 0)] ++ [(1, 1)]) w w' := by
  have HN := Lib.hid (none_ R W n ws w h)
  have H := Lib.hid h
  have hk1 := h.pos
  have htop := h.top
  have HT1 := Lib.hid (load_ R W n 0 N ws gv ms w h hg (by omega) (by omega) hR hW)
  have HT2 : Hid (∀ w1, Gate w1 gv N (ms ++ [(1, 0)]) → Rg w1 R W n ws → _) := Lib.hid (fun w1 g1 r1 => load_ R W n 1 N ws gv (ms ++ [(1, 0)]) w1 r1 g1 (by simp; omega) (by omega) hR hW)
  have HB : Hid (R < N ∧ W < N) := Lib.hid ⟨hR, hW⟩
  have hdw := dif_eq h
  generalize dif ws = dd at *
  generalize ((ws[1]?.getD 0 : Nat) : Int) = p at *
  generalize ((ws[0]?.getD 0 : Nat) : Int) = t at *
  go_enter Try.func11, Try.ntmps11
  go_wp2_with fail
  refine HN.out.mono ?_
  rintro e w1 ⟨rfl, rfl⟩
  go_wp2_with fail
  refine HT1.out.mono ?_
  rintro e w1 ⟨rfl, g1, k1⟩
  have r1 := H.out.keeps k1 (by have := HB.out; omega) (by have := HB.out; omega)
  have HT3 := Lib.hid (HT2.out w1 g1 r1)
  have R1 := Lib.hid r1
  have K1 := Lib.hid k1
  clear g1 k1 r1 HT2
  go_wp2_with fail
  refine HT3.out.mono ?_
  rintro e w2 ⟨rfl, g2, k2⟩
  have r2 := R1.out.keeps k2 (by have := HB.out; omega) (by have := HB.out; omega)
  have c1 := r2.cell1
  have R2 := Lib.hid r2
  have G2 := Lib.hid g2
  have K2 := Lib.hid k2
  clear g2 k2 r2
  go_wp2
  all_goals (try rw [Exit.noGoto_ret])
  all_goals go_ret2
  all_goals first
    | (have hmm : min dd n = n := by omega
       rw [hmm])
    | (have hmm : min dd n = dd := by omega
       rw [hmm])
  all_goals exact ⟨rfl, R2.out, by have := G2.out; simpa using this, (K1.out.mono (fun _ _ z => .inr z)).trans (K2.out.mono (fun _ _ z => .inr z))⟩
end
end Go.Proofs.Ytmkgjiejkfbdlaa.rg
