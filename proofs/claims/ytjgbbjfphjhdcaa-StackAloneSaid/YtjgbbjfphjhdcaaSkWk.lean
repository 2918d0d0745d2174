/-
  stack: the calls under no gate; awake.
-/
import Derived.Test.YtjgbbjfphjhdcaaSkMk
import Derived.Test.YtjgbbjfphjhdcaaMzSameM
import Derived.Test.YtjgbbjfphjhdcaaMzWith
set_option linter.unusedVariables false
namespace Go.Proofs.Ytjgbbjfphjhdcaa.sk
open Go.RowKit Go.Proofs.Ytjgbbjfphjhdcaa.oc Go.Proofs.Ytjgbbjfphjhdcaa.mz Go.Proofs.Ytjgbbjfphjhdcaa.at_ Go.Proofs.Ytjgbbjfphjhdcaa.gt Go.Proofs.Ytjgbbjfphjhdcaa.gw
def Holds (n : Nat) (ws row : List Nat) : Prop := ∃ sk fr, Lk n ws sk fr row
theorem Holds.start {n : Nat} (h1 : 1 ≤ n) (h2 : n ≤ 1024) : Holds n (mid n (n - 1)) [] := ⟨_, _, Lk.start h1 h2⟩
theorem Holds.push {n v : Nat} {ws row : List Nat} (h : Holds n ws row) (hr : row.length < n) : Holds n (pushW v ws) (row ++ [v]) := by
  obtain ⟨sk, fr, h⟩ := h
  obtain ⟨i, r, _, k⟩ := h.push (v := v) hr
  exact ⟨_, _, k⟩
theorem Holds.pop {n x : Nat} {ws row : List Nat} (h : Holds n ws (row ++ [x])) : Holds n (popW ws) row := by
  obtain ⟨sk, fr, h⟩ := h
  obtain ⟨i, r, _, k⟩ := h.pop
  exact ⟨_, _, k⟩
theorem Holds.le {n : Nat} {ws row : List Nat} (h : Holds n ws row) : row.length ≤ n := by
  obtain ⟨sk, fr, h⟩ := h
  have := h.rows
  have := h.all
  omega
section
variable {Q W n : Nat} {ws row : List Nat} {w : World}
theorem Sk.st0 (h : Sk w Q W n ws) : St w Q W n 0 ws .nilIface [] (fun _ => False) := ⟨h, GF.nil_ _ _ _ _, fun z => z, fun z => z⟩
theorem Left.keep0 {N : Nat} {ws' : List Nat} {gv : Value} {ms' : List (Nat × Nat)} {w' : World} (l : Left Q W n N ws' gv ms' (fun _ => False) w w') : Keeps (· = W) w w' := l.keep.mono (fun b _ z => by rcases z with z | z; exact z; exact z.elim)
end
/-- block Q is a stack that holds the row -/
def At (w : World) (Q W n : Nat) (row : List Nat) : Prop := ∃ ws, Sk w Q W n ws ∧ Holds n ws row
section
variable {Q W n : Nat} {row : List Nat} {w w' : World}
theorem At.keeps {S : Nat → Prop} (h : At w Q W n row) (k : Keeps S w w') (hQ : ¬ S Q) (hW : ¬ S W) : At w' Q W n row := by
  obtain ⟨ws, h1, h2⟩ := h
  exact ⟨ws, h1.keeps k hQ hW, h2⟩
theorem At.le (h : At w Q W n row) : row.length ≤ n := by
  obtain ⟨ws, h1, h2⟩ := h
  exact h2.le
theorem At.lt (h : At w Q W n row) : Q < w.heap.size ∧ W < w.heap.size := by
  obtain ⟨ws, h1, h2⟩ := h
  exact ⟨h1.ltQ, h1.ltW⟩
theorem push0_yes (v : Nat) (h : At w Q W n row) (hr : row.length < n) (hv : v < 18446744073709551616) :
    Calls Try.prog 8 #[.pointer (some ⟨Q, 0, none⟩), .nilIface, .int .u64 (v : Int)] w fun e w' => e = .returned (.tuple #[.bool true, .int .i64 0]) ∧ At w' Q W n (row ++ [v]) ∧ Keeps (· = W) w w' := by
  obtain ⟨ws, h, sk, fr, hk⟩ := h
  obtain ⟨i, r, _, h1, h2, h3, h4⟩ := hk.room hr
  refine (push_yes Q W n 0 ws .nilIface [] _ w v i h.st0 (by simp) h1 h2 h3 h4 hv).mono ?_
  rintro e w' ⟨rfl, l⟩
  exact ⟨rfl, ⟨_, l.sk, Holds.push ⟨_, _, hk⟩ hr⟩, l.keep0⟩
theorem push0_no (v : Int) (h : At w Q W n row) (hr : ¬ row.length < n) :
    Calls Try.prog 8 #[.pointer (some ⟨Q, 0, none⟩), .nilIface, .int .u64 v] w fun e w' => e = .returned (.tuple #[.bool false, .int .i64 0]) ∧ At w' Q W n row ∧ Keeps (· = W) w w' := by
  obtain ⟨ws, h, sk, fr, hk⟩ := h
  refine (push_no Q W n 0 ws .nilIface [] _ w v h.st0 (by simp) (hk.full hr)).mono ?_
  rintro e w' ⟨rfl, l⟩
  exact ⟨rfl, ⟨_, l.sk, _, _, hk⟩, l.keep0⟩
theorem pop0_yes (x : Nat) (h : At w Q W n (row ++ [x])) :
    Calls Try.prog 9 #[.pointer (some ⟨Q, 0, none⟩), .nilIface] w fun e w' => e = .returned (.tuple #[.int .u64 (x : Int), .bool true, .int .i64 0]) ∧ At w' Q W n row ∧ Keeps (· = W) w w' := by
  obtain ⟨ws, h, sk, fr, hk⟩ := h
  obtain ⟨i, r, _, h1, h2, h3, h4, h5⟩ := hk.last
  refine (pop_yes Q W n 0 ws .nilIface [] _ w x i h.st0 (by simp) h1 h2 h3 h4 h5).mono ?_
  rintro e w' ⟨rfl, l⟩
  exact ⟨rfl, ⟨_, l.sk, Holds.pop ⟨_, _, hk⟩⟩, l.keep0⟩
theorem pop0_no (h : At w Q W n []) :
    Calls Try.prog 9 #[.pointer (some ⟨Q, 0, none⟩), .nilIface] w fun e w' => e = .returned (.tuple #[.int .u64 0, .bool false, .int .i64 0]) ∧ At w' Q W n [] ∧ Keeps (· = W) w w' := by
  obtain ⟨ws, h, sk, fr, hk⟩ := h
  refine (pop_no Q W n 0 ws .nilIface [] _ w h.st0 (by simp) hk.bare).mono ?_
  rintro e w' ⟨rfl, l⟩
  exact ⟨rfl, ⟨_, l.sk, _, _, hk⟩, l.keep0⟩
end
/-- what a push of an empty stack of two slots tells -/
def told : List (Nat × Nat) := [(1, 1), (1, 2), (5, 1), (2, 3), (1, 0), (2, 2), (5, 0)]
set_option maxRecDepth 100000 in
set_option maxHeartbeats 2000000 in
theorem awake_ (w : World) : Calls Try.prog 6 #[] w fun e w' => e = .returned (.bool true) ∧ ∀ S, Keeps S w w' := by
  have HNEW := Lib.hid (new_ok 2 w (by decide))
  have hc2 : ((2 : Nat) : Int) = 2 := rfl
  rw [hc2] at HNEW
  clear hc2
  go_enter Try.func6, Try.ntmps6
  go_wp2_with fail
  refine HNEW.out.mono ?_
  rintro e w1 ⟨R, W, rfl, r1, hR, hW, k1⟩
  have K1 : Hid (∀ S, Keeps S w w1) := Lib.hid k1
  have HW : Hid (w.heap.size ≤ R ∧ w.heap.size ≤ W) := Lib.hid ⟨hR, hW⟩
  have R1 := Lib.hid r1
  have HNN := Lib.hid (new_notes w1)
  clear k1 hR hW r1
  go_wp2_with fail
  refine HNN.out.mono ?_
  rintro e w2 ⟨rfl, n2, k2⟩
  have r2 := R1.out.keeps (k2 (fun _ => False)) (fun z => z) (fun z => z)
  have hRW := Lib.hid (show R < w1.heap.size ∧ W < w1.heap.size from ⟨R1.out.ltQ, R1.out.ltW⟩)
  have hs : St w2 R W 2 w1.heap.size (mid 2 (2 - 1)) (.iface 44 (.pointer (some ⟨w1.heap.size, 0, none⟩))) [] (· = w1.heap.size) := ⟨r2, .inr ⟨rfl, n2⟩, fun z => by have := hRW.out; omega, fun z => by have := hRW.out; omega⟩
  have H0 : Hid (Holds 2 (mid 2 (2 - 1)) []) := Lib.hid (Holds.start (by omega) (by omega))
  have e1 : nd ((mid 2 (2 - 1))[1]?.getD 0) = 1 := by rw [(mid_top 2 _).2]; unfold nd; rfl
  have HP1 := Lib.hid (push_yes R W 2 w1.heap.size _ _ [] _ w2 5 1 hs (by simp) e1 (by omega) (by omega) (by decide) (by omega))
  have K2 : Hid (∀ S, Keeps S w1 w2) := Lib.hid k2
  have SS := Lib.hid hs
  have H1 : Hid (Holds 2 (pushW 5 (mid 2 (2 - 1))) [5]) := Lib.hid (H0.out.push (by decide))
  clear hs n2 k2 r2 e1 HNN HNEW
  have HN := Lib.hid (show w.heap.size ≤ w1.heap.size from (K1.out (fun _ => False)).size)
  generalize w1.heap.size = N at *
  generalize pushW 5 (mid 2 (2 - 1)) = ws1 at *
  go_wp2_with fail
  refine HP1.out.mono ?_
  rintro e w3 ⟨rfl, l3⟩
  have L3 := Lib.hid l3
  have HP2 := Lib.hid (push0_yes 6 ⟨_, l3.sk, H1.out⟩ (by decide) (by omega))
  clear l3 HP1
  go_wp2_with fail
  refine HP2.out.mono ?_
  rintro e w4 ⟨rfl, r4, k4⟩
  have HP3 := Lib.hid (push0_no 7 r4 (by decide))
  have K4 := Lib.hid k4
  clear r4 k4 HP2
  go_wp2_with fail
  refine HP3.out.mono ?_
  rintro e w5 ⟨rfl, r5, k5⟩
  have HP4 := Lib.hid (pop0_yes (row := [5]) 6 r5)
  have K5 := Lib.hid k5
  clear r5 k5 HP3
  go_wp2_with fail
  refine HP4.out.mono ?_
  rintro e w6 ⟨rfl, r6, k6⟩
  have kk : Keeps (· = W) w3 w6 := (K4.out.trans K5.out).trans k6
  have hg : GF w6 (.iface 44 (.pointer (some ⟨N, 0, none⟩))) N told (mz.Grown w2 w3 (· = N)) := by
    have := L3.out.gate.keeps kk (fun b hb e => by subst e; exact grown_not SS.out.sk.ltW SS.out.fw hb)
    exact this
  have hni : NInv w6 N told (mz.Grown w2 w3 (· = N)) := by
    rcases hg with hg | hg
    · cases hg
    · exact hg.2
  have HNI := Lib.hid hni
  have KK := Lib.hid kk
  clear r6 k6 kk hg hni HP4
  go_wp2_with fail
  obtain ⟨w7, hw7, k7, b7⟩ := enter_blk w6 #[.int .u8 1, .int .i64 1, .int .u8 1, .int .i64 2, .int .u8 5, .int .i64 1, .int .u8 2, .int .i64 3, .int .u8 1, .int .i64 0, .int .u8 2, .int .i64 2, .int .u8 5, .int .i64 0] 48
  rw [← hw7]
  have h7 := HNI.out.keeps (k7 (fun _ => False)) (fun _ _ z => z)
  have hmk := marks_notes N w7 told _ h7 (by decide) (by decide)
  rw [show told.length = 7 from rfl] at hmk
  have HMK := Lib.hid hmk
  have K7 : Hid (∀ S, Keeps S w6 w7) := Lib.hid k7
  have B7 : Hid (Blk w7 w6.heap.size 48 (flat2 told)) := Lib.hid b7
  clear hw7 k7 b7 h7 hmk
  generalize w6.heap.size = M at *
  refine HMK.out.mono ?_
  rintro e w8 ⟨A, c, rfl, hm, k8⟩
  obtain ⟨A', c', he, hrd⟩ := hm
  injection he with he1 _ he2
  subst he1
  subst he2
  have hb8 := Blk.keeps B7.out (k8 (fun _ => False)) (fun z => z)
  have hrd' : Rd w8 w8.heap.size (some ⟨M, 0, none⟩) (flat2 told) := fun k v hk => ⟨M, 0, rfl, hb8.lt, by rw [hb8.cell, Nat.zero_add]; exact hk⟩
  have HSM := Lib.hid (same_marks _ (some ⟨M, 0, none⟩) told 7 c 7 _ _ w8 rfl (by omega) hrd hrd')
  have K8 : Hid (∀ S, Keeps S w7 w8) := Lib.hid k8
  clear hrd hrd' hb8 k8 HMK
  go_wp2_with fail
  refine HSM.out.mono ?_
  rintro e w9 ⟨rfl, d, rfl⟩
  go_wp2
  go_ret
  refine ⟨rfl, fun S => ?_⟩
  have hw := HW.out
  have hs := (K1.out (fun _ => False)).size
  have hs2 := (K2.out (fun _ => False)).size
  have kL := L3.out.keep
  have hN := HN.out
  have k : Keeps (fun b => b = W ∨ b = N) w (w8.drewN d) := ((((((K1.out _).trans (K2.out _)).trans kL).trans (KK.out.mono (fun _ _ z => .inl z))).trans (K7.out _)).trans (K8.out _)).trans (Keeps.of_drew _ _)
  exact k.mono (fun b hb e => by rcases e with e | e <;> omega)
end Go.Proofs.Ytjgbbjfphjhdcaa.sk
