/-
  gauge: NewBreaker; gauges and breakers that are none; patchbaylaw14.made.
-/
import Derived.Test.YtadnkidbglhdlaaGaG
import Derived.Test.YtadnkidbglhdlaaGaA
set_option linter.unusedVariables false
set_option linter.unusedSimpArgs false
namespace Go.Proofs.Ytadnkidbglhdlaa.ga
open Go.RowKit Go.Proofs.Ytadnkidbglhdlaa.oc Go.Proofs.Ytadnkidbglhdlaa.mz Go.Proofs.Ytadnkidbglhdlaa.at_ Go.Proofs.Ytadnkidbglhdlaa.gt Go.Proofs.Ytadnkidbglhdlaa.gw
/-- may a breaker be -/
def MayB (f t : Nat) : Prop := 1 ≤ f ∧ f ≤ 1048576 ∧ 1 ≤ t ∧ t ≤ 1099511627776
section
variable (f t : Nat) (w : World)
set_option maxRecDepth 100000 in
set_option maxHeartbeats 1000000 in
theorem newb_ok (h : MayB f t) : Calls Try.prog 7 #[.int .u64 (f : Int), .int .u64 (t : Int)] w fun e w' => e = .returned (.tuple #[.pointer (some ⟨w.heap.size, 0, none⟩), .int .i64 0]) ∧ Br w' w.heap.size f t 0 ∧ ∀ S, Keeps S w w' := by
  have HM := Lib.hid h
  unfold MayB at h
  have q1 : ¬ (f : Int) < 1 := by omega
  have q2 : ¬ (1048576 : Int) < (f : Int) := by omega
  have q3 : ¬ (t : Int) < 1 := by omega
  have q4 : ¬ (1099511627776 : Int) < (t : Int) := by omega
  clear h
  go_enter Try.func7, Try.ntmps7
  go_wp2
  go_ret2
  exact ⟨rfl, ⟨Blk.new w _ _, HM.out, by omega⟩, fun S => (Keeps.refl S w).alloc _⟩
set_option maxRecDepth 100000 in
set_option maxHeartbeats 1000000 in
theorem newb_err (h : ¬ MayB f t) : Calls Try.prog 7 #[.int .u64 (f : Int), .int .u64 (t : Int)] w fun e w' => e = .returned (.tuple #[.pointer none, .int .i64 2]) ∧ w = w' := by
  unfold MayB at h
  by_cases h1 : 1 ≤ f
  · have q1 : ¬ (f : Int) < 1 := by omega
    by_cases h2 : f ≤ 1048576
    · have q2 : ¬ (1048576 : Int) < (f : Int) := by omega
      by_cases h3 : 1 ≤ t
      · have q3 : ¬ (t : Int) < 1 := by omega
        have q4 : (1099511627776 : Int) < (t : Int) := by omega
        clear h h1 h2 h3
        go_enter Try.func7, Try.ntmps7
        go_wp2
        go_ret2
        exact ⟨rfl, rfl⟩
      · have q3 : (t : Int) < 1 := by omega
        clear h h1 h2 h3
        go_enter Try.func7, Try.ntmps7
        go_wp2
        go_ret2
        exact ⟨rfl, rfl⟩
    · have q2 : (1048576 : Int) < (f : Int) := by omega
      clear h h1 h2
      go_enter Try.func7, Try.ntmps7
      go_wp2
      go_ret2
      exact ⟨rfl, rfl⟩
  · have q1 : (f : Int) < 1 := by omega
    clear h h1
    go_enter Try.func7, Try.ntmps7
    go_wp2
    go_ret2
    exact ⟨rfl, rfl⟩
end
theorem br_ptr (w : World) (a : Addr) : (binOp .eql 27 (.pointer (some a)) (.pointer none)).run Try.prog w = .ok (.bool false) w := by kernel_rfl
theorem gg_ptr (w : World) (a : Addr) : (binOp .eql 23 (.pointer (some a)) (.pointer none)).run Try.prog w = .ok (.bool false) w := by kernel_rfl
theorem pair_ptr (w : World) (a : Addr) : (binOp .eql 40 (.pointer (some a)) (.pointer none)).run Try.prog w = .ok (.bool false) w := by kernel_rfl
theorem rem_add (l M : Nat) (h1 : 0 < M) (h2 : M ≤ 1099511627776) : IntKind.u64.wrap (1 + (l : Int) % (M : Int)) = ((1 + l % M : Nat) : Int) := by
  have := Nat.mod_lt l h1
  rw [wrap_u64]
  have e : (l : Int) % (M : Int) = ((l % M : Nat) : Int) := by simp
  rw [e]; omega
/-- block P is a pair of the gauge G and the breaker D -/
def Pr (w : World) (P G D L f t : Nat) : Prop := Blk w P 45 [.pointer (some ⟨G, 0, none⟩), .pointer (some ⟨D, 0, none⟩), .int .u64 (L : Int), .int .u64 (f : Int), .int .u64 (t : Int)]
/-- what made makes -/
structure Md (w w' : World) (P G C E D L f t : Nat) : Prop where
  pr : Pr w' P G D L f t
  gg : gag.Gg w' G C E L 0 0
  br : Br w' D f t 0
  old : w.heap.size ≤ P ∧ w.heap.size ≤ G ∧ w.heap.size ≤ C ∧ w.heap.size ≤ E ∧ w.heap.size ≤ D
  ne : P ≠ G ∧ P ≠ C ∧ P ≠ E ∧ P ≠ D ∧ G ≠ D ∧ C ≠ D ∧ E ≠ D
  keep : ∀ S, Keeps S w w'
set_option maxRecDepth 100000 in
set_option maxHeartbeats 4000000 in
theorem made_ (l f t : Nat) (w : World) (hl : l < 18446744073709551616) (hf : f < 18446744073709551616) (ht : t < 18446744073709551616) :
    Calls Try.prog 13 #[.int .u64 (l : Int), .int .u64 (f : Int), .int .u64 (t : Int)] w fun e w' => ∃ P G C E D, e = .returned (.pointer (some ⟨P, 0, none⟩)) ∧ Md w w' P G C E D (1 + l % 1048576) (1 + f % 1048576) (1 + t % 1099511627776) := by
  have r1 := rem_add l 1048576 (by omega) (by omega)
  have r2 := rem_add f 1048576 (by omega) (by omega)
  have r3 := rem_add t 1099511627776 (by omega) (by omega)
  rw [show ((1048576 : Nat) : Int) = 1048576 from rfl] at r1 r2
  rw [show ((1099511627776 : Nat) : Int) = 1099511627776 from rfl] at r3
  have b1 := Nat.mod_lt l (show 1048576 > 0 by omega)
  have b2 := Nat.mod_lt f (show 1048576 > 0 by omega)
  have b3 := Nat.mod_lt t (show 1099511627776 > 0 by omega)
  have hL : 1 ≤ 1 + l % 1048576 ∧ 1 + l % 1048576 ≤ 1048576 := by omega
  have hM : MayB (1 + f % 1048576) (1 + t % 1099511627776) := by unfold MayB; omega
  clear b1 b2 b3 hl hf ht
  generalize 1 + l % 1048576 = L at *
  generalize 1 + f % 1048576 = f' at *
  generalize 1 + t % 1099511627776 = t' at *
  have HG := fun w => Lib.hid (gag.new_ok L w hL.1 hL.2)
  have HB := fun w => Lib.hid (newb_ok f' t' w hM)
  have hbp := br_ptr
  have hgp := gg_ptr
  clear hL hM
  go_enter Try.func13, Try.ntmps13
  go_wp2_with fail
  have B0 := Lib.hid (Blk.new w 45 #[.pointer none, .pointer none, .int .u64 (L : Int), .int .u64 (f' : Int), .int .u64 (t' : Int)])
  have K0 : Hid (∀ S, Keeps S w (w.alloc (.cells #[.pointer none, .pointer none, .int .u64 (L : Int), .int .u64 (f' : Int), .int .u64 (t' : Int)] 45))) := Lib.hid (fun S => (Keeps.refl S w).alloc _)
  have HZ : Hid (w.heap.size < (w.alloc (.cells #[.pointer none, .pointer none, .int .u64 (L : Int), .int .u64 (f' : Int), .int .u64 (t' : Int)] 45)).heap.size) := Lib.hid B0.out.lt
  generalize w.alloc (.cells #[.pointer none, .pointer none, .int .u64 (L : Int), .int .u64 (f' : Int), .int .u64 (t' : Int)] 45) = wa at *
  generalize hP : w.heap.size = P at *
  refine (HG wa).out.mono ?_
  rintro e w1 ⟨G, C, E, rfl, g1, hold, k1⟩
  have B1 := Blk.keeps B0.out (k1 (fun _ => False)) (fun z => z)
  have p3 : w1.cell? ⟨P, 3, none⟩ = some (.int .u64 (f' : Int)) := by rw [B1.cell]; rfl
  have p4 : w1.cell? ⟨P, 4, none⟩ = some (.int .u64 (t' : Int)) := by rw [B1.cell]; rfl
  have G1 := Lib.hid g1
  have HO := Lib.hid hold
  have K1 : Hid (∀ S, Keeps S w w1) := Lib.hid (fun S => (K0.out S).trans (k1 S))
  have BB := Lib.hid B1
  have HBD := Lib.hid ((HB w1.drew).out)
  clear g1 hold k1 B1
  go_wp2_with fail
  go_region_held3 (fun w' => w'.cell? ⟨P, 3, none⟩ = some (.int .u64 (f' : Int)) ∧ w'.cell? ⟨P, 4, none⟩ = some (.int .u64 (t' : Int)))
    (first | exact ⟨z3, z4⟩ | exact ⟨p3, p4⟩)
    ((first
      | (go_at_call 7; refine HBD.out.mono ?_; rintro e w2 ⟨rfl, d2, k2⟩; have B2 := Lib.hid (Blk.keeps BB.out ((Keeps.refl (fun _ => False) w1).drew.trans (k2 _)) (fun z => z)); have z3 : w2.cell? ⟨P, 3, none⟩ = some (.int .u64 (f' : Int)) := by { rw [B2.out.cell]; rfl }; have z4 : w2.cell? ⟨P, 4, none⟩ = some (.int .u64 (t' : Int)) := by { rw [B2.out.cell]; rfl }; have D2 := Lib.hid d2; have K2 : Hid (∀ S, Keeps S w1 w2) := Lib.hid (fun S => (Keeps.refl S w1).drew.trans (k2 S)); clear d2 k2)))
  have y0 : w2.cell? ⟨P, 0, none⟩ = some (.pointer none) := by rw [B2.out.cell]; rfl
  have y1 : w2.cell? ⟨P, 1, none⟩ = some (.pointer none) := by rw [B2.out.cell]; rfl
  have f0 := B2.out.frozen 0
  have f1 := B2.out.frozen 1
  have hD : w1.drew.heap.size = w1.heap.size := rfl
  rw [hD] at D2
  clear p3 p4 hD
  go_wp2
  go_ret
  have hG := HO.out
  have hz := HZ.out
  have l1 := G1.out.blk.lt
  have l2 := G1.out.c.1.lt
  have l3 := G1.out.e.1.lt
  have b3 := (B2.out.put 0 (.pointer (some ⟨G, 0, none⟩))).put 1 (.pointer (some ⟨w1.heap.size, 0, none⟩))
  have kP : Keeps (· = P) w2 ((w2.setCell ⟨P, 0, none⟩ (.pointer (some ⟨G, 0, none⟩))).setCell ⟨P, 1, none⟩ (.pointer (some ⟨w1.heap.size, 0, none⟩))) := (Keeps.here _).trans (Keeps.here _)
  have lP := BB.out.lt
  refine ⟨P, G, C, E, w1.heap.size, rfl, ⟨by unfold Pr; simpa using b3, (G1.out.all K2.out).keeps kP (by omega) (by omega) (by omega), D2.out.keeps kP (by omega), ⟨by omega, by omega, by omega, by omega, by omega⟩, ⟨by omega, by omega, by omega, by omega, by omega, by omega, by omega⟩, fun S => ?_⟩⟩
  exact ((K1.out _).trans (K2.out _)).trans kP |>.mono (fun b hb z => absurd z (by omega))
end Go.Proofs.Ytadnkidbglhdlaa.ga
