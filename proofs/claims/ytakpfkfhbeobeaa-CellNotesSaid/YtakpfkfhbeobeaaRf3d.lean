/-
  patchbayref03's GetBox and Boxed; patchbaylaw03's call. patchbaylaw03's call.
-/
import Derived.Test.YtakpfkfhbeobeaaRf3g
import Derived.Test.YtakpfkfhbeobeaaCeAll
import Derived.OwnWalk
set_option linter.unusedVariables false
namespace Go.Proofs.Ytakpfkfhbeobeaa.rf3
open Go.RowKit Go.Proofs.Ytakpfkfhbeobeaa.oc Go.Proofs.Ytakpfkfhbeobeaa.mz Go.Proofs.Ytakpfkfhbeobeaa.ce
theorem instr_info : (Try.prog.info? 140).map (fun i => (i.zero, i.size, i.bytes)) = some (some (.agg #[.int .i64 0, .int .i64 0, .int .i64 0, .int .i64 0, .int .i64 0, .int .i64 0, .int .u64 0]), 7, 56) := by kernel_rfl
/-- the five behind the Load -/
def partCode : List Ins := [⟨14, 0, 11, 10, 0, 0, 32⟩, ⟨15, 0, 11, 11, 0, 0, 32⟩, ⟨22, 0, 11, 0, 0, 0, 0⟩, ⟨15, 0, 11, 10, 0, 0, 32⟩, ⟨22, 0, 11, 0, 0, 0, 0⟩]
def loadCode : List Ins := [⟨1, 2, 10, 9, 0, 0, 0⟩]
theorem getBox_eq : getBox = loadCode ++ partCode := rfl
set_option maxRecDepth 100000 in
set_option maxHeartbeats 2000000 in
theorem parted_ (w : World) : Calls Try.prog 56 #[.int .i64 10] w fun e w' => e = .returned (.slice (some ⟨w.heap.size, 0, none⟩) 5 5) ∧ Blk w' w.heap.size 140 (partCode.flatMap Ins.cells) ∧ (∀ S, Keeps S w w') := by
  go_enter Try.func56, Try.ntmps56
  go_wp2
  go_ret
  exact ⟨rfl, Blk.new w _ (partCode.flatMap Ins.cells).toArray, fun S => (Keeps.refl S w).alloc _⟩
theorem own_of_blk {w : World} {g base : Nat} {e : TypeId} {cs : List Value} {n sz : Nat} (h : Blk w g e cs) (hl : cs.length = n * sz) (hb : base ≤ g) (hn : n ≤ maxLen) : w.ownsRow base e sz (.slice (some ⟨g, 0, none⟩) n n) n cs :=
  ⟨hl, .inr ⟨g, n, cs.toArray, rfl, hb, h, Nat.le_refl _, hn, by simp [hl], by rw [← hl]; simp⟩⟩
theorem code_of_own {w : World} {base : Nat} {A : Option Addr} {c n : Nat} {code : List Ins} (h : w.ownsRow base 140 7 (.slice A n c) n (code.flatMap Ins.cells)) (hn : code.length = n) (h0 : 0 < n) : IsCode w w.heap.size (.slice A n c) code := by
  obtain ⟨g, cap, e, hb, hlt⟩ := h.form h0
  injection e with e1 e2 e3
  subst e1
  refine ⟨_, c, by rw [hn], fun i x hx => ⟨g, 0, rfl, hlt, fun j u hu => ?_⟩⟩
  have := h.cells (g := g) rfl _ _ (code_at code i x j u hx hu)
  rw [Addr.add_lit, ← Nat.add_assoc] at this
  exact this
theorem cells_one (code : List Ins) : ∀ u ∈ code.flatMap Ins.cells, u.oneCell' = true := by
  intro u hu
  simp only [List.mem_flatMap, Ins.cells, List.mem_cons, List.not_mem_nil, or_false] at hu
  obtain ⟨x, _, hx⟩ := hu
  rcases hx with rfl | rfl | rfl | rfl | rfl | rfl | rfl <;> rfl
theorem cells_length (code : List Ins) : (code.flatMap Ins.cells).length = code.length * 7 := by
  induction code with
  | nil => rfl
  | cons x r ih => rw [List.flatMap_cons, List.length_append, ih]; simp [Ins.cells]; omega
set_option maxRecDepth 100000 in
set_option maxHeartbeats 4000000 in
theorem getBox_code (w : World) : Calls Try.prog 33 #[.int .i64 2] w (CallMade w getBox) := by
  obtain ⟨i0, hi0, hz0, hz1, hz2⟩ := info_parts instr_info
  obtain ⟨w2, hw2⟩ : ∃ w2, w2 = (w.alloc (.cells #[.slice none 0 0, .slice none 0 0] 53)).alloc (.cells (loadCode.flatMap Ins.cells).toArray 140) := ⟨_, rfl⟩
  have b1 : Blk w2 w.heap.size 53 [.slice none 0 0, .slice none 0 0] := by rw [hw2]; exact (Blk.new w _ _).alloc _
  have b2 : Blk w2 (w.heap.size + 1) 140 (loadCode.flatMap Ins.cells) := by
    have := Blk.new (w.alloc (.cells #[.slice none 0 0, .slice none 0 0] 53)) 140 (loadCode.flatMap Ins.cells).toArray
    rw [World.size_alloc] at this
    rw [hw2]; exact this
  have k2 : ∀ S, Keeps S w w2 := fun S => by rw [hw2]; exact ((Keeps.refl S w).alloc _).alloc _
  have HP := Lib.hid (parted_ w2)
  have HW : Hid (w2 = (w.alloc (.cells #[.slice none 0 0, .slice none 0 0] 53)).alloc (.cells #[.int .i64 1, .int .i64 2, .int .i64 10, .int .i64 9, .int .i64 0, .int .i64 0, .int .u64 0] 140)) := Lib.hid hw2
  have B1 := Lib.hid b1
  have B2 := Lib.hid b2
  have K2 : Hid (∀ S, Keeps S w w2) := Lib.hid k2
  clear hw2 b1 b2 k2
  go_enter Try.func33, Try.ntmps33
  go_wp2_with fail
  rw [← HW.out]
  refine HP.out.mono ?_
  rintro e w3 ⟨rfl, b3, k3⟩
  have o3 := own_of_blk (base := w.heap.size + 1) (n := 1) (sz := 7) (Blk.keeps B2.out (k3 (fun _ => False)) (fun z => z)) rfl (Nat.le_refl _) (by unfold maxLen; omega)
  have bC := Blk.keeps B1.out (k3 (fun _ => False)) (fun z => z)
  have hsz : w.heap.size + 2 ≤ w3.heap.size := by have := B2.out.lt; have := (k3 (fun _ => False)).size; omega
  have HN := Lib.hid (show ∀ j u, (partCode.flatMap Ins.cells)[j]? = some u → w3.cell? ((⟨w2.heap.size, 0, none⟩ : Addr).add j) = some u from fun j u hu => by rw [Addr.add_lit, b3.cell, Nat.zero_add]; exact hu)
  have O3 := Lib.hid o3
  have BC := Lib.hid bC
  have K3 : Hid (∀ S, Keeps S w2 w3) := Lib.hid k3
  have HFK := Lib.hid (show ∀ w9, w3.grownBy w9 (Value.slice (some ⟨w.heap.size + 1, 0, none⟩) 1 1).ownBlock → Blk w9 w.heap.size 53 [.slice none 0 0, .slice none 0 0] from fun w9 hg => Blk.grown bC hg (by simp [Value.ownBlock]))
  clear b3 o3 bC k3
  go_wp2_with (at_builtin; refine wpList_apps rfl _ _ 51 rfl (w.heap.size + 1) 140 i0 _ 7 56 Try.underlying51 hi0 hz0 hz1 hz2 rfl (by decide) (.slice (some ⟨w.heap.size + 1, 0, none⟩) 1 1) 1 (loadCode.flatMap Ins.cells) rfl O3.out ⟨w2.heap.size, 0, none⟩ 5 5 (partCode.flatMap Ins.cells) rfl rfl HN.out (cells_one _) (by unfold maxLen; omega) (by omega) (by omega) ?_; intro v2 w9 hown9 hg9 hat9; obtain ⟨g9, cap9, rfl, hg90, hg91⟩ := hown9.form (by omega); have b9 := HFK.out w9 hg9; have f0 := b9.frozen 0; have f1 := b9.frozen 1; have x0 : w9.cell? ⟨w.heap.size, 0, none⟩ = some (.slice none 0 0) := (by rw [b9.cell]; rfl); have x1 : w9.cell? ⟨w.heap.size, 1, none⟩ = some (.slice none 0 0) := (by rw [b9.cell]; rfl); have B9 := Lib.hid b9; have O9 := Lib.hid hown9; have G9 := Lib.hid hg9; clear hown9 hg9 hat9 b9)
  obtain ⟨r0, r1, hk⟩ := mz.stored (u := .slice (some ⟨g9, 0, none⟩) 6 cap9) (v := .slice none 0 0) B9.out
  generalize (w9.setCell ⟨w.heap.size, 0, none⟩ (.slice (some ⟨g9, 0, none⟩) 6 cap9)).setCell ⟨w.heap.size, 1, none⟩ (.slice none 0 0) = wx at r0 r1 hk ⊢
  refine bodyPost_ret (v := .agg #[.slice (some ⟨g9, 0, none⟩) 6 cap9, .slice none 0 0]) (by simp [results, Try.results33, go_sem, r0, r1]) rfl ?_
  have k39 := Keeps.of_grown G9.out
  refine ⟨_, _, rfl, fun w'' kk => ⟨?_, ⟨none, 0, rfl, fun k u hk => by simp [u64s] at hk⟩⟩, fun S => ?_⟩
  · have o9 : w9.ownsRow (w.heap.size + 1) 140 7 (.slice (some ⟨g9, 0, none⟩) 6 cap9) 6 (getBox.flatMap Ins.cells) := by rw [getBox_eq, List.flatMap_append]; exact O9.out
    have ox := owns_keeps o9 hk (fun b hb e => by have := (o9.lt b hb).1; omega)
    have oy := owns_keeps ox kk (fun b hb e => by have := (ox.lt b hb).1; omega)
    exact code_of_own oy rfl (by omega)
  · have ka : Keeps S w w3 := (K2.out S).trans (K3.out S)
    exact ⟨by have := ka.size; have := k39.size; have := hk.size; omega, fun b hb hs => by rw [hk.block b (by have := ka.size; have := k39.size; omega) (by omega), k39.block b (by have := ka.size; omega) (by simp [Value.ownBlock]; omega), ka.block b hb hs], (ka.same.trans k39.same).trans hk.same⟩
set_option maxRecDepth 100000 in
set_option maxHeartbeats 1000000 in
theorem boxed_ (v : Nat) (w : World) (hv : v < 4294967296) : Calls Try.prog 6 #[.int .u64 (v : Int), .int .u64 0] w fun e w' => e = .returned (.int .u64 ((box 0 v : Nat) : Int)) ∧ w = w' := by
  have hb : ((box 0 v : Nat) : Int) = (v : Int) := by unfold box; omega
  have h1 : (v : Int) < 4294967296 := by omega
  have h0 : (0 : Int) ≤ (v : Int) := by omega
  rw [hb]
  clear hb hv
  go_enter Try.func6, Try.ntmps6
  go_wp2
  go_ret
  exact ⟨rfl, rfl⟩
theorem do_blk (d : Int) (dn dm dv : Nat) (w : World) : ∃ w1, w1 = (w.alloc (.cells #[.int .i64 d, .int .u64 (dn : Int), .int .u64 (dm : Int), .int .u32 (dv : Int)] 47)).alloc (.cells #[.slice none 0 0, .slice none 0 0] 53) ∧ (∀ S, Keeps S w w1) ∧ Blk w1 w.heap.size 47 [.int .i64 d, .int .u64 (dn : Int), .int .u64 (dm : Int), .int .u32 (dv : Int)] ∧ Blk w1 (w.heap.size + 1) 53 [.slice none 0 0, .slice none 0 0] := by
  have b2 := Blk.new (w.alloc (.cells #[.int .i64 d, .int .u64 (dn : Int), .int .u64 (dm : Int), .int .u32 (dv : Int)] 47)) 53 #[.slice none 0 0, .slice none 0 0]
  rw [World.size_alloc] at b2
  exact ⟨_, rfl, fun S => ((Keeps.refl _ w).alloc _).alloc _, (Blk.new w _ _).alloc _, b2⟩
/-- behind the store of a call into its own block -/
theorem call_end {w w1 w2 : World} {code : List Ins} {cv dv : Value} (k1 : ∀ S, Keeps S w w1) (bC : Blk w1 (w.heap.size + 1) 53 [.slice none 0 0, .slice none 0 0]) (hb : ∀ w'', Keeps (fun b => b < w1.heap.size) w2 w'' → IsCode w'' w''.heap.size cv code ∧ IsData w'' w''.heap.size dv []) (k2 : ∀ S, Keeps S w1 w2) :
    ((w2.setCell ⟨w.heap.size + 1, 0, none⟩ cv).setCell ⟨w.heap.size + 1, 1, none⟩ dv).cell? ⟨w.heap.size + 1, 0, none⟩ = some cv ∧ ((w2.setCell ⟨w.heap.size + 1, 0, none⟩ cv).setCell ⟨w.heap.size + 1, 1, none⟩ dv).cell? ⟨w.heap.size + 1, 1, none⟩ = some dv ∧
    CallMade w code (.returned (.agg #[cv, dv])) ((w2.setCell ⟨w.heap.size + 1, 0, none⟩ cv).setCell ⟨w.heap.size + 1, 1, none⟩ dv) := by
  obtain ⟨r0, r1, hk⟩ := mz.stored (u := cv) (v := dv) (Blk.keeps bC (k2 (fun _ => False)) (fun z => z))
  have hsz : w.heap.size + 1 < w1.heap.size := bC.lt
  refine ⟨r0, r1, _, _, rfl, fun w'' kk => hb w'' ((hk.mono (fun b _ e => by omega)).trans (kk.mono (fun b _ z => by omega))), fun S => ?_⟩
  have kw := ((k1 S).trans (k2 S))
  exact ⟨Nat.le_trans kw.size hk.size, fun b hb hs => by rw [hk.block b (Nat.lt_of_lt_of_le hb kw.size) (by omega), kw.block b hb hs], kw.same.trans hk.same⟩
end Go.Proofs.Ytakpfkfhbeobeaa.rf3
set_option linter.unusedVariables false
namespace Go.Proofs.Ytakpfkfhbeobeaa.rf3
open Go.RowKit Go.Proofs.Ytakpfkfhbeobeaa.oc Go.Proofs.Ytakpfkfhbeobeaa.mz Go.Proofs.Ytakpfkfhbeobeaa.ce
set_option maxRecDepth 100000 in
set_option maxHeartbeats 2000000 in
theorem call_0 (dn dm dv : Nat) (d : Int) (w : World) (hd : -9223372036854775808 ≤ d ∧ d < 9223372036854775808) (he : d % 11 = 0) (hv : dv < 4294967296) :
    Calls Try.prog 10 #[.agg #[.int .i64 d, .int .u64 (dn : Int), .int .u64 (dm : Int), .int .u32 (dv : Int)]] w (CallMade w (codeOf 0 dn dm dv)) := by
  obtain ⟨w1, hw1, k1, bD, bC⟩ := do_blk d dn dm dv w
  have d0 : w1.cell? ⟨w.heap.size, 0, none⟩ = some (.int .i64 d) := by rw [bD.cell]; rfl
  have d1 : w1.cell? ⟨w.heap.size, 1, none⟩ = some (.int .u64 (dn : Int)) := by rw [bD.cell]; rfl
  have d2 : w1.cell? ⟨w.heap.size, 2, none⟩ = some (.int .u64 (dm : Int)) := by rw [bD.cell]; rfl
  have d3 : w1.cell? ⟨w.heap.size, 3, none⟩ = some (.int .u32 (dv : Int)) := by rw [bD.cell]; rfl
  have HWI := Lib.hid (within11 d hd w1)
  rw [he] at HWI
  have HB := Lib.hid (get0_code w1)
  have hv1 : (dv : Int) < 4294967296 := by omega
  have hv0 : (0 : Int) ≤ (dv : Int) := by omega
  have HW := Lib.hid hw1
  have K1 : Hid (∀ S, Keeps S w w1) := Lib.hid k1
  have BC := Lib.hid bC
  clear hw1 k1 bD bC he hd hv
  rw [show codeOf 0 dn dm dv = getCode 0 from rfl]
  go_enter Try.func10, Try.ntmps10
  go_wp2_with fail
  rw [← HW.out]
  go_wp2_with fail
  refine HWI.out.mono ?_
  rintro e w' ⟨rfl, rfl⟩
  go_wp2_with fail
  refine HB.out.mono ?_
  rintro e w2 ⟨cv, dvv, rfl, hb, k2⟩
  obtain ⟨⟨CA, cc, hcv, _⟩, ⟨DA, dc, hdv, _⟩⟩ := hb w2 (Keeps.refl _ _)
  have bC2 := Blk.keeps BC.out (k2 (fun _ => False)) (fun z => z)
  have f0 := bC2.frozen 0
  have f1 := bC2.frozen 1
  have x0 : w2.cell? ⟨w.heap.size + 1, 0, none⟩ = some (.slice none 0 0) := by rw [bC2.cell]; rfl
  have x1 : w2.cell? ⟨w.heap.size + 1, 1, none⟩ = some (.slice none 0 0) := by rw [bC2.cell]; rfl
  have HE := Lib.hid (call_end K1.out BC.out hb k2)
  clear hb k2 bC2
  rw [hcv, hdv] at HE ⊢
  simp only [List.length_nil] at HE ⊢
  generalize List.length _ = L at HE ⊢
  clear hcv hdv HB
  go_wp2_with fail
  obtain ⟨r0, r1, hm⟩ := HE.out
  exact bodyPost_ret (v := .agg #[.slice CA L cc, .slice DA 0 dc]) (by simp [results, Try.results10, go_sem, r0, r1]) rfl hm
set_option maxRecDepth 100000 in
set_option maxHeartbeats 2000000 in
theorem call_1 (dn dm dv : Nat) (d : Int) (w : World) (hd : -9223372036854775808 ≤ d ∧ d < 9223372036854775808) (he : d % 11 = 1) (hv : dv < 4294967296) :
    Calls Try.prog 10 #[.agg #[.int .i64 d, .int .u64 (dn : Int), .int .u64 (dm : Int), .int .u32 (dv : Int)]] w (CallMade w (codeOf 1 dn dm dv)) := by
  obtain ⟨w1, hw1, k1, bD, bC⟩ := do_blk d dn dm dv w
  have d0 : w1.cell? ⟨w.heap.size, 0, none⟩ = some (.int .i64 d) := by rw [bD.cell]; rfl
  have d1 : w1.cell? ⟨w.heap.size, 1, none⟩ = some (.int .u64 (dn : Int)) := by rw [bD.cell]; rfl
  have d2 : w1.cell? ⟨w.heap.size, 2, none⟩ = some (.int .u64 (dm : Int)) := by rw [bD.cell]; rfl
  have d3 : w1.cell? ⟨w.heap.size, 3, none⟩ = some (.int .u32 (dv : Int)) := by rw [bD.cell]; rfl
  have HWI := Lib.hid (within11 d hd w1)
  rw [he] at HWI
  have HB := Lib.hid (add_code dn w1)
  have hv1 : (dv : Int) < 4294967296 := by omega
  have hv0 : (0 : Int) ≤ (dv : Int) := by omega
  have HW := Lib.hid hw1
  have K1 : Hid (∀ S, Keeps S w w1) := Lib.hid k1
  have BC := Lib.hid bC
  clear hw1 k1 bD bC he hd hv
  rw [show codeOf 1 dn dm dv = addCode dn from rfl]
  go_enter Try.func10, Try.ntmps10
  go_wp2_with fail
  rw [← HW.out]
  go_wp2_with fail
  refine HWI.out.mono ?_
  rintro e w' ⟨rfl, rfl⟩
  go_wp2_with fail
  refine HB.out.mono ?_
  rintro e w2 ⟨cv, dvv, rfl, hb, k2⟩
  obtain ⟨⟨CA, cc, hcv, _⟩, ⟨DA, dc, hdv, _⟩⟩ := hb w2 (Keeps.refl _ _)
  have bC2 := Blk.keeps BC.out (k2 (fun _ => False)) (fun z => z)
  have f0 := bC2.frozen 0
  have f1 := bC2.frozen 1
  have x0 : w2.cell? ⟨w.heap.size + 1, 0, none⟩ = some (.slice none 0 0) := by rw [bC2.cell]; rfl
  have x1 : w2.cell? ⟨w.heap.size + 1, 1, none⟩ = some (.slice none 0 0) := by rw [bC2.cell]; rfl
  have HE := Lib.hid (call_end K1.out BC.out hb k2)
  clear hb k2 bC2
  rw [hcv, hdv] at HE ⊢
  simp only [List.length_nil] at HE ⊢
  generalize List.length _ = L at HE ⊢
  clear hcv hdv HB
  go_wp2_with fail
  obtain ⟨r0, r1, hm⟩ := HE.out
  exact bodyPost_ret (v := .agg #[.slice CA L cc, .slice DA 0 dc]) (by simp [results, Try.results10, go_sem, r0, r1]) rfl hm
set_option maxRecDepth 100000 in
set_option maxHeartbeats 2000000 in
theorem call_2 (dn dm dv : Nat) (d : Int) (w : World) (hd : -9223372036854775808 ≤ d ∧ d < 9223372036854775808) (he : d % 11 = 2) (hv : dv < 4294967296) :
    Calls Try.prog 10 #[.agg #[.int .i64 d, .int .u64 (dn : Int), .int .u64 (dm : Int), .int .u32 (dv : Int)]] w (CallMade w (codeOf 2 dn dm dv)) := by
  obtain ⟨w1, hw1, k1, bD, bC⟩ := do_blk d dn dm dv w
  have d0 : w1.cell? ⟨w.heap.size, 0, none⟩ = some (.int .i64 d) := by rw [bD.cell]; rfl
  have d1 : w1.cell? ⟨w.heap.size, 1, none⟩ = some (.int .u64 (dn : Int)) := by rw [bD.cell]; rfl
  have d2 : w1.cell? ⟨w.heap.size, 2, none⟩ = some (.int .u64 (dm : Int)) := by rw [bD.cell]; rfl
  have d3 : w1.cell? ⟨w.heap.size, 3, none⟩ = some (.int .u32 (dv : Int)) := by rw [bD.cell]; rfl
  have HWI := Lib.hid (within11 d hd w1)
  rw [he] at HWI
  have HB := Lib.hid (up_code dn dm w1)
  have hv1 : (dv : Int) < 4294967296 := by omega
  have hv0 : (0 : Int) ≤ (dv : Int) := by omega
  have HW := Lib.hid hw1
  have K1 : Hid (∀ S, Keeps S w w1) := Lib.hid k1
  have BC := Lib.hid bC
  clear hw1 k1 bD bC he hd hv
  rw [show codeOf 2 dn dm dv = upCode dn dm from rfl]
  go_enter Try.func10, Try.ntmps10
  go_wp2_with fail
  rw [← HW.out]
  go_wp2_with fail
  refine HWI.out.mono ?_
  rintro e w' ⟨rfl, rfl⟩
  go_wp2_with fail
  refine HB.out.mono ?_
  rintro e w2 ⟨cv, dvv, rfl, hb, k2⟩
  obtain ⟨⟨CA, cc, hcv, _⟩, ⟨DA, dc, hdv, _⟩⟩ := hb w2 (Keeps.refl _ _)
  have bC2 := Blk.keeps BC.out (k2 (fun _ => False)) (fun z => z)
  have f0 := bC2.frozen 0
  have f1 := bC2.frozen 1
  have x0 : w2.cell? ⟨w.heap.size + 1, 0, none⟩ = some (.slice none 0 0) := by rw [bC2.cell]; rfl
  have x1 : w2.cell? ⟨w.heap.size + 1, 1, none⟩ = some (.slice none 0 0) := by rw [bC2.cell]; rfl
  have HE := Lib.hid (call_end K1.out BC.out hb k2)
  clear hb k2 bC2
  rw [hcv, hdv] at HE ⊢
  simp only [List.length_nil] at HE ⊢
  generalize List.length _ = L at HE ⊢
  clear hcv hdv HB
  go_wp2_with fail
  obtain ⟨r0, r1, hm⟩ := HE.out
  exact bodyPost_ret (v := .agg #[.slice CA L cc, .slice DA 0 dc]) (by simp [results, Try.results10, go_sem, r0, r1]) rfl hm
set_option maxRecDepth 100000 in
set_option maxHeartbeats 2000000 in
theorem call_3 (dn dm dv : Nat) (d : Int) (w : World) (hd : -9223372036854775808 ≤ d ∧ d < 9223372036854775808) (he : d % 11 = 3) (hv : dv < 4294967296) :
    Calls Try.prog 10 #[.agg #[.int .i64 d, .int .u64 (dn : Int), .int .u64 (dm : Int), .int .u32 (dv : Int)]] w (CallMade w (codeOf 3 dn dm dv)) := by
  obtain ⟨w1, hw1, k1, bD, bC⟩ := do_blk d dn dm dv w
  have d0 : w1.cell? ⟨w.heap.size, 0, none⟩ = some (.int .i64 d) := by rw [bD.cell]; rfl
  have d1 : w1.cell? ⟨w.heap.size, 1, none⟩ = some (.int .u64 (dn : Int)) := by rw [bD.cell]; rfl
  have d2 : w1.cell? ⟨w.heap.size, 2, none⟩ = some (.int .u64 (dm : Int)) := by rw [bD.cell]; rfl
  have d3 : w1.cell? ⟨w.heap.size, 3, none⟩ = some (.int .u32 (dv : Int)) := by rw [bD.cell]; rfl
  have HWI := Lib.hid (within11 d hd w1)
  rw [he] at HWI
  have HB := Lib.hid (down_code dn w1)
  have hv1 : (dv : Int) < 4294967296 := by omega
  have hv0 : (0 : Int) ≤ (dv : Int) := by omega
  have HW := Lib.hid hw1
  have K1 : Hid (∀ S, Keeps S w w1) := Lib.hid k1
  have BC := Lib.hid bC
  clear hw1 k1 bD bC he hd hv
  rw [show codeOf 3 dn dm dv = downCode dn from rfl]
  go_enter Try.func10, Try.ntmps10
  go_wp2_with fail
  rw [← HW.out]
  go_wp2_with fail
  refine HWI.out.mono ?_
  rintro e w' ⟨rfl, rfl⟩
  go_wp2_with fail
  refine HB.out.mono ?_
  rintro e w2 ⟨cv, dvv, rfl, hb, k2⟩
  obtain ⟨⟨CA, cc, hcv, _⟩, ⟨DA, dc, hdv, _⟩⟩ := hb w2 (Keeps.refl _ _)
  have bC2 := Blk.keeps BC.out (k2 (fun _ => False)) (fun z => z)
  have f0 := bC2.frozen 0
  have f1 := bC2.frozen 1
  have x0 : w2.cell? ⟨w.heap.size + 1, 0, none⟩ = some (.slice none 0 0) := by rw [bC2.cell]; rfl
  have x1 : w2.cell? ⟨w.heap.size + 1, 1, none⟩ = some (.slice none 0 0) := by rw [bC2.cell]; rfl
  have HE := Lib.hid (call_end K1.out BC.out hb k2)
  clear hb k2 bC2
  rw [hcv, hdv] at HE ⊢
  simp only [List.length_nil] at HE ⊢
  generalize List.length _ = L at HE ⊢
  clear hcv hdv HB
  go_wp2_with fail
  obtain ⟨r0, r1, hm⟩ := HE.out
  exact bodyPost_ret (v := .agg #[.slice CA L cc, .slice DA 0 dc]) (by simp [results, Try.results10, go_sem, r0, r1]) rfl hm
set_option maxRecDepth 100000 in
set_option maxHeartbeats 2000000 in
theorem call_4 (dn dm dv : Nat) (d : Int) (w : World) (hd : -9223372036854775808 ≤ d ∧ d < 9223372036854775808) (he : d % 11 = 4) (hv : dv < 4294967296) :
    Calls Try.prog 10 #[.agg #[.int .i64 d, .int .u64 (dn : Int), .int .u64 (dm : Int), .int .u32 (dv : Int)]] w (CallMade w (codeOf 4 dn dm dv)) := by
  obtain ⟨w1, hw1, k1, bD, bC⟩ := do_blk d dn dm dv w
  have d0 : w1.cell? ⟨w.heap.size, 0, none⟩ = some (.int .i64 d) := by rw [bD.cell]; rfl
  have d1 : w1.cell? ⟨w.heap.size, 1, none⟩ = some (.int .u64 (dn : Int)) := by rw [bD.cell]; rfl
  have d2 : w1.cell? ⟨w.heap.size, 2, none⟩ = some (.int .u64 (dm : Int)) := by rw [bD.cell]; rfl
  have d3 : w1.cell? ⟨w.heap.size, 3, none⟩ = some (.int .u32 (dv : Int)) := by rw [bD.cell]; rfl
  have HWI := Lib.hid (within11 d hd w1)
  rw [he] at HWI
  have HB := Lib.hid (max_code dn w1)
  have hv1 : (dv : Int) < 4294967296 := by omega
  have hv0 : (0 : Int) ≤ (dv : Int) := by omega
  have HW := Lib.hid hw1
  have K1 : Hid (∀ S, Keeps S w w1) := Lib.hid k1
  have BC := Lib.hid bC
  clear hw1 k1 bD bC he hd hv
  rw [show codeOf 4 dn dm dv = maxCode dn from rfl]
  go_enter Try.func10, Try.ntmps10
  go_wp2_with fail
  rw [← HW.out]
  go_wp2_with fail
  refine HWI.out.mono ?_
  rintro e w' ⟨rfl, rfl⟩
  go_wp2_with fail
  refine HB.out.mono ?_
  rintro e w2 ⟨cv, dvv, rfl, hb, k2⟩
  obtain ⟨⟨CA, cc, hcv, _⟩, ⟨DA, dc, hdv, _⟩⟩ := hb w2 (Keeps.refl _ _)
  have bC2 := Blk.keeps BC.out (k2 (fun _ => False)) (fun z => z)
  have f0 := bC2.frozen 0
  have f1 := bC2.frozen 1
  have x0 : w2.cell? ⟨w.heap.size + 1, 0, none⟩ = some (.slice none 0 0) := by rw [bC2.cell]; rfl
  have x1 : w2.cell? ⟨w.heap.size + 1, 1, none⟩ = some (.slice none 0 0) := by rw [bC2.cell]; rfl
  have HE := Lib.hid (call_end K1.out BC.out hb k2)
  clear hb k2 bC2
  rw [hcv, hdv] at HE ⊢
  simp only [List.length_nil] at HE ⊢
  generalize List.length _ = L at HE ⊢
  clear hcv hdv HB
  go_wp2_with fail
  obtain ⟨r0, r1, hm⟩ := HE.out
  exact bodyPost_ret (v := .agg #[.slice CA L cc, .slice DA 0 dc]) (by simp [results, Try.results10, go_sem, r0, r1]) rfl hm
set_option maxRecDepth 100000 in
set_option maxHeartbeats 2000000 in
theorem call_5 (dn dm dv : Nat) (d : Int) (w : World) (hd : -9223372036854775808 ≤ d ∧ d < 9223372036854775808) (he : d % 11 = 5) (hv : dv < 4294967296) :
    Calls Try.prog 10 #[.agg #[.int .i64 d, .int .u64 (dn : Int), .int .u64 (dm : Int), .int .u32 (dv : Int)]] w (CallMade w (codeOf 5 dn dm dv)) := by
  obtain ⟨w1, hw1, k1, bD, bC⟩ := do_blk d dn dm dv w
  have d0 : w1.cell? ⟨w.heap.size, 0, none⟩ = some (.int .i64 d) := by rw [bD.cell]; rfl
  have d1 : w1.cell? ⟨w.heap.size, 1, none⟩ = some (.int .u64 (dn : Int)) := by rw [bD.cell]; rfl
  have d2 : w1.cell? ⟨w.heap.size, 2, none⟩ = some (.int .u64 (dm : Int)) := by rw [bD.cell]; rfl
  have d3 : w1.cell? ⟨w.heap.size, 3, none⟩ = some (.int .u32 (dv : Int)) := by rw [bD.cell]; rfl
  have HWI := Lib.hid (within11 d hd w1)
  rw [he] at HWI
  have HB := Lib.hid (get1_code w1)
  have hv1 : (dv : Int) < 4294967296 := by omega
  have hv0 : (0 : Int) ≤ (dv : Int) := by omega
  have HW := Lib.hid hw1
  have K1 : Hid (∀ S, Keeps S w w1) := Lib.hid k1
  have BC := Lib.hid bC
  clear hw1 k1 bD bC he hd hv
  rw [show codeOf 5 dn dm dv = getCode 1 from rfl]
  go_enter Try.func10, Try.ntmps10
  go_wp2_with fail
  rw [← HW.out]
  go_wp2_with fail
  refine HWI.out.mono ?_
  rintro e w' ⟨rfl, rfl⟩
  go_wp2_with fail
  refine HB.out.mono ?_
  rintro e w2 ⟨cv, dvv, rfl, hb, k2⟩
  obtain ⟨⟨CA, cc, hcv, _⟩, ⟨DA, dc, hdv, _⟩⟩ := hb w2 (Keeps.refl _ _)
  have bC2 := Blk.keeps BC.out (k2 (fun _ => False)) (fun z => z)
  have f0 := bC2.frozen 0
  have f1 := bC2.frozen 1
  have x0 : w2.cell? ⟨w.heap.size + 1, 0, none⟩ = some (.slice none 0 0) := by rw [bC2.cell]; rfl
  have x1 : w2.cell? ⟨w.heap.size + 1, 1, none⟩ = some (.slice none 0 0) := by rw [bC2.cell]; rfl
  have HE := Lib.hid (call_end K1.out BC.out hb k2)
  clear hb k2 bC2
  rw [hcv, hdv] at HE ⊢
  simp only [List.length_nil] at HE ⊢
  generalize List.length _ = L at HE ⊢
  clear hcv hdv HB
  go_wp2_with fail
  obtain ⟨r0, r1, hm⟩ := HE.out
  exact bodyPost_ret (v := .agg #[.slice CA L cc, .slice DA 0 dc]) (by simp [results, Try.results10, go_sem, r0, r1]) rfl hm
set_option maxRecDepth 100000 in
set_option maxHeartbeats 2000000 in
theorem call_6 (dn dm dv : Nat) (d : Int) (w : World) (hd : -9223372036854775808 ≤ d ∧ d < 9223372036854775808) (he : d % 11 = 6) (hv : dv < 4294967296) :
    Calls Try.prog 10 #[.agg #[.int .i64 d, .int .u64 (dn : Int), .int .u64 (dm : Int), .int .u32 (dv : Int)]] w (CallMade w (codeOf 6 dn dm dv)) := by
  obtain ⟨w1, hw1, k1, bD, bC⟩ := do_blk d dn dm dv w
  have d0 : w1.cell? ⟨w.heap.size, 0, none⟩ = some (.int .i64 d) := by rw [bD.cell]; rfl
  have d1 : w1.cell? ⟨w.heap.size, 1, none⟩ = some (.int .u64 (dn : Int)) := by rw [bD.cell]; rfl
  have d2 : w1.cell? ⟨w.heap.size, 2, none⟩ = some (.int .u64 (dm : Int)) := by rw [bD.cell]; rfl
  have d3 : w1.cell? ⟨w.heap.size, 3, none⟩ = some (.int .u32 (dv : Int)) := by rw [bD.cell]; rfl
  have HWI := Lib.hid (within11 d hd w1)
  rw [he] at HWI
  have HB := Lib.hid (turn1_code w1)
  have hv1 : (dv : Int) < 4294967296 := by omega
  have hv0 : (0 : Int) ≤ (dv : Int) := by omega
  have HW := Lib.hid hw1
  have K1 : Hid (∀ S, Keeps S w w1) := Lib.hid k1
  have BC := Lib.hid bC
  clear hw1 k1 bD bC he hd hv
  rw [show codeOf 6 dn dm dv = turnCode 1 from rfl]
  go_enter Try.func10, Try.ntmps10
  go_wp2_with fail
  rw [← HW.out]
  go_wp2_with fail
  refine HWI.out.mono ?_
  rintro e w' ⟨rfl, rfl⟩
  go_wp2_with fail
  refine HB.out.mono ?_
  rintro e w2 ⟨cv, dvv, rfl, hb, k2⟩
  obtain ⟨⟨CA, cc, hcv, _⟩, ⟨DA, dc, hdv, _⟩⟩ := hb w2 (Keeps.refl _ _)
  have bC2 := Blk.keeps BC.out (k2 (fun _ => False)) (fun z => z)
  have f0 := bC2.frozen 0
  have f1 := bC2.frozen 1
  have x0 : w2.cell? ⟨w.heap.size + 1, 0, none⟩ = some (.slice none 0 0) := by rw [bC2.cell]; rfl
  have x1 : w2.cell? ⟨w.heap.size + 1, 1, none⟩ = some (.slice none 0 0) := by rw [bC2.cell]; rfl
  have HE := Lib.hid (call_end K1.out BC.out hb k2)
  clear hb k2 bC2
  rw [hcv, hdv] at HE ⊢
  simp only [List.length_nil] at HE ⊢
  generalize List.length _ = L at HE ⊢
  clear hcv hdv HB
  go_wp2_with fail
  obtain ⟨r0, r1, hm⟩ := HE.out
  exact bodyPost_ret (v := .agg #[.slice CA L cc, .slice DA 0 dc]) (by simp [results, Try.results10, go_sem, r0, r1]) rfl hm
set_option maxRecDepth 100000 in
set_option maxHeartbeats 2000000 in
theorem call_7 (dn dm dv : Nat) (d : Int) (w : World) (hd : -9223372036854775808 ≤ d ∧ d < 9223372036854775808) (he : d % 11 = 7) (hv : dv < 4294967296) :
    Calls Try.prog 10 #[.agg #[.int .i64 d, .int .u64 (dn : Int), .int .u64 (dm : Int), .int .u32 (dv : Int)]] w (CallMade w (codeOf 7 dn dm dv)) := by
  obtain ⟨w1, hw1, k1, bD, bC⟩ := do_blk d dn dm dv w
  have d0 : w1.cell? ⟨w.heap.size, 0, none⟩ = some (.int .i64 d) := by rw [bD.cell]; rfl
  have d1 : w1.cell? ⟨w.heap.size, 1, none⟩ = some (.int .u64 (dn : Int)) := by rw [bD.cell]; rfl
  have d2 : w1.cell? ⟨w.heap.size, 2, none⟩ = some (.int .u64 (dm : Int)) := by rw [bD.cell]; rfl
  have d3 : w1.cell? ⟨w.heap.size, 3, none⟩ = some (.int .u32 (dv : Int)) := by rw [bD.cell]; rfl
  have HWI := Lib.hid (within11 d hd w1)
  rw [he] at HWI
  have HB := Lib.hid (turn0_code w1)
  have hv1 : (dv : Int) < 4294967296 := by omega
  have hv0 : (0 : Int) ≤ (dv : Int) := by omega
  have HW := Lib.hid hw1
  have K1 : Hid (∀ S, Keeps S w w1) := Lib.hid k1
  have BC := Lib.hid bC
  clear hw1 k1 bD bC he hd hv
  rw [show codeOf 7 dn dm dv = turnCode 0 from rfl]
  go_enter Try.func10, Try.ntmps10
  go_wp2_with fail
  rw [← HW.out]
  go_wp2_with fail
  refine HWI.out.mono ?_
  rintro e w' ⟨rfl, rfl⟩
  go_wp2_with fail
  refine HB.out.mono ?_
  rintro e w2 ⟨cv, dvv, rfl, hb, k2⟩
  obtain ⟨⟨CA, cc, hcv, _⟩, ⟨DA, dc, hdv, _⟩⟩ := hb w2 (Keeps.refl _ _)
  have bC2 := Blk.keeps BC.out (k2 (fun _ => False)) (fun z => z)
  have f0 := bC2.frozen 0
  have f1 := bC2.frozen 1
  have x0 : w2.cell? ⟨w.heap.size + 1, 0, none⟩ = some (.slice none 0 0) := by rw [bC2.cell]; rfl
  have x1 : w2.cell? ⟨w.heap.size + 1, 1, none⟩ = some (.slice none 0 0) := by rw [bC2.cell]; rfl
  have HE := Lib.hid (call_end K1.out BC.out hb k2)
  clear hb k2 bC2
  rw [hcv, hdv] at HE ⊢
  simp only [List.length_nil] at HE ⊢
  generalize List.length _ = L at HE ⊢
  clear hcv hdv HB
  go_wp2_with fail
  obtain ⟨r0, r1, hm⟩ := HE.out
  exact bodyPost_ret (v := .agg #[.slice CA L cc, .slice DA 0 dc]) (by simp [results, Try.results10, go_sem, r0, r1]) rfl hm
set_option maxRecDepth 100000 in
set_option maxHeartbeats 2000000 in
theorem call_8 (dn dm dv : Nat) (d : Int) (w : World) (hd : -9223372036854775808 ≤ d ∧ d < 9223372036854775808) (he : d % 11 = 8) (hv : dv < 4294967296) :
    Calls Try.prog 10 #[.agg #[.int .i64 d, .int .u64 (dn : Int), .int .u64 (dm : Int), .int .u32 (dv : Int)]] w (CallMade w (codeOf 8 dn dm dv)) := by
  obtain ⟨w1, hw1, k1, bD, bC⟩ := do_blk d dn dm dv w
  have d0 : w1.cell? ⟨w.heap.size, 0, none⟩ = some (.int .i64 d) := by rw [bD.cell]; rfl
  have d1 : w1.cell? ⟨w.heap.size, 1, none⟩ = some (.int .u64 (dn : Int)) := by rw [bD.cell]; rfl
  have d2 : w1.cell? ⟨w.heap.size, 2, none⟩ = some (.int .u64 (dm : Int)) := by rw [bD.cell]; rfl
  have d3 : w1.cell? ⟨w.heap.size, 3, none⟩ = some (.int .u32 (dv : Int)) := by rw [bD.cell]; rfl
  have HWI := Lib.hid (within11 d hd w1)
  rw [he] at HWI
  have HB := Lib.hid (getBox_code w1)
  have hv1 : (dv : Int) < 4294967296 := by omega
  have hv0 : (0 : Int) ≤ (dv : Int) := by omega
  have HW := Lib.hid hw1
  have K1 : Hid (∀ S, Keeps S w w1) := Lib.hid k1
  have BC := Lib.hid bC
  clear hw1 k1 bD bC he hd hv
  rw [show codeOf 8 dn dm dv = getBox from rfl]
  go_enter Try.func10, Try.ntmps10
  go_wp2_with fail
  rw [← HW.out]
  go_wp2_with fail
  refine HWI.out.mono ?_
  rintro e w' ⟨rfl, rfl⟩
  go_wp2_with fail
  refine HB.out.mono ?_
  rintro e w2 ⟨cv, dvv, rfl, hb, k2⟩
  obtain ⟨⟨CA, cc, hcv, _⟩, ⟨DA, dc, hdv, _⟩⟩ := hb w2 (Keeps.refl _ _)
  have bC2 := Blk.keeps BC.out (k2 (fun _ => False)) (fun z => z)
  have f0 := bC2.frozen 0
  have f1 := bC2.frozen 1
  have x0 : w2.cell? ⟨w.heap.size + 1, 0, none⟩ = some (.slice none 0 0) := by rw [bC2.cell]; rfl
  have x1 : w2.cell? ⟨w.heap.size + 1, 1, none⟩ = some (.slice none 0 0) := by rw [bC2.cell]; rfl
  have HE := Lib.hid (call_end K1.out BC.out hb k2)
  clear hb k2 bC2
  rw [hcv, hdv] at HE ⊢
  simp only [List.length_nil] at HE ⊢
  generalize List.length _ = L at HE ⊢
  clear hcv hdv HB
  go_wp2_with fail
  obtain ⟨r0, r1, hm⟩ := HE.out
  exact bodyPost_ret (v := .agg #[.slice CA L cc, .slice DA 0 dc]) (by simp [results, Try.results10, go_sem, r0, r1]) rfl hm
set_option maxRecDepth 100000 in
set_option maxHeartbeats 2000000 in
theorem call_9 (dn dm dv : Nat) (d : Int) (w : World) (hd : -9223372036854775808 ≤ d ∧ d < 9223372036854775808) (he : d % 11 = 9) (hv : dv < 4294967296) :
    Calls Try.prog 10 #[.agg #[.int .i64 d, .int .u64 (dn : Int), .int .u64 (dm : Int), .int .u32 (dv : Int)]] w (CallMade w (codeOf 9 dn dm dv)) := by
  obtain ⟨w1, hw1, k1, bD, bC⟩ := do_blk d dn dm dv w
  have d0 : w1.cell? ⟨w.heap.size, 0, none⟩ = some (.int .i64 d) := by rw [bD.cell]; rfl
  have d1 : w1.cell? ⟨w.heap.size, 1, none⟩ = some (.int .u64 (dn : Int)) := by rw [bD.cell]; rfl
  have d2 : w1.cell? ⟨w.heap.size, 2, none⟩ = some (.int .u64 (dm : Int)) := by rw [bD.cell]; rfl
  have d3 : w1.cell? ⟨w.heap.size, 3, none⟩ = some (.int .u32 (dv : Int)) := by rw [bD.cell]; rfl
  have HWI := Lib.hid (within11 d hd w1)
  rw [he] at HWI
  have HB := Lib.hid (put_code dv w1)
  have hv1 : (dv : Int) < 4294967296 := by omega
  have hv0 : (0 : Int) ≤ (dv : Int) := by omega
  have HW := Lib.hid hw1
  have K1 : Hid (∀ S, Keeps S w w1) := Lib.hid k1
  have BC := Lib.hid bC
  clear hw1 k1 bD bC he hd hv
  rw [show codeOf 9 dn dm dv = putBox dv from rfl]
  go_enter Try.func10, Try.ntmps10
  go_wp2_with fail
  rw [← HW.out]
  go_wp2_with fail
  refine HWI.out.mono ?_
  rintro e w' ⟨rfl, rfl⟩
  go_wp2_with fail
  refine HB.out.mono ?_
  rintro e w2 ⟨cv, dvv, rfl, hb, k2⟩
  obtain ⟨⟨CA, cc, hcv, _⟩, ⟨DA, dc, hdv, _⟩⟩ := hb w2 (Keeps.refl _ _)
  have bC2 := Blk.keeps BC.out (k2 (fun _ => False)) (fun z => z)
  have f0 := bC2.frozen 0
  have f1 := bC2.frozen 1
  have x0 : w2.cell? ⟨w.heap.size + 1, 0, none⟩ = some (.slice none 0 0) := by rw [bC2.cell]; rfl
  have x1 : w2.cell? ⟨w.heap.size + 1, 1, none⟩ = some (.slice none 0 0) := by rw [bC2.cell]; rfl
  have HE := Lib.hid (call_end K1.out BC.out hb k2)
  clear hb k2 bC2
  rw [hcv, hdv] at HE ⊢
  simp only [List.length_nil] at HE ⊢
  generalize List.length _ = L at HE ⊢
  clear hcv hdv HB
  go_wp2_with fail
  obtain ⟨r0, r1, hm⟩ := HE.out
  exact bodyPost_ret (v := .agg #[.slice CA L cc, .slice DA 0 dc]) (by simp [results, Try.results10, go_sem, r0, r1]) rfl hm
set_option maxRecDepth 100000 in
set_option maxHeartbeats 2000000 in
theorem call_10 (dn dm dv : Nat) (d : Int) (w : World) (hd : -9223372036854775808 ≤ d ∧ d < 9223372036854775808) (he : d % 11 = 10) (hv : dv < 4294967296) :
    Calls Try.prog 10 #[.agg #[.int .i64 d, .int .u64 (dn : Int), .int .u64 (dm : Int), .int .u32 (dv : Int)]] w (CallMade w (codeOf 10 dn dm dv)) := by
  obtain ⟨w1, hw1, k1, bD, bC⟩ := do_blk d dn dm dv w
  have d0 : w1.cell? ⟨w.heap.size, 0, none⟩ = some (.int .i64 d) := by rw [bD.cell]; rfl
  have d1 : w1.cell? ⟨w.heap.size, 1, none⟩ = some (.int .u64 (dn : Int)) := by rw [bD.cell]; rfl
  have d2 : w1.cell? ⟨w.heap.size, 2, none⟩ = some (.int .u64 (dm : Int)) := by rw [bD.cell]; rfl
  have d3 : w1.cell? ⟨w.heap.size, 3, none⟩ = some (.int .u32 (dv : Int)) := by rw [bD.cell]; rfl
  have HWI := Lib.hid (within11 d hd w1)
  rw [he] at HWI
  have HB := Lib.hid (try_code dn dv w1)
  have hv1 : (dv : Int) < 4294967296 := by omega
  have hv0 : (0 : Int) ≤ (dv : Int) := by omega
  have HW := Lib.hid hw1
  have K1 : Hid (∀ S, Keeps S w w1) := Lib.hid k1
  have BC := Lib.hid bC
  clear hw1 k1 bD bC he hd hv
  rw [show codeOf 10 dn dm dv = tryBox dn dv from rfl]
  go_enter Try.func10, Try.ntmps10
  go_wp2_with fail
  rw [← HW.out]
  go_wp2_with fail
  refine HWI.out.mono ?_
  rintro e w' ⟨rfl, rfl⟩
  go_wp2_with fail
  refine HB.out.mono ?_
  rintro e w2 ⟨cv, dvv, rfl, hb, k2⟩
  obtain ⟨⟨CA, cc, hcv, _⟩, ⟨DA, dc, hdv, _⟩⟩ := hb w2 (Keeps.refl _ _)
  have bC2 := Blk.keeps BC.out (k2 (fun _ => False)) (fun z => z)
  have f0 := bC2.frozen 0
  have f1 := bC2.frozen 1
  have x0 : w2.cell? ⟨w.heap.size + 1, 0, none⟩ = some (.slice none 0 0) := by rw [bC2.cell]; rfl
  have x1 : w2.cell? ⟨w.heap.size + 1, 1, none⟩ = some (.slice none 0 0) := by rw [bC2.cell]; rfl
  have HE := Lib.hid (call_end K1.out BC.out hb k2)
  clear hb k2 bC2
  rw [hcv, hdv] at HE ⊢
  simp only [List.length_nil] at HE ⊢
  generalize List.length _ = L at HE ⊢
  clear hcv hdv HB
  go_wp2_with fail
  obtain ⟨r0, r1, hm⟩ := HE.out
  exact bodyPost_ret (v := .agg #[.slice CA L cc, .slice DA 0 dc]) (by simp [results, Try.results10, go_sem, r0, r1]) rfl hm
theorem call_ (k dn dm dv : Nat) (d : Int) (w : World) (hk : k < 11) (hd : -9223372036854775808 ≤ d ∧ d < 9223372036854775808) (he : d % 11 = (k : Int)) (hv : dv < 4294967296) :
    Calls Try.prog 10 #[.agg #[.int .i64 d, .int .u64 (dn : Int), .int .u64 (dm : Int), .int .u32 (dv : Int)]] w (CallMade w (codeOf k dn dm dv)) := by
  rcases (show k = 0 ∨ k = 1 ∨ k = 2 ∨ k = 3 ∨ k = 4 ∨ k = 5 ∨ k = 6 ∨ k = 7 ∨ k = 8 ∨ k = 9 ∨ k = 10 by omega) with rfl | rfl | rfl | rfl | rfl | rfl | rfl | rfl | rfl | rfl | rfl
  · exact call_0 dn dm dv d w hd he hv
  · exact call_1 dn dm dv d w hd he hv
  · exact call_2 dn dm dv d w hd he hv
  · exact call_3 dn dm dv d w hd he hv
  · exact call_4 dn dm dv d w hd he hv
  · exact call_5 dn dm dv d w hd he hv
  · exact call_6 dn dm dv d w hd he hv
  · exact call_7 dn dm dv d w hd he hv
  · exact call_8 dn dm dv d w hd he hv
  · exact call_9 dn dm dv d w hd he hv
  · exact call_10 dn dm dv d w hd he hv
end Go.Proofs.Ytakpfkfhbeobeaa.rf3
