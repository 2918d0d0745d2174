/-
  tally: histograms: NewHist's object.
-/
import Derived.Test.YtekglcphdjjmcaaTa
import Derived.Test.YtekglcphdjjmcaaTaC
import Derived.Test.YtekglcphdjjmcaaLn
import Derived.Deep.RegionLaw
set_option linter.unusedVariables false
namespace Go.Proofs.Ytekglcphdjjmcaa.th
open Go.RowKit Go.Proofs.Ytekglcphdjjmcaa.oc Go.Proofs.Ytekglcphdjjmcaa.mz Go.Proofs.Ytekglcphdjjmcaa.at_ Go.Proofs.Ytekglcphdjjmcaa.gt Go.Proofs.Ytekglcphdjjmcaa.gw Go.Proofs.Ytekglcphdjjmcaa.tac
/-- block H is a histogram, its words but the last one lie in block W, the greatest number in block C -/
structure Th (w : World) (H W C : Nat) (ws : List Nat) (m : Nat) : Prop where
  blk : Blk w H 44 [.pointer (some ⟨H, 0, none⟩), .slice (some ⟨W, 0, none⟩) 66 66, .pointer (some ⟨C, 0, none⟩)]
  wd : Wd w W ws
  cnt : Cnt w C m
  len : ws.length = 66
  neW : H ≠ W
  neC : H ≠ C
  neWC : W ≠ C
section
variable {w w' : World} {H W C m : Nat} {ws : List Nat}
theorem Th.keeps {S : Nat → Prop} (h : Th w H W C ws m) (k : Keeps S w w') (hH : ¬ S H) (hW : ¬ S W) (hC : ¬ S C) : Th w' H W C ws m := ⟨Blk.keeps h.blk k hH, h.wd.keeps k hW, h.cnt.keeps k hC, h.len, h.neW, h.neC, h.neWC⟩
theorem Th.cell0 (h : Th w H W C ws m) : w.cell? ⟨H, 0, none⟩ = some (.pointer (some ⟨H, 0, none⟩)) := by rw [h.blk.cell]; rfl
theorem Th.cell1 (h : Th w H W C ws m) : w.cell? ⟨H, 1, none⟩ = some (.slice (some ⟨W, 0, none⟩) 66 66) := by rw [h.blk.cell]; rfl
theorem Th.cell2 (h : Th w H W C ws m) : w.cell? ⟨H, 2, none⟩ = some (.pointer (some ⟨C, 0, none⟩)) := by rw [h.blk.cell]; rfl
theorem Th.ltH (h : Th w H W C ws m) : H < w.heap.size := h.blk.lt
theorem Th.ltW (h : Th w H W C ws m) : W < w.heap.size := h.wd.row.lt
theorem Th.ltC (h : Th w H W C ws m) : C < w.heap.size := h.cnt.1.lt
end
theorem th_info : (Try.prog.info? 44).map (fun i => i.size) = some 3 := by kernel_rfl
theorem th_self (w : World) (a : Addr) : (binOp .neq 23 (.pointer (some a)) (.pointer (some a))).run Try.prog w = .ok (.bool false) w := by
  cases hi : Try.prog.info? 44 with
  | none => have := th_info; rw [hi] at this; cases this
  | some i => exact Lib.run_neq_ptr_same w a Try.underlying23 hi
set_option maxRecDepth 100000 in
theorem none_ (H W C m : Nat) (ws : List Nat) (w : World) (h : Th w H W C ws m) : Calls Try.prog 24 #[.pointer (some ⟨H, 0, none⟩)] w fun e w' => e = .returned (.bool false) ∧ w = w' := by
  have p0 := h.cell0
  have hns := th_self
  clear h
  go_enter Try.func24, Try.ntmps24
  go_wp2
  go_ret
  exact ⟨rfl, rfl⟩
theorem ptr_nil (w : World) : (binOp .eql 23 (.pointer none) (.pointer none)).run Try.prog w = .ok (.bool true) w := by kernel_rfl
theorem ptr_other (a : Addr) (w : World) : (binOp .neq 23 (.pointer none) (.pointer (some a))).run Try.prog w = .ok (.bool true) w := by kernel_rfl
set_option maxRecDepth 100000 in
theorem none_off (p : Value) (w : World) (h : ta.Off w p) : Calls Try.prog 24 #[p] w fun e w' => e = .returned (.bool true) ∧ w = w' := by
  have hpn := ptr_nil
  have hpo := ptr_other
  rcases h with rfl | ⟨T, rfl, h⟩
  · go_enter Try.func24, Try.ntmps24
    go_wp2
    go_ret
    exact ⟨rfl, rfl⟩
  · go_enter Try.func24, Try.ntmps24
    go_wp2
    go_ret
    exact ⟨rfl, rfl⟩
set_option maxRecDepth 100000 in
set_option maxHeartbeats 2000000 in
theorem new_hist (w : World) : Calls Try.prog 18 #[] w fun e w' => ∃ H W C, e = .returned (.pointer (some ⟨H, 0, none⟩)) ∧ Th w' H W C (List.replicate 66 0) 0 ∧ w.heap.size ≤ H ∧ w.heap.size ≤ W ∧ w.heap.size ≤ C ∧ ∀ S, Keeps S w w' := by
  have hmk : ∀ w, (Instr.makeSlice 39 (.int .i64 66) (.int .i64 66)).run Try.prog w = .ok (.slice (some ⟨w.heap.size, 0, none⟩) 66 66) (w.alloc (.cells (madeCells #[.int .u64 0] 66) 88)) := fun w => ta.make_words 66 w (by decide)
  have HNC : Hid (∀ w, Calls Try.prog 33 #[.int .u64 (0 : Int)] w fun e w' => e = .returned (.pointer (some ⟨w.heap.size, 0, none⟩)) ∧ Cnt w' w.heap.size 0 ∧ ∀ S, Keeps S w w') := Lib.hid (fun w => new_counter 0 w (by decide))
  go_enter Try.func18, Try.ntmps18
  go_wp2_with fail
  go_region_law ((go_simp; go_at_call 33; refine (HNC.out _).mono ?_; rintro e w2 ⟨rfl, hc2, hk2⟩; have HC2 := Lib.hid hc2; have HK2 : Hid (∀ S, Keeps S _ w2) := Lib.hid hk2; clear hc2 hk2))
  · have hb : Blk (w.alloc (.cells (madeCells #[.int .u64 0] 66) 88)).drew w.heap.size 88 (u64s (List.replicate 66 0)) := by
      have q := Blk.new w 88 (madeCells #[.int .u64 0] 66)
      rw [ta.made_u64s] at q
      exact Blk.keeps q (Keeps.refl (fun _ => False) _).drew (fun z => z)
    have hb2 := Lib.hid (Blk.keeps hb (HK2.out (fun _ => False)) (fun z => z))
    have hz : (w.alloc (.cells (madeCells #[.int .u64 0] 66) 88)).drew.heap.size = w.heap.size + 1 := by show (w.heap.push _).size = _; simp
    have HZ := Lib.hid hz
    have kk : Hid (∀ S, Keeps S w w2) := Lib.hid (fun S => ((Keeps.refl S w).alloc _).drew.trans (HK2.out S))
    rw [hz] at HC2
    clear hb hz HNC hmk HK2
    go_wp2_with fail
    go_ret
    have hs := HC2.out.1.lt
    refine ⟨w2.heap.size, w.heap.size, w.heap.size + 1, rfl, ⟨Blk.new w2 44 #[.pointer (some ⟨w2.heap.size, 0, none⟩), .slice (some ⟨w.heap.size, 0, none⟩) 66 66, .pointer (some ⟨w.heap.size + 1, 0, none⟩)], ⟨hb2.out.alloc _, ta.repl_small 66⟩, HC2.out.keeps ((Keeps.refl (fun _ => False) w2).alloc _) (fun z => z), by simp, by omega, by omega, by omega⟩, by omega, by omega, by omega, fun S => (kk.out S).alloc _⟩
  · have kk : Hid (∀ S, Keeps S w w2) := Lib.hid (fun S => (Keeps.refl S w).drew.trans (HK2.out S))
    have hb : Blk (w2.alloc (.cells (madeCells #[.int .u64 0] 66) 88)) w2.heap.size 88 (u64s (List.replicate 66 0)) := by
      have q := Blk.new w2 88 (madeCells #[.int .u64 0] 66)
      rwa [ta.made_u64s] at q
    have hz : (w2.alloc (.cells (madeCells #[.int .u64 0] 66) 88)).heap.size = w2.heap.size + 1 := by show (w2.heap.push _).size = _; simp
    have hw0 : w.drew.heap.size = w.heap.size := rfl
    rw [hw0] at HC2
    have hk3 : ∀ S, Keeps S w2 (w2.alloc (.cells (madeCells #[.int .u64 0] 66) 88)) := fun S => (Keeps.refl S w2).alloc _
    have hc3 := HC2.out.keeps (hk3 (fun _ => False)) (fun z => z)
    have HLT := Lib.hid HC2.out.1.lt
    generalize w2.alloc (.cells (madeCells #[.int .u64 0] 66) 88) = w3 at *
    have HB := Lib.hid hb
    have HC3 := Lib.hid hc3
    have K3 : Hid (∀ S, Keeps S w2 w3) := Lib.hid hk3
    have HZ := Lib.hid hz
    rw [← hz]
    clear hb hc3 hk3 hz hw0 HNC hmk HK2 HC2
    go_wp2_with fail
    go_ret
    have hz := HZ.out
    have hs := HLT.out
    refine ⟨w3.heap.size, w2.heap.size, w.heap.size, rfl, ⟨Blk.new w3 44 #[.pointer (some ⟨w3.heap.size, 0, none⟩), .slice (some ⟨w2.heap.size, 0, none⟩) 66 66, .pointer (some ⟨w.heap.size, 0, none⟩)], ⟨HB.out.alloc _, ta.repl_small 66⟩, HC3.out.keeps ((Keeps.refl (fun _ => False) w3).alloc _) (fun z => z), by simp, by omega, by omega, by omega⟩, by omega, by omega, by omega, fun S => ((kk.out S).trans (K3.out S)).alloc _⟩
end Go.Proofs.Ytekglcphdjjmcaa.th
