/-
  Notes: a gate that writes down what it is told; what tells a gate.
-/
import Derived.Test.YtadnkidbglhdlaaMzBase
import Derived.BigRegion
import Derived.BigQuiet
import Derived.Deep.QuietTactic
import Derived.Deep.RegionHeld3
import Derived.Deep.RegionLaw
import Derived.Lib.Builder
namespace Go.Proofs.Ytadnkidbglhdlaa.mz
open Go.RowKit Go.Proofs.Ytadnkidbglhdlaa.oc
/-- block N is a Notes that NewNotes made, and was told ms; all that it may write lies in F -/
structure NInv (w : World) (N : Nat) (ms : List (Nat × Nat)) (F : Nat → Prop) : Prop where
  at_ : ∃ mA mc, Blk w N 69 [.pointer (some ⟨N, 0, none⟩), .slice mA ms.length mc] ∧ w.ownsRow (N + 1) 66 2 (.slice mA ms.length mc) ms.length (flat2 ms) ∧ (∀ b, (Value.slice mA ms.length mc).ownBlock = some b → F b) ∧ (ms = [] → mA = none ∧ mc = 0)
  me : F N
  above : ∀ b, F b → N ≤ b ∧ b < w.heap.size
theorem NInv.keeps {w w' : World} {N : Nat} {ms : List (Nat × Nat)} {F S : Nat → Prop} (h : NInv w N ms F) (k : Keeps S w w') (hs : ∀ b, F b → ¬ S b) : NInv w' N ms F := by
  obtain ⟨mA, mc, h1, h2, h3, h4⟩ := h.at_
  exact ⟨⟨mA, mc, Blk.keeps h1 k (hs N h.me), owns_keeps h2 k (fun b hb => hs b (h3 b hb)), h3, h4⟩, h.me, fun b hb => ⟨(h.above b hb).1, Nat.lt_of_lt_of_le (h.above b hb).2 k.size⟩⟩
theorem NInv.grown {w w' : World} {N : Nat} {ms : List (Nat × Nat)} {F : Nat → Prop} (h : NInv w' N ms F) (hB : N ≤ w.heap.size) : NInv w' N ms (Grown w w' F) := by
  obtain ⟨mA, mc, h1, h2, h3, h4⟩ := h.at_
  exact ⟨⟨mA, mc, h1, h2, fun b hb => .inl (h3 b hb), h4⟩, .inl h.me, fun b hb => by
    rcases hb with hb | hb
    · exact h.above b hb
    · exact ⟨by omega, hb.2⟩⟩
theorem notes_told {w w1 w9 : World} {N c pc mc nn : Nat} {mA : Option Addr} {ms : List (Nat × Nat)} {F : Nat → Prop} {v2 : Value} {o : Obj} (h : NInv w N ms F) (hb : Blk w N 69 [.pointer (some ⟨N, 0, none⟩), .slice mA ms.length mc]) (hr0 : w.ownsRow (N + 1) 66 2 (.slice mA ms.length mc) ms.length (flat2 ms)) (hf : ∀ b, (Value.slice mA ms.length mc).ownBlock = some b → F b)
    (k1 : ∀ S, Keeps S w w1) (hg : ((w1.alloc o).drew).grownBy w9 (Value.slice mA ms.length mc).ownBlock) (hr : w9.ownsRow (N + 1) 66 2 v2 nn (flat2 ms ++ [.int .u8 (c : Int), .int .i64 (pc : Int)])) (hn : nn = ms.length + 1) (hat : v2.ownBlock = (Value.slice mA ms.length mc).ownBlock ∨ v2.ownBlock = some ((w1.alloc o).drew).heap.size) (hv : ∃ A c, v2 = .slice A nn c) :
    NInv (w9.setCell ⟨N, 1, none⟩ v2) N (ms ++ [(c, pc)]) (Grown w (w9.setCell ⟨N, 1, none⟩ v2) F) ∧ Keeps F w (w9.setCell ⟨N, 1, none⟩ v2) := by
  subst hn
  obtain ⟨A, cc, rfl⟩ := hv
  have k2 : Keeps (fun b => (Value.slice mA ms.length mc).ownBlock = some b) w w9 := (((k1 _).alloc o).drew).trans ⟨hg.size, fun b hb hs => hg.block b hb (fun e => hs e.symm), ⟨hg.os, hg.tape, hg.output⟩⟩
  have k3 : Keeps (· = N) w9 (w9.setCell ⟨N, 1, none⟩ (.slice A (ms.length + 1) cc)) := (Keeps.refl (· = N) w9).setCell (p := ⟨N, 1, none⟩) (.inl rfl) _
  have b9 := Blk.keeps hb k2 (fun z => by have := (hr0.lt N z).1; omega)
  have kF : Keeps F w (w9.setCell ⟨N, 1, none⟩ (.slice A (ms.length + 1) cc)) := (k2.mono fun b _ z => hf b z).trans (k3.mono fun b _ z => by subst z; exact h.me)
  have hs1 := (k1 (fun _ => False)).size
  refine ⟨⟨⟨A, cc, ?_, ?_, fun b hb' => ?_, fun e => by simp at e⟩, .inl h.me, fun b hb' => ?_⟩, kF⟩
  · have := b9.put 1 (.slice A (ms.length + 1) cc)
    simpa using this
  · have := owns_keeps hr k3 (fun b hb' e => by have := (hr.lt b hb').1; omega)
    rw [flat2_snoc]
    simpa using this
  · simp only [List.length_append, List.length_singleton] at hb'
    rcases hat with z | z
    · rw [z] at hb'; exact .inl (hf b hb')
    · have h1 := (hr.lt b hb').2
      rw [z] at hb'; injection hb' with hb'
      have : w.heap.size ≤ b := by rw [← hb']; show _ ≤ (w1.heap.push o).size; simp; omega
      exact .inr ⟨this, Nat.lt_of_lt_of_le h1 k3.size⟩
  · rcases hb' with hb' | hb'
    · exact ⟨(h.above b hb').1, Nat.lt_of_lt_of_le (h.above b hb').2 kF.size⟩
    · exact ⟨by have := (h.above N h.me).2; omega, hb'.2⟩
theorem notes_info : (Try.prog.info? 69).map (fun i => i.size) = some 2 := by kernel_rfl
theorem notes_self (w : World) (a : Addr) : (binOp .neq 31 (.pointer (some a)) (.pointer (some a))).run Try.prog w = .ok (.bool false) w := by
  cases hi : Try.prog.info? 69 with
  | none => have := notes_info; rw [hi] at this; cases this
  | some i => exact Lib.run_neq_ptr_same w a Try.underlying31 hi
theorem new_two_drew (w : World) (b c : Int) (ty : TypeId) : ∀ (j : Nat) (u : Value), [Value.int .u8 b, .int .i64 c][j]? = some u → ((w.alloc (.cells #[.int .u8 b, .int .i64 c] ty)).drew).cell? ((⟨w.heap.size, 0, none⟩ : Addr).add j) = some u := fun j u h => new_two w b c ty j u h
set_option maxRecDepth 100000 in
set_option maxHeartbeats 1000000 in
theorem step_notes (N c pc : Nat) (w : World) (ms : List (Nat × Nat)) (F : Nat → Prop) (h : NInv w N ms F) (hl : ms.length < 1000000) :
    Calls Try.prog 63 #[.pointer (some ⟨N, 0, none⟩), .agg #[.int .u8 c, .int .i64 pc]] w fun e w' => e = .returned (.tuple #[]) ∧ NInv w' N (ms ++ [(c, pc)]) (Grown w w' F) ∧ Keeps F w w' := by
  obtain ⟨i0, hi0, hz0, hz1, hz2⟩ := info_parts mark_info
  obtain ⟨mA, mc, hb, hr0, hf, _⟩ := h.at_
  obtain ⟨w1, hw1, k1, c1⟩ := enter_box w #[.int .u8 (c : Int), .int .i64 (pc : Int)] 66
  have b1 := Blk.keeps hb (k1 (fun _ => False)) (fun z => z)
  have r1 := owns_keeps hr0 (k1 (fun _ => False)) (fun _ _ z => z)
  have p0 : w1.cell? ⟨N, 0, none⟩ = some (.pointer (some ⟨N, 0, none⟩)) := by rw [b1.cell]; rfl
  have p1 : w1.cell? ⟨N, 1, none⟩ = some (.slice mA ms.length mc) := by rw [b1.cell]; rfl
  have f1 := b1.frozen 1
  have p00 : w.cell? ⟨N, 0, none⟩ = some (.pointer (some ⟨N, 0, none⟩)) := by rw [hb.cell]; rfl
  have hNw : N < w.heap.size := hb.lt
  have e0 : w1.cell? ⟨w.heap.size, 0, none⟩ = some (.int .u8 (c : Int)) := c1 0
  have e1 : w1.cell? ⟨w.heap.size, 1, none⟩ = some (.int .i64 (pc : Int)) := c1 1
  have hsz : w1.heap.size = w.heap.size + 1 := by rw [hw1]; show (w.heap.push _).size = _; simp
  have hNl : N < w1.heap.size := b1.lt
  have hol : w.heap.size < w1.heap.size := by omega
  have HFK := Lib.hid (show ∀ ob w9, ((w1.alloc ob).drew).grownBy w9 (Value.slice mA ms.length mc).ownBlock → w9.cell? ⟨N, 1, none⟩ = some (.slice mA ms.length mc) ∧ w9.frozen? ⟨N, 1, none⟩ = false from fun ob w9 hg => by
    have b9 := Blk.grown ((b1.alloc ob).drew) hg (fun e => by have := (hr0.lt _ e.symm).1; omega)
    exact ⟨by rw [b9.cell]; rfl, b9.frozen 1⟩)
  have HNEW := Lib.hid (fun w9 nn v2 o hg hr hn hat hv => notes_told (c := c) (pc := pc) (w9 := w9) (nn := nn) (v2 := v2) (o := o) h hb hr0 hf k1 hg hr hn hat hv)
  have HR := Lib.hid r1
  have n1 : ms.length + 1 ≤ maxLen := by unfold maxLen; omega
  have n2 : (ms.length + 1) * 16 ≤ 140737488355328 := by omega
  have HB : Hid (∀ ob, N + 1 ≤ ((w1.alloc ob).drew).heap.size) := Lib.hid (fun ob => by show _ ≤ (w1.heap.push ob).size; simp; omega)
  have HW := Lib.hid hw1
  clear hw1 k1 c1 b1 r1 hb hr0 hf h hsz
  have hns := notes_self
  go_enter Try.func63, Try.ntmps63
  go_wp2_with fail
  rw [← HW.out]
  clear HW p00 hNw
  go_region_law ((refine step_apps rfl _ _ 36 rfl (N + 1) 66 i0 _ 2 16 Try.underlying36 hi0 hz0 hz1 hz2 rfl (by decide) (.slice mA ms.length mc) ms.length (flat2 ms) rfl ((HR.out.alloc _).drew) ⟨w1.heap.size, 0, none⟩ 1 1 [.int .u8 (c : Int), .int .i64 (pc : Int)] rfl rfl (new_two_drew _ _ _ _) (two_one _ _) n1 n2 (HB.out _) ?_; intro v2 w9 hown2 hg2 hat2; obtain ⟨g2, cap2, rfl, hg20, hg21⟩ := hown2.form (Nat.succ_pos _); obtain ⟨x1, x2⟩ := HFK.out _ _ hg2))
  all_goals go_wp2_with fail
  all_goals go_end0
  all_goals exact ⟨rfl, HNEW.out _ _ _ _ hg2 hown2 rfl hat2 ⟨_, _, rfl⟩⟩
end Go.Proofs.Ytadnkidbglhdlaa.mz
