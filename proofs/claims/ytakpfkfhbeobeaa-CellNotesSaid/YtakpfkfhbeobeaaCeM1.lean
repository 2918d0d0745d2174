/-
  cell's tell: a gate of notes writes the operation down; a nil gate is told nothing. cell's counters, under a gate of notes or none. cell's counters: Add, and the loop of compare and swap.
-/
import Derived.Test.YtakpfkfhbeobeaaGt
import Derived.Test.YtakpfkfhbeobeaaAtU
import Derived.Deep.LoopGhost
namespace Go.Proofs.Ytakpfkfhbeobeaa.ce
open Go.RowKit Go.Proofs.Ytakpfkfhbeobeaa.oc Go.Proofs.Ytakpfkfhbeobeaa.mz
set_option maxRecDepth 100000 in
set_option maxHeartbeats 1000000 in
theorem tell_free (op : Nat) (w : World) : Calls Try.prog 43 #[.nilIface, .int .u8 op] w fun e w' => e = .returned (.tuple #[]) ∧ w = w' := by
  have HT := Lib.hid (gt.tell_nil op 0 w)
  go_enter Try.func43, Try.ntmps43
  go_wp2_with fail
  refine HT.out.mono ?_
  rintro e w' ⟨rfl, rfl⟩
  go_wp2
  go_end0
  exact ⟨rfl, rfl⟩
set_option maxRecDepth 100000 in
set_option maxHeartbeats 1000000 in
theorem tell_notes (N op : Nat) (w : World) (ms : List (Nat × Nat)) (F : Nat → Prop) (h : NInv w N ms F) (hl : ms.length < 1000000) :
    Calls Try.prog 43 #[.iface 40 (.pointer (some ⟨N, 0, none⟩)), .int .u8 op] w fun e w' => e = .returned (.tuple #[]) ∧ NInv w' N (ms ++ [(op, 0)]) (Grown w w' F) ∧ Keeps F w w' := by
  have HS := Lib.hid (gt.tell_notes N op 0 w ms F h hl)
  have h0 : ((0 : Nat) : Int) = 0 := rfl
  rw [h0] at HS
  clear h h0
  go_enter Try.func43, Try.ntmps43
  go_wp2_with fail
  refine HS.out.mono ?_
  rintro e w' ⟨rfl, h1, h2⟩
  have H1 := Lib.hid h1
  have H2 := Lib.hid h2
  clear h1 h2
  go_wp2
  go_end0
  exact ⟨rfl, H1.out, H2.out⟩
end Go.Proofs.Ytakpfkfhbeobeaa.ce
namespace Go.Proofs.Ytakpfkfhbeobeaa.ce
open Go.RowKit Go.Proofs.Ytakpfkfhbeobeaa.oc Go.Proofs.Ytakpfkfhbeobeaa.mz
/-- a gate: none, or notes that were told ms and may write in F -/
def Gate (w : World) (gv : Value) (ms : List (Nat × Nat)) (F : Nat → Prop) : Prop := gv = .nilIface ∨ ∃ N, gv = .iface 40 (.pointer (some ⟨N, 0, none⟩)) ∧ NInv w N ms F
theorem Gate.keeps {w w' : World} {gv : Value} {ms : List (Nat × Nat)} {F S : Nat → Prop} (h : Gate w gv ms F) (k : Keeps S w w') (hs : ∀ b, F b → ¬ S b) : Gate w' gv ms F := by
  rcases h with h | ⟨N, e, h⟩
  · exact .inl h
  · exact .inr ⟨N, e, h.keeps k hs⟩
theorem gate_tell (gv : Value) (op : Nat) (w : World) (ms : List (Nat × Nat)) (F : Nat → Prop) (h : Gate w gv ms F) (hl : ms.length < 1000000) :
    Calls Try.prog 43 #[gv, .int .u8 op] w fun e w' => e = .returned (.tuple #[]) ∧ Gate w' gv (ms ++ [(op, 0)]) (Grown w w' F) ∧ Keeps F w w' := by
  rcases h with rfl | ⟨N, rfl, h⟩
  · refine (tell_free op w).mono ?_
    rintro e w' ⟨rfl, rfl⟩
    exact ⟨rfl, .inl rfl, Keeps.refl _ _⟩
  · refine (tell_notes N op w ms F h hl).mono ?_
    rintro e w' ⟨rfl, h1, h2⟩
    exact ⟨rfl, .inr ⟨N, rfl, h1⟩, h2⟩
/-- block C is a counter with v -/
def Cnt (w : World) (C v : Nat) : Prop := Blk w C 108 [.pointer (some ⟨C, 0, none⟩), .int .u64 (v : Int)] ∧ v < 18446744073709551616
set_option maxRecDepth 100000 in
set_option maxHeartbeats 1000000 in
theorem new_counter (v : Nat) (w : World) (hv : v < 18446744073709551616) : Calls Try.prog 15 #[.int .u64 v] w fun e w' => e = .returned (.pointer (some ⟨w.heap.size, 0, none⟩)) ∧ Cnt w' w.heap.size v ∧ ∀ S, Keeps S w w' := by
  have HV : Hid (v < 18446744073709551616) := Lib.hid hv
  clear hv
  obtain ⟨w1, hw1⟩ : ∃ w1, w1 = w.alloc (.cells #[.pointer (some ⟨w.heap.size, 0, none⟩), .int .u64 0] 108) := ⟨_, rfl⟩
  have b1 := Blk.new w 108 #[.pointer (some ⟨w.heap.size, 0, none⟩), .int .u64 0]
  rw [← hw1] at b1
  have HS := Lib.hid (at_.u64_store w.heap.size 1 0 v w1 (by rw [b1.cell]; rfl) (b1.frozen 1))
  have HW := Lib.hid hw1
  have B1 := Lib.hid b1
  clear hw1 b1
  go_enter Try.func15, Try.ntmps15
  go_wp2_with fail
  rw [← HW.out]
  refine HS.out.mono ?_
  rintro e w2 ⟨rfl, rfl⟩
  go_wp2
  go_ret
  refine ⟨rfl, ⟨by have := B1.out.put 1 (.int .u64 (v : Int)); simpa using this, HV.out⟩, fun S => ?_⟩
  have k1 : Keeps S w w1 := by rw [HW.out]; exact (Keeps.refl S w).alloc _
  exact k1.setCell (p := ⟨w.heap.size, 1, none⟩) (.inr (Nat.le_refl _)) _
theorem cnt_info : (Try.prog.info? 108).map (fun i => i.size) = some 2 := by kernel_rfl
theorem cnt_self (w : World) (a : Addr) : (binOp .neq 27 (.pointer (some a)) (.pointer (some a))).run Try.prog w = .ok (.bool false) w := by
  cases hi : Try.prog.info? 108 with
  | none => have := cnt_info; rw [hi] at this; cases this
  | some i => exact Lib.run_neq_ptr_same w a Try.underlying27 hi
set_option maxRecDepth 100000 in
set_option maxHeartbeats 1000000 in
theorem cnt_none (C v : Nat) (w : World) (h : Cnt w C v) : Calls Try.prog 42 #[.pointer (some ⟨C, 0, none⟩)] w fun e w' => e = .returned (.bool false) ∧ w = w' := by
  have p0 : w.cell? ⟨C, 0, none⟩ = some (.pointer (some ⟨C, 0, none⟩)) := by rw [h.1.cell]; rfl
  have hns := cnt_self
  clear h
  go_enter Try.func42, Try.ntmps42
  go_wp2
  go_ret
  exact ⟨rfl, rfl⟩
/-- the counter's number, as a cell -/
theorem Cnt.cell {w : World} {C v : Nat} (h : Cnt w C v) : w.cell? ⟨C, 1, none⟩ = some (.int .u64 (v : Int)) ∧ w.frozen? ⟨C, 1, none⟩ = false := ⟨by rw [h.1.cell]; rfl, h.1.frozen 1⟩
theorem Cnt.keeps {w w' : World} {C v : Nat} {S : Nat → Prop} (h : Cnt w C v) (k : Keeps S w w') (hs : ¬ S C) : Cnt w' C v := ⟨Blk.keeps h.1 k hs, h.2⟩
theorem Cnt.set {w : World} {C v : Nat} (h : Cnt w C v) (n : Nat) (hn : n < 18446744073709551616) : Cnt (w.setCell ⟨C, 1, none⟩ (.int .u64 (n : Int))) C n := ⟨by have := h.1.put 1 (.int .u64 (n : Int)); simpa using this, hn⟩
set_option maxRecDepth 100000 in
set_option maxHeartbeats 1000000 in
theorem cnt_get (C v : Nat) (gv : Value) (w : World) (ms : List (Nat × Nat)) (F : Nat → Prop) (h : Cnt w C v) (hg : Gate w gv ms F) (hl : ms.length < 1000000) (hd : ¬ F C) :
    Calls Try.prog 19 #[.pointer (some ⟨C, 0, none⟩), gv] w fun e w' => e = .returned (.tuple #[.int .u64 v, .int .i64 0]) ∧ Gate w' gv (ms ++ [(1, 0)]) (Grown w w' F) ∧ Keeps F w w' := by
  have HC := Lib.hid (cnt_none C v w h)
  have HT := Lib.hid (gate_tell gv 1 w ms F hg hl)
  have HV := Lib.hid h
  clear h hg
  go_enter Try.func19, Try.ntmps19
  go_wp2_with fail
  refine HC.out.mono ?_
  rintro e w1 ⟨rfl, rfl⟩
  go_wp2_with fail
  refine HT.out.mono ?_
  rintro e w1 ⟨rfl, h1, h2⟩
  have H1 := Lib.hid h1
  have H2 := Lib.hid h2
  have hv := (HV.out.keeps h2 hd).cell
  have HL := Lib.hid (at_.u64_load C 1 v w1 hv.1)
  clear h1 h2 hv
  go_wp2_with fail
  refine HL.out.mono ?_
  rintro e w2 ⟨rfl, rfl⟩
  go_wp2
  go_ret2
  exact ⟨rfl, H1.out, H2.out⟩
end Go.Proofs.Ytakpfkfhbeobeaa.ce
namespace Go.Proofs.Ytakpfkfhbeobeaa.ce
open Go.RowKit Go.Proofs.Ytakpfkfhbeobeaa.oc Go.Proofs.Ytakpfkfhbeobeaa.mz
theorem Gate.wider {w : World} {gv : Value} {ms : List (Nat × Nat)} {F F' : Nat → Prop} (h : Gate w gv ms F) (k : ∀ b, F b → F' b) (hb : ∀ N, F N → ∀ b, F' b → N ≤ b ∧ b < w.heap.size) : Gate w gv ms F' := by
  rcases h with h | ⟨N, e, h⟩
  · exact .inl h
  · obtain ⟨mA, mc, h1, h2, h3, h4⟩ := h.at_
    exact .inr ⟨N, e, ⟨mA, mc, h1, h2, fun b hb => k b (h3 b hb), h4⟩, k N h.me, fun b hb' => hb N h.me b hb'⟩
/-- what a call on block C leaves of the gate: from w to w', behind a step from w1 -/
theorem gate_step {w w1 w2 : World} {gv : Value} {ms : List (Nat × Nat)} {F S : Nat → Prop} (h : Gate w1 gv ms (Grown w w1 F)) (k : Keeps S w1 w2) (hs : ∀ b, Grown w w1 F b → ¬ S b) : Gate w2 gv ms (Grown w w2 F) := by
  rcases h with h | ⟨N, e, h⟩
  · exact .inl h
  · obtain ⟨mA, mc, h1, h2, h3, h4⟩ := (h.keeps k hs).at_
    refine .inr ⟨N, e, ⟨mA, mc, h1, h2, fun b hb => ?_, h4⟩, ?_, fun b hb => ?_⟩
    · rcases h3 b hb with q | q
      · exact .inl q
      · exact .inr ⟨q.1, Nat.lt_of_lt_of_le q.2 k.size⟩
    · rcases h.me with q | q
      · exact .inl q
      · exact .inr ⟨q.1, Nat.lt_of_lt_of_le q.2 k.size⟩
    · rcases hb with q | q
      · exact ⟨(h.above b (.inl q)).1, Nat.lt_of_lt_of_le (h.above b (.inl q)).2 k.size⟩
      · refine ⟨?_, q.2⟩
        rcases h.me with z | z
        · have := (h.above N (.inl z)).2
          rcases Nat.lt_or_ge b w1.heap.size with y | y
          · exact (h.above b (.inr ⟨q.1, y⟩)).1
          · omega
        · rcases Nat.lt_or_ge b w1.heap.size with y | y
          · exact (h.above b (.inr ⟨q.1, y⟩)).1
          · omega
/-- two tellings, one behind the other -/
theorem gate_twice {w w1 w2 : World} {gv : Value} {ms : List (Nat × Nat)} {F : Nat → Prop} (h : Gate w2 gv ms (Grown w1 w2 (Grown w w1 F))) (k0 : w.heap.size ≤ w1.heap.size) (k1 : w1.heap.size ≤ w2.heap.size) : Gate w2 gv ms (Grown w w2 F) := by
  rcases h with h | ⟨N, e, h⟩
  · exact .inl h
  · obtain ⟨mA, mc, h1, h2, h3, h4⟩ := h.at_
    have up : ∀ b, Grown w1 w2 (Grown w w1 F) b → Grown w w2 F b := fun b hb => by
      rcases hb with (q | q) | q
      · exact .inl q
      · exact .inr ⟨q.1, by omega⟩
      · exact .inr ⟨by omega, q.2⟩
    have dn : ∀ b, Grown w w2 F b → Grown w1 w2 (Grown w w1 F) b := fun b hb => by
      rcases hb with q | q
      · exact .inl (.inl q)
      · rcases Nat.lt_or_ge b w1.heap.size with y | y
        · exact .inl (.inr ⟨q.1, y⟩)
        · exact .inr ⟨y, q.2⟩
    exact .inr ⟨N, e, ⟨mA, mc, h1, h2, fun b hb => up b (h3 b hb), h4⟩, up N h.me, fun b hb => h.above b (dn b hb)⟩
theorem Gate.lt {w : World} {gv : Value} {ms : List (Nat × Nat)} {F : Nat → Prop} (h : Gate w gv ms F) (hn : gv ≠ .nilIface) : ∀ b, F b → b < w.heap.size := fun b hb => by
  rcases h with h | ⟨N, e, h⟩
  · exact absurd h hn
  · exact (h.above b hb).2
/-- what a call on a counter leaves -/
def CPost (C v' : Nat) (gv : Value) (ms : List (Nat × Nat)) (F : Nat → Prop) (w : World) (w' : World) : Prop := Cnt w' C v' ∧ Gate w' gv ms (Grown w w' F) ∧ Keeps (fun b => F b ∨ b = C) w w'
set_option maxRecDepth 100000 in
set_option maxHeartbeats 1000000 in
theorem cnt_add (C v n : Nat) (gv : Value) (w : World) (ms : List (Nat × Nat)) (F : Nat → Prop) (h : Cnt w C v) (hg : Gate w gv ms F) (hl : ms.length < 1000000) (hd : ¬ F C) :
    Calls Try.prog 20 #[.pointer (some ⟨C, 0, none⟩), gv, .int .u64 n] w fun e w' => e = .returned (.tuple #[.int .u64 (((v + n) % W64 : Nat) : Int), .int .i64 0]) ∧ CPost C ((v + n) % W64) gv (ms ++ [(3, 0)]) F w w' := by
  have HC := Lib.hid (cnt_none C v w h)
  have HT := Lib.hid (gate_tell gv 3 w ms F hg hl)
  have HV := Lib.hid h
  clear h hg
  go_enter Try.func20, Try.ntmps20
  go_wp2_with fail
  refine HC.out.mono ?_
  rintro e w1 ⟨rfl, rfl⟩
  go_wp2_with fail
  refine HT.out.mono ?_
  rintro e w1 ⟨rfl, h1, h2⟩
  have H1 := Lib.hid h1
  have H2 := Lib.hid h2
  have hc1 := HV.out.keeps h2 hd
  have hv := hc1.cell
  have HL := Lib.hid (at_.u64_add C 1 v n w1 hv.1 hv.2)
  have HC1 := Lib.hid hc1
  clear h1 h2 hv hc1
  go_wp2_with fail
  refine HL.out.mono ?_
  rintro e w2 ⟨rfl, rfl⟩
  go_wp2
  go_ret2
  have kC : Keeps (· = C) w1 (w1.setCell ⟨C, 1, none⟩ (.int .u64 (((v + n) % W64 : Nat) : Int))) := (Keeps.refl (· = C) w1).setCell (p := ⟨C, 1, none⟩) (.inl rfl) _
  have hCl := HV.out.1.lt
  refine ⟨rfl, HC1.out.set _ (mod_lt64 _), gate_step H1.out kC (fun b hb e => ?_), (H2.out.mono fun _ _ z => .inl z).trans (kC.mono fun _ _ z => .inr z)⟩
  subst e
  rcases hb with q | q
  · exact hd q
  · omega
end Go.Proofs.Ytakpfkfhbeobeaa.ce
