/-
  A cell.Counter that is one word of another object (gates.As): its operations are told as those of the word 0; Get, Max.
-/
import Derived.Test.YtadnkidbglhdlaaGt
import Derived.Test.YtadnkidbglhdlaaAtU
import Derived.Deep.LoopGhost
import Derived.Deep.QuietTactic
import Derived.BigQuiet
set_option linter.unusedVariables false
set_option linter.unusedSimpArgs false
namespace Go.Proofs.Ytadnkidbglhdlaa.gac
open Go.RowKit Go.Proofs.Ytadnkidbglhdlaa.oc Go.Proofs.Ytadnkidbglhdlaa.mz
/-- the notes at N, told of each operation as of one of the word 0 -/
def rn (N : Nat) : Value := .iface 97 (.agg #[.iface 31 (.pointer (some ⟨N, 0, none⟩)), .int .i64 0])
theorem method_rn (k : Nat) (a b : Value) (w : World) : (method (k + 1) 97 (.agg #[a, b]) "Step").run Try.prog w = .ok (65, .agg #[a, b]) w := by kernel_rfl
theorem as_nil (k : Int) (w : World) : Calls Try.prog 30 #[.nilIface, .int .i64 k] w fun e w' => e = .returned .nilIface ∧ w = w' := by
  go_enter Try.func30, Try.ntmps30
  go_wp2
  go_ret
  exact ⟨rfl, rfl⟩
set_option maxRecDepth 100000 in
theorem as_notes (N : Nat) (w : World) : Calls Try.prog 30 #[.iface 31 (.pointer (some ⟨N, 0, none⟩)), .int .i64 0] w fun e w' => e = .returned (rn N) ∧ w = w' := by
  go_enter Try.func30, Try.ntmps30
  go_wp2
  go_ret
  exact ⟨rfl, rfl⟩
set_option maxRecDepth 100000 in
set_option maxHeartbeats 1000000 in
theorem step_rn (N op x : Nat) (w : World) (ms : List (Nat × Nat)) (F : Nat → Prop) (h : NInv w N ms F) (hl : ms.length < 1000000) :
    Calls Try.prog 65 #[.agg #[.iface 31 (.pointer (some ⟨N, 0, none⟩)), .int .i64 0], .agg #[.int .u8 op, .int .i64 x]] w fun e w' => e = .returned (.tuple #[]) ∧ NInv w' N (ms ++ [(op, 0)]) (Grown w w' F) ∧ Keeps F w w' := by
  obtain ⟨w1, hw1⟩ : ∃ w1, w1 = (w.alloc (.cells #[.iface 31 (.pointer (some ⟨N, 0, none⟩)), .int .i64 0] 97)).alloc (.cells #[.int .u8 op, .int .i64 x] 66) := ⟨_, rfl⟩
  have k1 : ∀ S, Keeps S w w1 := fun S => by rw [hw1]; exact ((Keeps.refl _ w).alloc _).alloc _
  have b1 : Blk w1 w.heap.size 97 [.iface 31 (.pointer (some ⟨N, 0, none⟩)), .int .i64 0] := by rw [hw1]; exact (Blk.new w 97 #[.iface 31 (.pointer (some ⟨N, 0, none⟩)), .int .i64 0]).alloc _
  have b2 : Blk w1 (w.heap.size + 1) 66 [.int .u8 op, .int .i64 x] := by
    have q := Blk.new (w.alloc (.cells #[.iface 31 (.pointer (some ⟨N, 0, none⟩)), .int .i64 0] 97)) 66 #[.int .u8 op, .int .i64 x]
    rw [← hw1, show (w.alloc (.cells #[.iface 31 (.pointer (some ⟨N, 0, none⟩)), .int .i64 0] 97)).heap.size = w.heap.size + 1 from by show (w.heap.push _).size = _; simp] at q
    exact q
  have c0 : w1.cell? ⟨w.heap.size, 0, none⟩ = some (.iface 31 (.pointer (some ⟨N, 0, none⟩))) := by rw [b1.cell]; rfl
  have c1 : w1.cell? ⟨w.heap.size, 1, none⟩ = some (.int .i64 0) := by rw [b1.cell]; rfl
  have c2 : w1.cell? ⟨w.heap.size + 1, 0, none⟩ = some (.int .u8 op) := by rw [b2.cell]; rfl
  have h1 := h.keeps (k1 (fun _ => False)) (fun _ _ z => z)
  have HT := Lib.hid (gt.tell_notes N op 0 w1 ms F h1 hl)
  have h66 : ((0 : Nat) : Int) = 0 := rfl
  rw [h66] at HT
  have K1 : Hid (∀ S, Keeps S w w1) := Lib.hid k1
  have HH := Lib.hid h
  clear b1 b2 h1 h k1 h66
  go_enter Try.func65, Try.ntmps65
  go_wp2_with fail
  have HW := Lib.hid hw1
  rw [← HW.out]
  clear hw1
  go_wp2_with fail
  refine HT.out.mono ?_
  rintro e w2 ⟨rfl, h1, h2⟩
  have H1 := Lib.hid h1
  have H2 := Lib.hid h2
  clear h1 h2
  go_wp2
  go_end0
  have hz := (K1.out (fun _ => False)).size
  have kk : Keeps F w w2 := (K1.out F).trans H2.out
  refine ⟨rfl, ?_, kk⟩
  obtain ⟨mA, mc, a1, a2, a3, a4⟩ := H1.out.at_
  have up : ∀ b, Grown w1 w2 F b → Grown w w2 F b := fun b hb => by
    rcases hb with y | y
    · exact .inl y
    · exact .inr ⟨by omega, y.2⟩
  refine ⟨⟨mA, mc, a1, a2, fun b hb => up b (a3 b hb), a4⟩, up N H1.out.me, fun b hb => ?_⟩
  have n1 := (HH.out.above N HH.out.me).2
  rcases hb with y | y
  · exact ⟨(HH.out.above b y).1, Nat.lt_of_lt_of_le (HH.out.above b y).2 kk.size⟩
  · exact ⟨by omega, y.2⟩
set_option maxRecDepth 100000 in
set_option maxHeartbeats 1000000 in
theorem gtell_rn (N op x : Nat) (w : World) (ms : List (Nat × Nat)) (F : Nat → Prop) (h : NInv w N ms F) (hl : ms.length < 1000000) :
    Calls Try.prog 35 #[rn N, .int .u8 op, .int .i64 (x : Int)] w fun e w' => e = .returned (.tuple #[]) ∧ NInv w' N (ms ++ [(op, 0)]) (Grown w w' F) ∧ Keeps F w w' := by
  have HS := Lib.hid (step_rn N op x w ms F h hl)
  clear h
  unfold rn
  have hm := fun (k : Nat) (a b : Value) (w : World) => method_rn k a b w
  go_enter Try.func35, Try.ntmps35
  go_wp2_with (go_at_call 65; refine HS.out.mono ?_; rintro e w' ⟨rfl, h1, h2⟩; have H1 := Lib.hid h1; have H2 := Lib.hid h2; clear h1 h2)
  go_end0
  exact ⟨rfl, H1.out, H2.out⟩
set_option maxRecDepth 100000 in
set_option maxHeartbeats 1000000 in
theorem tell_free (op : Nat) (w : World) : Calls Try.prog 42 #[.nilIface, .int .u8 op] w fun e w' => e = .returned (.tuple #[]) ∧ w = w' := by
  have HT := Lib.hid (gt.tell_nil op 0 w)
  go_enter Try.func42, Try.ntmps42
  go_wp2_with fail
  refine HT.out.mono ?_
  rintro e w' ⟨rfl, rfl⟩
  go_wp2
  go_end0
  exact ⟨rfl, rfl⟩
set_option maxRecDepth 100000 in
set_option maxHeartbeats 1000000 in
theorem tell_notes (N op : Nat) (w : World) (ms : List (Nat × Nat)) (F : Nat → Prop) (h : NInv w N ms F) (hl : ms.length < 1000000) :
    Calls Try.prog 42 #[rn N, .int .u8 op] w fun e w' => e = .returned (.tuple #[]) ∧ NInv w' N (ms ++ [(op, 0)]) (Grown w w' F) ∧ Keeps F w w' := by
  have HS := Lib.hid (gtell_rn N op 0 w ms F h hl)
  have h0 : ((0 : Nat) : Int) = 0 := rfl
  rw [h0] at HS
  clear h h0
  generalize rn N = gv at *
  go_enter Try.func42, Try.ntmps42
  go_wp2_with fail
  refine HS.out.mono ?_
  rintro e w' ⟨rfl, h1, h2⟩
  have H1 := Lib.hid h1
  have H2 := Lib.hid h2
  clear h1 h2
  go_wp2
  go_end0
  exact ⟨rfl, H1.out, H2.out⟩
/-- the counter's gate: none, or notes that were told ms and may write in F -/
def Gate (w : World) (gv : Value) (ms : List (Nat × Nat)) (F : Nat → Prop) : Prop := gv = .nilIface ∨ ∃ N, gv = rn N ∧ NInv w N ms F
theorem gate_tell (gv : Value) (op : Nat) (w : World) (ms : List (Nat × Nat)) (F : Nat → Prop) (h : Gate w gv ms F) (hl : ms.length < 1000000) :
    Calls Try.prog 42 #[gv, .int .u8 op] w fun e w' => e = .returned (.tuple #[]) ∧ Gate w' gv (ms ++ [(op, 0)]) (Grown w w' F) ∧ Keeps F w w' := by
  rcases h with rfl | ⟨N, rfl, h⟩
  · refine (tell_free op w).mono ?_
    rintro e w' ⟨rfl, rfl⟩
    exact ⟨rfl, .inl rfl, Keeps.refl _ _⟩
  · refine (tell_notes N op w ms F h hl).mono ?_
    rintro e w' ⟨rfl, h1, h2⟩
    exact ⟨rfl, .inr ⟨N, rfl, h1⟩, h2⟩
theorem Gate.keeps {w w' : World} {gv : Value} {ms : List (Nat × Nat)} {F S : Nat → Prop} (h : Gate w gv ms F) (k : Keeps S w w') (hs : ∀ b, F b → ¬ S b) : Gate w' gv ms F := by
  rcases h with h | ⟨N, e, h⟩
  · exact .inl h
  · exact .inr ⟨N, e, h.keeps k hs⟩
/-- block C is a counter with v -/
def Cnt (w : World) (C v : Nat) : Prop := Blk w C 87 [.pointer (some ⟨C, 0, none⟩), .int .u64 (v : Int)] ∧ v < 18446744073709551616
set_option maxRecDepth 100000 in
set_option maxHeartbeats 1000000 in
theorem new_counter (v : Nat) (w : World) (hv : v < 18446744073709551616) : Calls Try.prog 19 #[.int .u64 v] w fun e w' => e = .returned (.pointer (some ⟨w.heap.size, 0, none⟩)) ∧ Cnt w' w.heap.size v ∧ ∀ S, Keeps S w w' := by
  have HV : Hid (v < 18446744073709551616) := Lib.hid hv
  clear hv
  obtain ⟨w1, hw1⟩ : ∃ w1, w1 = w.alloc (.cells #[.pointer (some ⟨w.heap.size, 0, none⟩), .int .u64 0] 87) := ⟨_, rfl⟩
  have b1 := Blk.new w 87 #[.pointer (some ⟨w.heap.size, 0, none⟩), .int .u64 0]
  rw [← hw1] at b1
  have HS := Lib.hid (at_.u64_store w.heap.size 1 0 v w1 (by rw [b1.cell]; rfl) (b1.frozen 1))
  have HW := Lib.hid hw1
  have B1 := Lib.hid b1
  clear hw1 b1
  go_enter Try.func19, Try.ntmps19
  go_wp2_with fail
  rw [← HW.out]
  refine HS.out.mono ?_
  rintro e w2 ⟨rfl, rfl⟩
  go_wp2
  go_ret
  refine ⟨rfl, ⟨by have := B1.out.put 1 (.int .u64 (v : Int)); simpa using this, HV.out⟩, fun S => ?_⟩
  have k1 : Keeps S w w1 := by rw [HW.out]; exact (Keeps.refl S w).alloc _
  exact k1.setCell (p := ⟨w.heap.size, 1, none⟩) (.inr (Nat.le_refl _)) _
theorem cnt_info : (Try.prog.info? 87).map (fun i => i.size) = some 2 := by kernel_rfl
theorem cnt_self (w : World) (a : Addr) : (binOp .neq 53 (.pointer (some a)) (.pointer (some a))).run Try.prog w = .ok (.bool false) w := by
  cases hi : Try.prog.info? 87 with
  | none => have := cnt_info; rw [hi] at this; cases this
  | some i => exact Lib.run_neq_ptr_same w a Try.underlying53 hi
set_option maxRecDepth 100000 in
set_option maxHeartbeats 1000000 in
theorem cnt_none (C v : Nat) (w : World) (h : Cnt w C v) : Calls Try.prog 38 #[.pointer (some ⟨C, 0, none⟩)] w fun e w' => e = .returned (.bool false) ∧ w = w' := by
  have p0 : w.cell? ⟨C, 0, none⟩ = some (.pointer (some ⟨C, 0, none⟩)) := by rw [h.1.cell]; rfl
  have hns := cnt_self
  clear h
  go_enter Try.func38, Try.ntmps38
  go_wp2
  go_ret
  exact ⟨rfl, rfl⟩
/-- the counter's number, as a cell -/
theorem Cnt.cell {w : World} {C v : Nat} (h : Cnt w C v) : w.cell? ⟨C, 1, none⟩ = some (.int .u64 (v : Int)) ∧ w.frozen? ⟨C, 1, none⟩ = false := ⟨by rw [h.1.cell]; rfl, h.1.frozen 1⟩
theorem Cnt.keeps {w w' : World} {C v : Nat} {S : Nat → Prop} (h : Cnt w C v) (k : Keeps S w w') (hs : ¬ S C) : Cnt w' C v := ⟨Blk.keeps h.1 k hs, h.2⟩
theorem Cnt.set {w : World} {C v : Nat} (h : Cnt w C v) (n : Nat) (hn : n < 18446744073709551616) : Cnt (w.setCell ⟨C, 1, none⟩ (.int .u64 (n : Int))) C n := ⟨by have := h.1.put 1 (.int .u64 (n : Int)); simpa using this, hn⟩
set_option maxRecDepth 100000 in
set_option maxHeartbeats 1000000 in
theorem cnt_get (C v : Nat) (gv : Value) (w : World) (ms : List (Nat × Nat)) (F : Nat → Prop) (h : Cnt w C v) (hg : Gate w gv ms F) (hl : ms.length < 1000000) (hd : ¬ F C) :
    Calls Try.prog 32 #[.pointer (some ⟨C, 0, none⟩), gv] w fun e w' => e = .returned (.tuple #[.int .u64 v, .int .i64 0]) ∧ Gate w' gv (ms ++ [(1, 0)]) (Grown w w' F) ∧ Keeps F w w' := by
  have HC := Lib.hid (cnt_none C v w h)
  have HT := Lib.hid (gate_tell gv 1 w ms F hg hl)
  have HV := Lib.hid h
  clear h hg
  go_enter Try.func32, Try.ntmps32
  go_wp2_with fail
  refine HC.out.mono ?_
  rintro e w1 ⟨rfl, rfl⟩
  go_wp2_with fail
  refine HT.out.mono ?_
  rintro e w1 ⟨rfl, h1, h2⟩
  have H1 := Lib.hid h1
  have H2 := Lib.hid h2
  have hv := (HV.out.keeps h2 hd).cell
  have HL := Lib.hid (at_.u64_load C 1 v w1 hv.1)
  clear h1 h2 hv
  go_wp2_with fail
  refine HL.out.mono ?_
  rintro e w2 ⟨rfl, rfl⟩
  go_wp2
  go_ret2
  exact ⟨rfl, H1.out, H2.out⟩
/-- what a call on block C leaves of the gate: from w to w', behind a step from w1 -/
theorem gate_step {w w1 w2 : World} {gv : Value} {ms : List (Nat × Nat)} {F S : Nat → Prop} (h : Gate w1 gv ms (Grown w w1 F)) (k : Keeps S w1 w2) (hs : ∀ b, Grown w w1 F b → ¬ S b) : Gate w2 gv ms (Grown w w2 F) := by
  rcases h with h | ⟨N, e, h⟩
  · exact .inl h
  · obtain ⟨mA, mc, h1, h2, h3, h4⟩ := (h.keeps k hs).at_
    refine .inr ⟨N, e, ⟨mA, mc, h1, h2, fun b hb => ?_, h4⟩, ?_, fun b hb => ?_⟩
    · rcases h3 b hb with q | q
      · exact .inl q
      · exact .inr ⟨q.1, Nat.lt_of_lt_of_le q.2 k.size⟩
    · rcases h.me with q | q
      · exact .inl q
      · exact .inr ⟨q.1, Nat.lt_of_lt_of_le q.2 k.size⟩
    · rcases hb with q | q
      · exact ⟨(h.above b (.inl q)).1, Nat.lt_of_lt_of_le (h.above b (.inl q)).2 k.size⟩
      · refine ⟨?_, q.2⟩
        rcases h.me with z | z
        · have := (h.above N (.inl z)).2
          rcases Nat.lt_or_ge b w1.heap.size with y | y
          · exact (h.above b (.inr ⟨q.1, y⟩)).1
          · omega
        · rcases Nat.lt_or_ge b w1.heap.size with y | y
          · exact (h.above b (.inr ⟨q.1, y⟩)).1
          · omega
/-- two tellings, one behind the other -/
theorem gate_twice {w w1 w2 : World} {gv : Value} {ms : List (Nat × Nat)} {F : Nat → Prop} (h : Gate w2 gv ms (Grown w1 w2 (Grown w w1 F))) (k0 : w.heap.size ≤ w1.heap.size) (k1 : w1.heap.size ≤ w2.heap.size) : Gate w2 gv ms (Grown w w2 F) := by
  rcases h with h | ⟨N, e, h⟩
  · exact .inl h
  · obtain ⟨mA, mc, h1, h2, h3, h4⟩ := h.at_
    have up : ∀ b, Grown w1 w2 (Grown w w1 F) b → Grown w w2 F b := fun b hb => by
      rcases hb with (q | q) | q
      · exact .inl q
      · exact .inr ⟨q.1, by omega⟩
      · exact .inr ⟨by omega, q.2⟩
    have dn : ∀ b, Grown w w2 F b → Grown w1 w2 (Grown w w1 F) b := fun b hb => by
      rcases hb with q | q
      · exact .inl (.inl q)
      · rcases Nat.lt_or_ge b w1.heap.size with y | y
        · exact .inl (.inr ⟨q.1, y⟩)
        · exact .inr ⟨y, q.2⟩
    exact .inr ⟨N, e, ⟨mA, mc, h1, h2, fun b hb => up b (h3 b hb), h4⟩, up N h.me, fun b hb => h.above b (dn b hb)⟩
/-- what a call on a counter leaves -/
def CPost (C v' : Nat) (gv : Value) (ms : List (Nat × Nat)) (F : Nat → Prop) (w : World) (w' : World) : Prop := Cnt w' C v' ∧ Gate w' gv ms (Grown w w' F) ∧ Keeps (fun b => F b ∨ b = C) w w'
set_option maxRecDepth 100000 in
set_option maxHeartbeats 1000000 in
theorem changeUp_no (C v to : Nat) (p1 p2 : Value) (gv : Value) (w : World) (ms : List (Nat × Nat)) (F : Nat → Prop) (h : Cnt w C v) (hg : Gate w gv ms F) (hl : ms.length < 999999) (hd : ¬ F C)
    (HN : ∀ w1, Keeps F w w1 → Calls Try.prog 40 #[.int .u64 v, p1, p2] w1 fun e w' => e = .returned (.tuple #[.int .u64 to, .bool false]) ∧ ∀ S, Keeps S w1 w') :
    Calls Try.prog 39 #[.pointer (some ⟨C, 0, none⟩), gv, .func (.func 40) #[] #[p1, p2]] w fun e w' => e = .returned (.tuple #[.int .u64 v, .bool false]) ∧ CPost C v gv (ms ++ [(1, 0)]) F w w' := by
  have HT := Lib.hid (gate_tell gv 1 w ms F hg (by omega))
  have HV := Lib.hid h
  have HNN := Lib.hid HN
  clear h hg HN
  go_enter Try.func39, Try.ntmps39
  go_wp2_with fail
  go_step3
  go_wp2_with fail
  go_step3
  go_wp2_with fail
  refine wp_loop_rounds 1 ?_
  rw [rounds_succ]
  go_wp2_with fail
  refine HT.out.mono ?_
  rintro e w1 ⟨rfl, h1, h2⟩
  have H1 := Lib.hid h1
  have H2 := Lib.hid h2
  have hc1 := HV.out.keeps h2 hd
  have hv := hc1.cell
  have HL := Lib.hid (at_.u64_load C 1 v w1 hv.1)
  have HC1 := Lib.hid hc1
  clear h1 h2 hv hc1
  go_wp2_with fail
  refine HL.out.mono ?_
  rintro e w2 ⟨rfl, rfl⟩
  go_wp2_with fail
  refine (HNN.out _ H2.out).mono ?_
  rintro e w2 ⟨rfl, hk⟩
  have HK := Lib.hid hk
  have hCl := HV.out.1.lt
  have hw1 := H2.out.size
  clear hk
  go_wp2
  try rw [Exit.noGoto_ret]
  go_ret2
  have k2 := (HK.out (fun _ => False)).size
  refine ⟨rfl, HC1.out.keeps (HK.out (fun _ => False)) (fun z => z), gate_step H1.out (HK.out (fun _ => False)) (fun _ _ z => z), ?_⟩
  refine ⟨by omega, fun b hb hs => ?_, H2.out.same.trans (HK.out (fun _ => False)).same⟩
  rw [(HK.out (fun _ => False)).block b (by omega) (fun z => z), H2.out.block b hb (fun z => hs (.inl z))]
set_option maxRecDepth 100000 in
set_option maxHeartbeats 1000000 in
theorem changeUp_yes (C v to : Nat) (p1 p2 : Value) (gv : Value) (w : World) (ms : List (Nat × Nat)) (F : Nat → Prop) (h : Cnt w C v) (hg : Gate w gv ms F) (hl : ms.length < 999999) (hd : ¬ F C) (hto : to < 18446744073709551616)
    (HN : ∀ w1, Keeps F w w1 → Calls Try.prog 40 #[.int .u64 v, p1, p2] w1 fun e w' => e = .returned (.tuple #[.int .u64 to, .bool true]) ∧ ∀ S, Keeps S w1 w') :
    Calls Try.prog 39 #[.pointer (some ⟨C, 0, none⟩), gv, .func (.func 40) #[] #[p1, p2]] w fun e w' => e = .returned (.tuple #[.int .u64 to, .bool true]) ∧ CPost C to gv (ms ++ [(1, 0)] ++ [(5, 0)]) F w w' := by
  have HT := Lib.hid (gate_tell gv 1 w ms F hg (by omega))
  have HV := Lib.hid h
  have HNN := Lib.hid HN
  have HTO : Hid (to < 18446744073709551616) := Lib.hid hto
  clear h hg HN hto
  go_enter Try.func39, Try.ntmps39
  go_wp2_with fail
  go_step3
  go_wp2_with fail
  go_step3
  go_wp2_with fail
  refine wp_loop_rounds 1 ?_
  rw [rounds_succ]
  go_wp2_with fail
  refine HT.out.mono ?_
  rintro e w1 ⟨rfl, h1, h2⟩
  have H1 := Lib.hid h1
  have H2 := Lib.hid h2
  have hc1 := HV.out.keeps h2 hd
  have hv := hc1.cell
  have HL := Lib.hid (at_.u64_load C 1 v w1 hv.1)
  have HC1 := Lib.hid hc1
  clear h1 h2 hv hc1
  go_wp2_with fail
  refine HL.out.mono ?_
  rintro e w2 ⟨rfl, rfl⟩
  go_wp2_with fail
  refine (HNN.out _ H2.out).mono ?_
  rintro e w2 ⟨rfl, hk⟩
  have HK := Lib.hid hk
  have hCl := HV.out.1.lt
  have hw1 := H2.out.size
  have g2 := gate_step H1.out (hk (fun _ => False)) (fun _ _ z => z)
  have HT2 := Lib.hid (gate_tell gv 5 w2 (ms ++ [(1, 0)]) (Grown w w2 F) g2 (by simp; omega))
  have hc2 := HC1.out.keeps (hk (fun _ => False)) (fun z => z)
  have HC2 := Lib.hid hc2
  have hnG : ¬ Grown w w2 F C := fun z => by rcases z with z | z; exact hd z; omega
  clear hk g2 hc2
  go_wp2_with fail
  refine HT2.out.mono ?_
  rintro e w3 ⟨rfl, h1, h2⟩
  have H3 := Lib.hid h1
  have H4 := Lib.hid h2
  have hc3 := HC2.out.keeps h2 hnG
  have hv := hc3.cell
  have HCAS := Lib.hid (at_.u64_cas C 1 v to w3 hv.1 hv.2)
  have HC3 := Lib.hid hc3
  clear h1 h2 hv hc3
  go_wp2_with fail
  refine HCAS.out.mono ?_
  rintro e w4 ⟨rfl, rfl⟩
  go_wp2
  try rw [Exit.noGoto_ret]
  go_ret2
  have k2 := (HK.out (fun _ => False)).size
  have k4 := H4.out.size
  have kC : Keeps (· = C) w3 (w3.setCell ⟨C, 1, none⟩ (.int .u64 (to : Int))) := (Keeps.refl (· = C) w3).setCell (p := ⟨C, 1, none⟩) (.inl rfl) _
  have g3 := gate_twice H3.out (by omega) (by omega)
  refine ⟨rfl, HC3.out.set to HTO.out, gate_step g3 kC (fun b hb e => ?_), ?_⟩
  · subst e
    rcases hb with q | q
    · exact hd q
    · omega
  · refine ⟨by have := kC.size; omega, fun b hb hs => ?_, H2.out.same.trans ((HK.out (fun _ => False)).same.trans (H4.out.same.trans kC.same))⟩
    rw [kC.block b (by omega) (fun e => hs (.inr e)), H4.out.block b (by omega) (fun z => by rcases z with z | z; exact hs (.inl z); omega), (HK.out (fun _ => False)).block b (by omega) (fun z => z), H2.out.block b hb (fun z => hs (.inl z))]
set_option maxRecDepth 100000 in
set_option maxHeartbeats 1000000 in
theorem changeDown_no (C v to : Nat) (p1 : Value) (gv : Value) (w : World) (ms : List (Nat × Nat)) (F : Nat → Prop) (h : Cnt w C v) (hg : Gate w gv ms F) (hl : ms.length < 999999) (hd : ¬ F C)
    (HN : ∀ w1, Keeps F w w1 → Calls Try.prog 43 #[.int .u64 v, p1] w1 fun e w' => e = .returned (.tuple #[.int .u64 to, .bool false]) ∧ ∀ S, Keeps S w1 w') :
    Calls Try.prog 39 #[.pointer (some ⟨C, 0, none⟩), gv, .func (.func 43) #[] #[p1]] w fun e w' => e = .returned (.tuple #[.int .u64 v, .bool false]) ∧ CPost C v gv (ms ++ [(1, 0)]) F w w' := by
  have HT := Lib.hid (gate_tell gv 1 w ms F hg (by omega))
  have HV := Lib.hid h
  have HNN := Lib.hid HN
  clear h hg HN
  go_enter Try.func39, Try.ntmps39
  go_wp2_with fail
  go_step3
  go_wp2_with fail
  go_step3
  go_wp2_with fail
  refine wp_loop_rounds 1 ?_
  rw [rounds_succ]
  go_wp2_with fail
  refine HT.out.mono ?_
  rintro e w1 ⟨rfl, h1, h2⟩
  have H1 := Lib.hid h1
  have H2 := Lib.hid h2
  have hc1 := HV.out.keeps h2 hd
  have hv := hc1.cell
  have HL := Lib.hid (at_.u64_load C 1 v w1 hv.1)
  have HC1 := Lib.hid hc1
  clear h1 h2 hv hc1
  go_wp2_with fail
  refine HL.out.mono ?_
  rintro e w2 ⟨rfl, rfl⟩
  go_wp2_with fail
  refine (HNN.out _ H2.out).mono ?_
  rintro e w2 ⟨rfl, hk⟩
  have HK := Lib.hid hk
  have hCl := HV.out.1.lt
  have hw1 := H2.out.size
  clear hk
  go_wp2
  try rw [Exit.noGoto_ret]
  go_ret2
  have k2 := (HK.out (fun _ => False)).size
  refine ⟨rfl, HC1.out.keeps (HK.out (fun _ => False)) (fun z => z), gate_step H1.out (HK.out (fun _ => False)) (fun _ _ z => z), ?_⟩
  refine ⟨by omega, fun b hb hs => ?_, H2.out.same.trans (HK.out (fun _ => False)).same⟩
  rw [(HK.out (fun _ => False)).block b (by omega) (fun z => z), H2.out.block b hb (fun z => hs (.inl z))]
set_option maxRecDepth 100000 in
set_option maxHeartbeats 1000000 in
theorem changeDown_yes (C v to : Nat) (p1 : Value) (gv : Value) (w : World) (ms : List (Nat × Nat)) (F : Nat → Prop) (h : Cnt w C v) (hg : Gate w gv ms F) (hl : ms.length < 999999) (hd : ¬ F C) (hto : to < 18446744073709551616)
    (HN : ∀ w1, Keeps F w w1 → Calls Try.prog 43 #[.int .u64 v, p1] w1 fun e w' => e = .returned (.tuple #[.int .u64 to, .bool true]) ∧ ∀ S, Keeps S w1 w') :
    Calls Try.prog 39 #[.pointer (some ⟨C, 0, none⟩), gv, .func (.func 43) #[] #[p1]] w fun e w' => e = .returned (.tuple #[.int .u64 to, .bool true]) ∧ CPost C to gv (ms ++ [(1, 0)] ++ [(5, 0)]) F w w' := by
  have HT := Lib.hid (gate_tell gv 1 w ms F hg (by omega))
  have HV := Lib.hid h
  have HNN := Lib.hid HN
  have HTO : Hid (to < 18446744073709551616) := Lib.hid hto
  clear h hg HN hto
  go_enter Try.func39, Try.ntmps39
  go_wp2_with fail
  go_step3
  go_wp2_with fail
  go_step3
  go_wp2_with fail
  refine wp_loop_rounds 1 ?_
  rw [rounds_succ]
  go_wp2_with fail
  refine HT.out.mono ?_
  rintro e w1 ⟨rfl, h1, h2⟩
  have H1 := Lib.hid h1
  have H2 := Lib.hid h2
  have hc1 := HV.out.keeps h2 hd
  have hv := hc1.cell
  have HL := Lib.hid (at_.u64_load C 1 v w1 hv.1)
  have HC1 := Lib.hid hc1
  clear h1 h2 hv hc1
  go_wp2_with fail
  refine HL.out.mono ?_
  rintro e w2 ⟨rfl, rfl⟩
  go_wp2_with fail
  refine (HNN.out _ H2.out).mono ?_
  rintro e w2 ⟨rfl, hk⟩
  have HK := Lib.hid hk
  have hCl := HV.out.1.lt
  have hw1 := H2.out.size
  have g2 := gate_step H1.out (hk (fun _ => False)) (fun _ _ z => z)
  have HT2 := Lib.hid (gate_tell gv 5 w2 (ms ++ [(1, 0)]) (Grown w w2 F) g2 (by simp; omega))
  have hc2 := HC1.out.keeps (hk (fun _ => False)) (fun z => z)
  have HC2 := Lib.hid hc2
  have hnG : ¬ Grown w w2 F C := fun z => by rcases z with z | z; exact hd z; omega
  clear hk g2 hc2
  go_wp2_with fail
  refine HT2.out.mono ?_
  rintro e w3 ⟨rfl, h1, h2⟩
  have H3 := Lib.hid h1
  have H4 := Lib.hid h2
  have hc3 := HC2.out.keeps h2 hnG
  have hv := hc3.cell
  have HCAS := Lib.hid (at_.u64_cas C 1 v to w3 hv.1 hv.2)
  have HC3 := Lib.hid hc3
  clear h1 h2 hv hc3
  go_wp2_with fail
  refine HCAS.out.mono ?_
  rintro e w4 ⟨rfl, rfl⟩
  go_wp2
  try rw [Exit.noGoto_ret]
  go_ret2
  have k2 := (HK.out (fun _ => False)).size
  have k4 := H4.out.size
  have kC : Keeps (· = C) w3 (w3.setCell ⟨C, 1, none⟩ (.int .u64 (to : Int))) := (Keeps.refl (· = C) w3).setCell (p := ⟨C, 1, none⟩) (.inl rfl) _
  have g3 := gate_twice H3.out (by omega) (by omega)
  refine ⟨rfl, HC3.out.set to HTO.out, gate_step g3 kC (fun b hb e => ?_), ?_⟩
  · subst e
    rcases hb with q | q
    · exact hd q
    · omega
  · refine ⟨by have := kC.size; omega, fun b hb hs => ?_, H2.out.same.trans ((HK.out (fun _ => False)).same.trans (H4.out.same.trans kC.same))⟩
    rw [kC.block b (by omega) (fun e => hs (.inr e)), H4.out.block b (by omega) (fun z => by rcases z with z | z; exact hs (.inl z); omega), (HK.out (fun _ => False)).block b (by omega) (fun z => z), H2.out.block b hb (fun z => hs (.inl z))]
set_option maxRecDepth 100000 in
set_option maxHeartbeats 1000000 in
theorem changeMax_no (C v to : Nat) (p1 : Value) (gv : Value) (w : World) (ms : List (Nat × Nat)) (F : Nat → Prop) (h : Cnt w C v) (hg : Gate w gv ms F) (hl : ms.length < 999999) (hd : ¬ F C)
    (HN : ∀ w1, Keeps F w w1 → Calls Try.prog 41 #[.int .u64 v, p1] w1 fun e w' => e = .returned (.tuple #[.int .u64 to, .bool false]) ∧ ∀ S, Keeps S w1 w') :
    Calls Try.prog 39 #[.pointer (some ⟨C, 0, none⟩), gv, .func (.func 41) #[] #[p1]] w fun e w' => e = .returned (.tuple #[.int .u64 v, .bool false]) ∧ CPost C v gv (ms ++ [(1, 0)]) F w w' := by
  have HT := Lib.hid (gate_tell gv 1 w ms F hg (by omega))
  have HV := Lib.hid h
  have HNN := Lib.hid HN
  clear h hg HN
  go_enter Try.func39, Try.ntmps39
  go_wp2_with fail
  go_step3
  go_wp2_with fail
  go_step3
  go_wp2_with fail
  refine wp_loop_rounds 1 ?_
  rw [rounds_succ]
  go_wp2_with fail
  refine HT.out.mono ?_
  rintro e w1 ⟨rfl, h1, h2⟩
  have H1 := Lib.hid h1
  have H2 := Lib.hid h2
  have hc1 := HV.out.keeps h2 hd
  have hv := hc1.cell
  have HL := Lib.hid (at_.u64_load C 1 v w1 hv.1)
  have HC1 := Lib.hid hc1
  clear h1 h2 hv hc1
  go_wp2_with fail
  refine HL.out.mono ?_
  rintro e w2 ⟨rfl, rfl⟩
  go_wp2_with fail
  refine (HNN.out _ H2.out).mono ?_
  rintro e w2 ⟨rfl, hk⟩
  have HK := Lib.hid hk
  have hCl := HV.out.1.lt
  have hw1 := H2.out.size
  clear hk
  go_wp2
  try rw [Exit.noGoto_ret]
  go_ret2
  have k2 := (HK.out (fun _ => False)).size
  refine ⟨rfl, HC1.out.keeps (HK.out (fun _ => False)) (fun z => z), gate_step H1.out (HK.out (fun _ => False)) (fun _ _ z => z), ?_⟩
  refine ⟨by omega, fun b hb hs => ?_, H2.out.same.trans (HK.out (fun _ => False)).same⟩
  rw [(HK.out (fun _ => False)).block b (by omega) (fun z => z), H2.out.block b hb (fun z => hs (.inl z))]
set_option maxRecDepth 100000 in
set_option maxHeartbeats 1000000 in
theorem changeMax_yes (C v to : Nat) (p1 : Value) (gv : Value) (w : World) (ms : List (Nat × Nat)) (F : Nat → Prop) (h : Cnt w C v) (hg : Gate w gv ms F) (hl : ms.length < 999999) (hd : ¬ F C) (hto : to < 18446744073709551616)
    (HN : ∀ w1, Keeps F w w1 → Calls Try.prog 41 #[.int .u64 v, p1] w1 fun e w' => e = .returned (.tuple #[.int .u64 to, .bool true]) ∧ ∀ S, Keeps S w1 w') :
    Calls Try.prog 39 #[.pointer (some ⟨C, 0, none⟩), gv, .func (.func 41) #[] #[p1]] w fun e w' => e = .returned (.tuple #[.int .u64 to, .bool true]) ∧ CPost C to gv (ms ++ [(1, 0)] ++ [(5, 0)]) F w w' := by
  have HT := Lib.hid (gate_tell gv 1 w ms F hg (by omega))
  have HV := Lib.hid h
  have HNN := Lib.hid HN
  have HTO : Hid (to < 18446744073709551616) := Lib.hid hto
  clear h hg HN hto
  go_enter Try.func39, Try.ntmps39
  go_wp2_with fail
  go_step3
  go_wp2_with fail
  go_step3
  go_wp2_with fail
  refine wp_loop_rounds 1 ?_
  rw [rounds_succ]
  go_wp2_with fail
  refine HT.out.mono ?_
  rintro e w1 ⟨rfl, h1, h2⟩
  have H1 := Lib.hid h1
  have H2 := Lib.hid h2
  have hc1 := HV.out.keeps h2 hd
  have hv := hc1.cell
  have HL := Lib.hid (at_.u64_load C 1 v w1 hv.1)
  have HC1 := Lib.hid hc1
  clear h1 h2 hv hc1
  go_wp2_with fail
  refine HL.out.mono ?_
  rintro e w2 ⟨rfl, rfl⟩
  go_wp2_with fail
  refine (HNN.out _ H2.out).mono ?_
  rintro e w2 ⟨rfl, hk⟩
  have HK := Lib.hid hk
  have hCl := HV.out.1.lt
  have hw1 := H2.out.size
  have g2 := gate_step H1.out (hk (fun _ => False)) (fun _ _ z => z)
  have HT2 := Lib.hid (gate_tell gv 5 w2 (ms ++ [(1, 0)]) (Grown w w2 F) g2 (by simp; omega))
  have hc2 := HC1.out.keeps (hk (fun _ => False)) (fun z => z)
  have HC2 := Lib.hid hc2
  have hnG : ¬ Grown w w2 F C := fun z => by rcases z with z | z; exact hd z; omega
  clear hk g2 hc2
  go_wp2_with fail
  refine HT2.out.mono ?_
  rintro e w3 ⟨rfl, h1, h2⟩
  have H3 := Lib.hid h1
  have H4 := Lib.hid h2
  have hc3 := HC2.out.keeps h2 hnG
  have hv := hc3.cell
  have HCAS := Lib.hid (at_.u64_cas C 1 v to w3 hv.1 hv.2)
  have HC3 := Lib.hid hc3
  clear h1 h2 hv hc3
  go_wp2_with fail
  refine HCAS.out.mono ?_
  rintro e w4 ⟨rfl, rfl⟩
  go_wp2
  try rw [Exit.noGoto_ret]
  go_ret2
  have k2 := (HK.out (fun _ => False)).size
  have k4 := H4.out.size
  have kC : Keeps (· = C) w3 (w3.setCell ⟨C, 1, none⟩ (.int .u64 (to : Int))) := (Keeps.refl (· = C) w3).setCell (p := ⟨C, 1, none⟩) (.inl rfl) _
  have g3 := gate_twice H3.out (by omega) (by omega)
  refine ⟨rfl, HC3.out.set to HTO.out, gate_step g3 kC (fun b hb e => ?_), ?_⟩
  · subst e
    rcases hb with q | q
    · exact hd q
    · omega
  · refine ⟨by have := kC.size; omega, fun b hb hs => ?_, H2.out.same.trans ((HK.out (fun _ => False)).same.trans (H4.out.same.trans kC.same))⟩
    rw [kC.block b (by omega) (fun e => hs (.inr e)), H4.out.block b (by omega) (fun z => by rcases z with z | z; exact hs (.inl z); omega), (HK.out (fun _ => False)).block b (by omega) (fun z => z), H2.out.block b hb (fun z => hs (.inl z))]
theorem Keeps.drewN {S : Nat → Prop} {a b : World} (h : Keeps S a b) (n : Nat) : Keeps S a (b.drewN n) := ⟨h.size, h.block, h.same.os, h.same.tape, h.same.output⟩
theorem wrap_add (v n : Nat) : IntKind.u64.wrap ((v : Int) + (n : Int)) = (((v + n) % W64 : Nat) : Int) := by
  rw [W64_eq, wrap_u64]; omega
theorem wrap_sub (v n : Nat) (hn : n < 18446744073709551616) : IntKind.u64.wrap ((v : Int) - (n : Int)) = (((v + (W64 - n)) % W64 : Nat) : Int) := by
  rw [W64_eq, wrap_u64]; omega
set_option maxRecDepth 100000 in
set_option maxHeartbeats 1000000 in
theorem up_yes (v n most p q : Nat) (w : World) (hv : v < 18446744073709551616) (hn : n < 18446744073709551616) (hm : most < 18446744073709551616) (hp : w.cell? ⟨p, 0, none⟩ = some (.int .u64 (n : Nat))) (hq : w.cell? ⟨q, 0, none⟩ = some (.int .u64 (most : Nat))) (h1 : n ≤ most) (h2 : v ≤ most - n) :
    Calls Try.prog 40 #[.int .u64 v, .pointer (some ⟨p, 0, none⟩), .pointer (some ⟨q, 0, none⟩)] w fun e w' => e = .returned (.tuple #[.int .u64 ((v + n) % W64 : Nat), .bool true]) ∧ ∀ S, Keeps S w w' := by
  go_enter Try.func40, Try.ntmps40
  have g1 : (n : Int) ≤ (most : Int) := by omega
  have gd : decide ((n : Int) ≤ (most : Int)) = true := decide_eq_true g1
  have g2 : (v : Int) ≤ (most : Int) - (n : Int) := by omega
  have g3 : IntKind.u64.wrap ((most : Int) - (n : Int)) = (most : Int) - (n : Int) := by rw [wrap_sub most n hn]; rw [W64_eq]; omega
  have gs := wrap_add v n
  go_wp2
  go_quiet (fail)
  go_wp2
  try rw [Exit.noGoto_ret]
  go_ret2
  refine ⟨?_, fun S => ?_⟩
  · simp [wrap_add, g3, g2]
  · repeat (first | (with_reducible exact Keeps.refl _ _) | (with_reducible exact Keeps.of_drew _ _) | (with_reducible refine Keeps.drew ?_))
set_option maxRecDepth 100000 in
set_option maxHeartbeats 1000000 in
theorem up_no1 (v n most p q : Nat) (w : World) (hv : v < 18446744073709551616) (hn : n < 18446744073709551616) (hm : most < 18446744073709551616) (hp : w.cell? ⟨p, 0, none⟩ = some (.int .u64 (n : Nat))) (hq : w.cell? ⟨q, 0, none⟩ = some (.int .u64 (most : Nat))) (h1 : ¬ n ≤ most) :
    Calls Try.prog 40 #[.int .u64 v, .pointer (some ⟨p, 0, none⟩), .pointer (some ⟨q, 0, none⟩)] w fun e w' => e = .returned (.tuple #[.int .u64 ((v + n) % W64 : Nat), .bool false]) ∧ ∀ S, Keeps S w w' := by
  go_enter Try.func40, Try.ntmps40
  have g1 : ¬ (n : Int) ≤ (most : Int) := by omega
  have gd : decide ((n : Int) ≤ (most : Int)) = false := decide_eq_false g1
  go_wp2
  go_quiet (fail)
  go_wp2
  try rw [Exit.noGoto_ret]
  go_ret2
  refine ⟨?_, fun S => ?_⟩
  · simp [wrap_add]
  · repeat (first | (with_reducible exact Keeps.refl _ _) | (with_reducible exact Keeps.of_drew _ _) | (with_reducible refine Keeps.drew ?_))
set_option maxRecDepth 100000 in
set_option maxHeartbeats 1000000 in
theorem up_no2 (v n most p q : Nat) (w : World) (hv : v < 18446744073709551616) (hn : n < 18446744073709551616) (hm : most < 18446744073709551616) (hp : w.cell? ⟨p, 0, none⟩ = some (.int .u64 (n : Nat))) (hq : w.cell? ⟨q, 0, none⟩ = some (.int .u64 (most : Nat))) (h1 : n ≤ most) (h2 : ¬ v ≤ most - n) :
    Calls Try.prog 40 #[.int .u64 v, .pointer (some ⟨p, 0, none⟩), .pointer (some ⟨q, 0, none⟩)] w fun e w' => e = .returned (.tuple #[.int .u64 ((v + n) % W64 : Nat), .bool false]) ∧ ∀ S, Keeps S w w' := by
  go_enter Try.func40, Try.ntmps40
  have g1 : (n : Int) ≤ (most : Int) := by omega
  have gd : decide ((n : Int) ≤ (most : Int)) = true := decide_eq_true g1
  have g2 : ¬ (v : Int) ≤ (most : Int) - (n : Int) := by omega
  have g3 : IntKind.u64.wrap ((most : Int) - (n : Int)) = (most : Int) - (n : Int) := by rw [wrap_sub most n hn]; rw [W64_eq]; omega
  go_wp2
  go_quiet (fail)
  go_wp2
  try rw [Exit.noGoto_ret]
  go_ret2
  refine ⟨?_, fun S => ?_⟩
  · simp [wrap_add, g3, g2]; try omega
  · repeat (first | (with_reducible exact Keeps.refl _ _) | (with_reducible exact Keeps.of_drew _ _) | (with_reducible refine Keeps.drew ?_))
set_option maxRecDepth 100000 in
set_option maxHeartbeats 1000000 in
theorem down_yes (v n p : Nat) (w : World) (hv : v < 18446744073709551616) (hn : n < 18446744073709551616) (hp : w.cell? ⟨p, 0, none⟩ = some (.int .u64 (n : Nat))) (h1 : n ≤ v) :
    Calls Try.prog 43 #[.int .u64 v, .pointer (some ⟨p, 0, none⟩)] w fun e w' => e = .returned (.tuple #[.int .u64 ((v + (W64 - n)) % W64 : Nat), .bool true]) ∧ ∀ S, Keeps S w w' := by
  go_enter Try.func43, Try.ntmps43
  have g1 : (n : Int) ≤ (v : Int) := by omega
  go_wp2
  go_quiet (fail)
  go_wp2
  try rw [Exit.noGoto_ret]
  go_ret2
  refine ⟨?_, fun S => ?_⟩
  · simp [wrap_sub v n hn, g1] <;> (simp only [W64_eq]; omega)
  · repeat (first | (with_reducible exact Keeps.refl _ _) | (with_reducible exact Keeps.of_drew _ _) | (with_reducible refine Keeps.drew ?_))
set_option maxRecDepth 100000 in
set_option maxHeartbeats 1000000 in
theorem down_no (v n p : Nat) (w : World) (hv : v < 18446744073709551616) (hn : n < 18446744073709551616) (hp : w.cell? ⟨p, 0, none⟩ = some (.int .u64 (n : Nat))) (h1 : ¬ n ≤ v) :
    Calls Try.prog 43 #[.int .u64 v, .pointer (some ⟨p, 0, none⟩)] w fun e w' => e = .returned (.tuple #[.int .u64 ((v + (W64 - n)) % W64 : Nat), .bool false]) ∧ ∀ S, Keeps S w w' := by
  go_enter Try.func43, Try.ntmps43
  have g1 : ¬ (n : Int) ≤ (v : Int) := by omega
  go_wp2
  go_quiet (fail)
  go_wp2
  try rw [Exit.noGoto_ret]
  go_ret2
  refine ⟨?_, fun S => ?_⟩
  · simp [wrap_sub v n hn, g1] <;> (simp only [W64_eq]; omega)
  · repeat (first | (with_reducible exact Keeps.refl _ _) | (with_reducible exact Keeps.of_drew _ _) | (with_reducible refine Keeps.drew ?_))
set_option maxRecDepth 100000 in
set_option maxHeartbeats 1000000 in
theorem max_yes (v n p : Nat) (w : World) (hv : v < 18446744073709551616) (hn : n < 18446744073709551616) (hp : w.cell? ⟨p, 0, none⟩ = some (.int .u64 (n : Nat))) (h1 : v < n) :
    Calls Try.prog 41 #[.int .u64 v, .pointer (some ⟨p, 0, none⟩)] w fun e w' => e = .returned (.tuple #[.int .u64 (n : Nat), .bool true]) ∧ ∀ S, Keeps S w w' := by
  go_enter Try.func41, Try.ntmps41
  have g1 : (v : Int) < (n : Int) := by omega
  go_wp2
  go_quiet (fail)
  go_wp2
  try rw [Exit.noGoto_ret]
  go_ret2
  refine ⟨?_, fun S => ?_⟩
  · simp [g1]; try omega
  · repeat (first | (with_reducible exact Keeps.refl _ _) | (with_reducible exact Keeps.of_drew _ _) | (with_reducible refine Keeps.drew ?_))
set_option maxRecDepth 100000 in
set_option maxHeartbeats 1000000 in
theorem max_no (v n p : Nat) (w : World) (hv : v < 18446744073709551616) (hn : n < 18446744073709551616) (hp : w.cell? ⟨p, 0, none⟩ = some (.int .u64 (n : Nat))) (h1 : ¬ v < n) :
    Calls Try.prog 41 #[.int .u64 v, .pointer (some ⟨p, 0, none⟩)] w fun e w' => e = .returned (.tuple #[.int .u64 (n : Nat), .bool false]) ∧ ∀ S, Keeps S w w' := by
  go_enter Try.func41, Try.ntmps41
  have g1 : ¬ (v : Int) < (n : Int) := by omega
  go_wp2
  go_quiet (fail)
  go_wp2
  try rw [Exit.noGoto_ret]
  go_ret2
  refine ⟨?_, fun S => ?_⟩
  · simp [g1]; try omega
  · repeat (first | (with_reducible exact Keeps.refl _ _) | (with_reducible exact Keeps.of_drew _ _) | (with_reducible refine Keeps.drew ?_))
theorem cpost_from {w w1 w' : World} {C v : Nat} {gv : Value} {ms ms0 : List (Nat × Nat)} {F : Nat → Prop} (hg : Gate w gv ms0 F) (k : Keeps (fun _ => False) w w1) (h : CPost C v gv ms F w1 w') : CPost C v gv ms F w w' := by
  obtain ⟨h1, h2, h3⟩ := h
  refine ⟨h1, ?_, (k.mono fun _ _ z => z.elim).trans h3⟩
  rcases h2 with q | ⟨N, e, q⟩
  · exact .inl q
  · rcases hg with z | ⟨N0, e0, z⟩
    · rw [z] at e; cases e
    · have up : ∀ b, Grown w1 w' F b → Grown w w' F b := fun b hb => by
        rcases hb with y | y
        · exact .inl y
        · exact .inr ⟨by have := k.size; omega, y.2⟩
      obtain ⟨mA, mc, a1, a2, a3, a4⟩ := q.at_
      refine .inr ⟨N, e, ⟨mA, mc, a1, a2, fun b hb => up b (a3 b hb), a4⟩, up N q.me, fun b hb => ?_⟩
      have n1 := (q.above N0 (.inl z.me)).1
      have n2 := (z.above N0 z.me).2
      rcases hb with y | y
      · exact q.above b (.inl y)
      · exact ⟨by omega, y.2⟩
theorem box_two (w : World) (x y : Value) (t u : TypeId) : Keeps (fun _ => False) w ((w.alloc (.cells #[x] t)).alloc (.cells #[y] u)) ∧ Blk ((w.alloc (.cells #[x] t)).alloc (.cells #[y] u)) w.heap.size t [x] ∧ Blk ((w.alloc (.cells #[x] t)).alloc (.cells #[y] u)) (w.heap.size + 1) u [y] := by
  refine ⟨((Keeps.refl _ w).alloc _).alloc _, (Blk.new w t #[x]).alloc _, ?_⟩
  have h := Blk.new (w.alloc (.cells #[x] t)) u #[y]
  rwa [show (w.alloc (.cells #[x] t)).heap.size = w.heap.size + 1 from by show (w.heap.push _).size = _; simp] at h
theorem box_one (w : World) (x : Value) (t : TypeId) : Keeps (fun _ => False) w (w.alloc (.cells #[x] t)) ∧ Blk (w.alloc (.cells #[x] t)) w.heap.size t [x] := ⟨(Keeps.refl _ w).alloc _, Blk.new w t #[x]⟩
set_option maxRecDepth 100000 in
set_option maxHeartbeats 1000000 in
theorem cnt_up_yes (C v n most : Nat) (gv : Value) (w : World) (ms : List (Nat × Nat)) (F : Nat → Prop) (h : Cnt w C v) (hg : Gate w gv ms F) (hl : ms.length < 999999) (hd : ¬ F C) (hF : ∀ b, F b → b < w.heap.size)
    (hn : n < 18446744073709551616) (hm : most < 18446744073709551616) (h1 : n ≤ most) (h2 : v ≤ most - n) :
    Calls Try.prog 29 #[.pointer (some ⟨C, 0, none⟩), gv, .int .u64 n, .int .u64 most] w fun e w' => e = .returned (.tuple #[.int .u64 ((v + n) % W64 : Nat), .bool true, .int .i64 0]) ∧ CPost C ((v + n) % W64) gv (ms ++ [(1, 0)] ++ [(5, 0)]) F w w' := by
  have HV := Lib.hid h
  have HG := Lib.hid hg
  obtain ⟨ha, b1, b2⟩ := box_two w (.int .u64 (n : Int)) (.int .u64 (most : Int)) 22 22
  have nF1 : ¬ F w.heap.size := fun z => by have := hF _ z; omega
  have nF2 : ¬ F (w.heap.size + 1) := fun z => by have := hF _ z; omega
  have HA := Lib.hid ha
  have B1 := Lib.hid b1
  have B2 := Lib.hid b2
  have HC1 := Lib.hid (HV.out.keeps ha id)
  have HG1 := Lib.hid (hg.keeps ha (fun _ _ => id))
  clear h hg ha b1 b2
  go_enter Try.func29, Try.ntmps29
  go_wp2_with fail
  generalize hw1 : (w.alloc (Obj.cells #[Value.int IntKind.u64 (n : Int)] 22)).alloc (Obj.cells #[Value.int IntKind.u64 (most : Int)] 22) = w1 at *
  refine (cnt_none C v w1 HC1.out).mono ?_
  rintro e w2 ⟨rfl, rfl⟩
  go_wp2_with fail
  refine (changeUp_yes C v ((v + n) % W64 : Nat) (.pointer (some ⟨w.heap.size, 0, none⟩)) (.pointer (some ⟨w.heap.size + 1, 0, none⟩)) gv w1 ms F HC1.out HG1.out hl hd (by have := mod_lt64 (v + n); have := mod_lt64 (v + (W64 - n)); omega) (fun w3 k3 => by have c1 : w3.cell? ⟨w.heap.size, 0, none⟩ = some (.int .u64 (n : Int)) := by { have q := (Blk.keeps B1.out k3 nF1).cell 0; rw [q]; rfl }; have c2 : w3.cell? ⟨w.heap.size + 1, 0, none⟩ = some (.int .u64 (most : Int)) := by { have q := (Blk.keeps B2.out k3 nF2).cell 0; rw [q]; rfl }; exact up_yes v n most w.heap.size (w.heap.size + 1) w3 HV.out.2 hn hm c1 c2 h1 h2)).mono ?_
  rintro e w4 ⟨rfl, h4⟩
  have H4 := Lib.hid h4
  clear h4
  go_wp2
  go_ret3
  exact ⟨rfl, cpost_from HG.out HA.out H4.out⟩
set_option maxRecDepth 100000 in
set_option maxHeartbeats 1000000 in
theorem cnt_up_no1 (C v n most : Nat) (gv : Value) (w : World) (ms : List (Nat × Nat)) (F : Nat → Prop) (h : Cnt w C v) (hg : Gate w gv ms F) (hl : ms.length < 999999) (hd : ¬ F C) (hF : ∀ b, F b → b < w.heap.size)
    (hn : n < 18446744073709551616) (hm : most < 18446744073709551616) (h1 : ¬ n ≤ most) :
    Calls Try.prog 29 #[.pointer (some ⟨C, 0, none⟩), gv, .int .u64 n, .int .u64 most] w fun e w' => e = .returned (.tuple #[.int .u64 (v : Nat), .bool false, .int .i64 0]) ∧ CPost C (v) gv (ms ++ [(1, 0)]) F w w' := by
  have HV := Lib.hid h
  have HG := Lib.hid hg
  obtain ⟨ha, b1, b2⟩ := box_two w (.int .u64 (n : Int)) (.int .u64 (most : Int)) 22 22
  have nF1 : ¬ F w.heap.size := fun z => by have := hF _ z; omega
  have nF2 : ¬ F (w.heap.size + 1) := fun z => by have := hF _ z; omega
  have HA := Lib.hid ha
  have B1 := Lib.hid b1
  have B2 := Lib.hid b2
  have HC1 := Lib.hid (HV.out.keeps ha id)
  have HG1 := Lib.hid (hg.keeps ha (fun _ _ => id))
  clear h hg ha b1 b2
  go_enter Try.func29, Try.ntmps29
  go_wp2_with fail
  generalize hw1 : (w.alloc (Obj.cells #[Value.int IntKind.u64 (n : Int)] 22)).alloc (Obj.cells #[Value.int IntKind.u64 (most : Int)] 22) = w1 at *
  refine (cnt_none C v w1 HC1.out).mono ?_
  rintro e w2 ⟨rfl, rfl⟩
  go_wp2_with fail
  refine (changeUp_no C v ((v + n) % W64 : Nat) (.pointer (some ⟨w.heap.size, 0, none⟩)) (.pointer (some ⟨w.heap.size + 1, 0, none⟩)) gv w1 ms F HC1.out HG1.out hl hd (fun w3 k3 => by have c1 : w3.cell? ⟨w.heap.size, 0, none⟩ = some (.int .u64 (n : Int)) := by { have q := (Blk.keeps B1.out k3 nF1).cell 0; rw [q]; rfl }; have c2 : w3.cell? ⟨w.heap.size + 1, 0, none⟩ = some (.int .u64 (most : Int)) := by { have q := (Blk.keeps B2.out k3 nF2).cell 0; rw [q]; rfl }; exact up_no1 v n most w.heap.size (w.heap.size + 1) w3 HV.out.2 hn hm c1 c2 h1)).mono ?_
  rintro e w4 ⟨rfl, h4⟩
  have H4 := Lib.hid h4
  clear h4
  go_wp2
  go_ret3
  exact ⟨rfl, cpost_from HG.out HA.out H4.out⟩
set_option maxRecDepth 100000 in
set_option maxHeartbeats 1000000 in
theorem cnt_up_no2 (C v n most : Nat) (gv : Value) (w : World) (ms : List (Nat × Nat)) (F : Nat → Prop) (h : Cnt w C v) (hg : Gate w gv ms F) (hl : ms.length < 999999) (hd : ¬ F C) (hF : ∀ b, F b → b < w.heap.size)
    (hn : n < 18446744073709551616) (hm : most < 18446744073709551616) (h1 : n ≤ most) (h2 : ¬ v ≤ most - n) :
    Calls Try.prog 29 #[.pointer (some ⟨C, 0, none⟩), gv, .int .u64 n, .int .u64 most] w fun e w' => e = .returned (.tuple #[.int .u64 (v : Nat), .bool false, .int .i64 0]) ∧ CPost C (v) gv (ms ++ [(1, 0)]) F w w' := by
  have HV := Lib.hid h
  have HG := Lib.hid hg
  obtain ⟨ha, b1, b2⟩ := box_two w (.int .u64 (n : Int)) (.int .u64 (most : Int)) 22 22
  have nF1 : ¬ F w.heap.size := fun z => by have := hF _ z; omega
  have nF2 : ¬ F (w.heap.size + 1) := fun z => by have := hF _ z; omega
  have HA := Lib.hid ha
  have B1 := Lib.hid b1
  have B2 := Lib.hid b2
  have HC1 := Lib.hid (HV.out.keeps ha id)
  have HG1 := Lib.hid (hg.keeps ha (fun _ _ => id))
  clear h hg ha b1 b2
  go_enter Try.func29, Try.ntmps29
  go_wp2_with fail
  generalize hw1 : (w.alloc (Obj.cells #[Value.int IntKind.u64 (n : Int)] 22)).alloc (Obj.cells #[Value.int IntKind.u64 (most : Int)] 22) = w1 at *
  refine (cnt_none C v w1 HC1.out).mono ?_
  rintro e w2 ⟨rfl, rfl⟩
  go_wp2_with fail
  refine (changeUp_no C v ((v + n) % W64 : Nat) (.pointer (some ⟨w.heap.size, 0, none⟩)) (.pointer (some ⟨w.heap.size + 1, 0, none⟩)) gv w1 ms F HC1.out HG1.out hl hd (fun w3 k3 => by have c1 : w3.cell? ⟨w.heap.size, 0, none⟩ = some (.int .u64 (n : Int)) := by { have q := (Blk.keeps B1.out k3 nF1).cell 0; rw [q]; rfl }; have c2 : w3.cell? ⟨w.heap.size + 1, 0, none⟩ = some (.int .u64 (most : Int)) := by { have q := (Blk.keeps B2.out k3 nF2).cell 0; rw [q]; rfl }; exact up_no2 v n most w.heap.size (w.heap.size + 1) w3 HV.out.2 hn hm c1 c2 h1 h2)).mono ?_
  rintro e w4 ⟨rfl, h4⟩
  have H4 := Lib.hid h4
  clear h4
  go_wp2
  go_ret3
  exact ⟨rfl, cpost_from HG.out HA.out H4.out⟩
set_option maxRecDepth 100000 in
set_option maxHeartbeats 1000000 in
theorem cnt_down_yes (C v n : Nat) (gv : Value) (w : World) (ms : List (Nat × Nat)) (F : Nat → Prop) (h : Cnt w C v) (hg : Gate w gv ms F) (hl : ms.length < 999999) (hd : ¬ F C) (hF : ∀ b, F b → b < w.heap.size)
    (hn : n < 18446744073709551616) (h1 : n ≤ v) :
    Calls Try.prog 33 #[.pointer (some ⟨C, 0, none⟩), gv, .int .u64 n] w fun e w' => e = .returned (.tuple #[.int .u64 ((v + (W64 - n)) % W64 : Nat), .bool true, .int .i64 0]) ∧ CPost C ((v + (W64 - n)) % W64) gv (ms ++ [(1, 0)] ++ [(5, 0)]) F w w' := by
  have HV := Lib.hid h
  have HG := Lib.hid hg
  obtain ⟨ha, b1⟩ := box_one w (.int .u64 (n : Int)) 22
  have nF1 : ¬ F w.heap.size := fun z => by have := hF _ z; omega
  skip
  have HA := Lib.hid ha
  have B1 := Lib.hid b1
  skip
  have HC1 := Lib.hid (HV.out.keeps ha id)
  have HG1 := Lib.hid (hg.keeps ha (fun _ _ => id))
  clear h hg ha b1 
  go_enter Try.func33, Try.ntmps33
  go_wp2_with fail
  generalize hw1 : w.alloc (Obj.cells #[Value.int IntKind.u64 (n : Int)] 22) = w1 at *
  refine (cnt_none C v w1 HC1.out).mono ?_
  rintro e w2 ⟨rfl, rfl⟩
  go_wp2_with fail
  refine (changeDown_yes C v ((v + (W64 - n)) % W64 : Nat) (.pointer (some ⟨w.heap.size, 0, none⟩)) gv w1 ms F HC1.out HG1.out hl hd (by have := mod_lt64 (v + n); have := mod_lt64 (v + (W64 - n)); omega) (fun w3 k3 => by have c1 : w3.cell? ⟨w.heap.size, 0, none⟩ = some (.int .u64 (n : Int)) := by { have q := (Blk.keeps B1.out k3 nF1).cell 0; rw [q]; rfl }; exact down_yes v n w.heap.size w3 HV.out.2 hn c1 h1)).mono ?_
  rintro e w4 ⟨rfl, h4⟩
  have H4 := Lib.hid h4
  clear h4
  go_wp2
  go_ret3
  exact ⟨rfl, cpost_from HG.out HA.out H4.out⟩
set_option maxRecDepth 100000 in
set_option maxHeartbeats 1000000 in
theorem cnt_down_no (C v n : Nat) (gv : Value) (w : World) (ms : List (Nat × Nat)) (F : Nat → Prop) (h : Cnt w C v) (hg : Gate w gv ms F) (hl : ms.length < 999999) (hd : ¬ F C) (hF : ∀ b, F b → b < w.heap.size)
    (hn : n < 18446744073709551616) (h1 : ¬ n ≤ v) :
    Calls Try.prog 33 #[.pointer (some ⟨C, 0, none⟩), gv, .int .u64 n] w fun e w' => e = .returned (.tuple #[.int .u64 (v : Nat), .bool false, .int .i64 0]) ∧ CPost C (v) gv (ms ++ [(1, 0)]) F w w' := by
  have HV := Lib.hid h
  have HG := Lib.hid hg
  obtain ⟨ha, b1⟩ := box_one w (.int .u64 (n : Int)) 22
  have nF1 : ¬ F w.heap.size := fun z => by have := hF _ z; omega
  skip
  have HA := Lib.hid ha
  have B1 := Lib.hid b1
  skip
  have HC1 := Lib.hid (HV.out.keeps ha id)
  have HG1 := Lib.hid (hg.keeps ha (fun _ _ => id))
  clear h hg ha b1 
  go_enter Try.func33, Try.ntmps33
  go_wp2_with fail
  generalize hw1 : w.alloc (Obj.cells #[Value.int IntKind.u64 (n : Int)] 22) = w1 at *
  refine (cnt_none C v w1 HC1.out).mono ?_
  rintro e w2 ⟨rfl, rfl⟩
  go_wp2_with fail
  refine (changeDown_no C v ((v + (W64 - n)) % W64 : Nat) (.pointer (some ⟨w.heap.size, 0, none⟩)) gv w1 ms F HC1.out HG1.out hl hd (fun w3 k3 => by have c1 : w3.cell? ⟨w.heap.size, 0, none⟩ = some (.int .u64 (n : Int)) := by { have q := (Blk.keeps B1.out k3 nF1).cell 0; rw [q]; rfl }; exact down_no v n w.heap.size w3 HV.out.2 hn c1 h1)).mono ?_
  rintro e w4 ⟨rfl, h4⟩
  have H4 := Lib.hid h4
  clear h4
  go_wp2
  go_ret3
  exact ⟨rfl, cpost_from HG.out HA.out H4.out⟩
set_option maxRecDepth 100000 in
set_option maxHeartbeats 1000000 in
theorem cnt_max_yes (C v n : Nat) (gv : Value) (w : World) (ms : List (Nat × Nat)) (F : Nat → Prop) (h : Cnt w C v) (hg : Gate w gv ms F) (hl : ms.length < 999999) (hd : ¬ F C) (hF : ∀ b, F b → b < w.heap.size)
    (hn : n < 18446744073709551616) (h1 : v < n) :
    Calls Try.prog 31 #[.pointer (some ⟨C, 0, none⟩), gv, .int .u64 n] w fun e w' => e = .returned (.tuple #[.bool true, .int .i64 0]) ∧ CPost C (n) gv (ms ++ [(1, 0)] ++ [(5, 0)]) F w w' := by
  have HV := Lib.hid h
  have HG := Lib.hid hg
  obtain ⟨ha, b1⟩ := box_one w (.int .u64 (n : Int)) 22
  have nF1 : ¬ F w.heap.size := fun z => by have := hF _ z; omega
  skip
  have HA := Lib.hid ha
  have B1 := Lib.hid b1
  skip
  have HC1 := Lib.hid (HV.out.keeps ha id)
  have HG1 := Lib.hid (hg.keeps ha (fun _ _ => id))
  clear h hg ha b1 
  go_enter Try.func31, Try.ntmps31
  go_wp2_with fail
  generalize hw1 : w.alloc (Obj.cells #[Value.int IntKind.u64 (n : Int)] 22) = w1 at *
  refine (cnt_none C v w1 HC1.out).mono ?_
  rintro e w2 ⟨rfl, rfl⟩
  go_wp2_with fail
  refine (changeMax_yes C v (n : Nat) (.pointer (some ⟨w.heap.size, 0, none⟩)) gv w1 ms F HC1.out HG1.out hl hd (by have := mod_lt64 (v + n); have := mod_lt64 (v + (W64 - n)); omega) (fun w3 k3 => by have c1 : w3.cell? ⟨w.heap.size, 0, none⟩ = some (.int .u64 (n : Int)) := by { have q := (Blk.keeps B1.out k3 nF1).cell 0; rw [q]; rfl }; exact max_yes v n w.heap.size w3 HV.out.2 hn c1 h1)).mono ?_
  rintro e w4 ⟨rfl, h4⟩
  have H4 := Lib.hid h4
  clear h4
  go_wp2
  go_ret2
  exact ⟨rfl, cpost_from HG.out HA.out H4.out⟩
set_option maxRecDepth 100000 in
set_option maxHeartbeats 1000000 in
theorem cnt_max_no (C v n : Nat) (gv : Value) (w : World) (ms : List (Nat × Nat)) (F : Nat → Prop) (h : Cnt w C v) (hg : Gate w gv ms F) (hl : ms.length < 999999) (hd : ¬ F C) (hF : ∀ b, F b → b < w.heap.size)
    (hn : n < 18446744073709551616) (h1 : ¬ v < n) :
    Calls Try.prog 31 #[.pointer (some ⟨C, 0, none⟩), gv, .int .u64 n] w fun e w' => e = .returned (.tuple #[.bool false, .int .i64 0]) ∧ CPost C (v) gv (ms ++ [(1, 0)]) F w w' := by
  have HV := Lib.hid h
  have HG := Lib.hid hg
  obtain ⟨ha, b1⟩ := box_one w (.int .u64 (n : Int)) 22
  have nF1 : ¬ F w.heap.size := fun z => by have := hF _ z; omega
  skip
  have HA := Lib.hid ha
  have B1 := Lib.hid b1
  skip
  have HC1 := Lib.hid (HV.out.keeps ha id)
  have HG1 := Lib.hid (hg.keeps ha (fun _ _ => id))
  clear h hg ha b1 
  go_enter Try.func31, Try.ntmps31
  go_wp2_with fail
  generalize hw1 : w.alloc (Obj.cells #[Value.int IntKind.u64 (n : Int)] 22) = w1 at *
  refine (cnt_none C v w1 HC1.out).mono ?_
  rintro e w2 ⟨rfl, rfl⟩
  go_wp2_with fail
  refine (changeMax_no C v (n : Nat) (.pointer (some ⟨w.heap.size, 0, none⟩)) gv w1 ms F HC1.out HG1.out hl hd (fun w3 k3 => by have c1 : w3.cell? ⟨w.heap.size, 0, none⟩ = some (.int .u64 (n : Int)) := by { have q := (Blk.keeps B1.out k3 nF1).cell 0; rw [q]; rfl }; exact max_no v n w.heap.size w3 HV.out.2 hn c1 h1)).mono ?_
  rintro e w4 ⟨rfl, h4⟩
  have H4 := Lib.hid h4
  clear h4
  go_wp2
  go_ret2
  exact ⟨rfl, cpost_from HG.out HA.out H4.out⟩
end Go.Proofs.Ytadnkidbglhdlaa.gac
