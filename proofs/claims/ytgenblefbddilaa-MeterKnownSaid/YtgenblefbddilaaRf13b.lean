/-
  patchbayref13's codes in memory: tell, TakeCode, Take, Level, State, what is refused; its world.
-/
import Derived.Test.YtgenblefbddilaaRf13
import Derived.Test.YtgenblefbddilaaBq
import Derived.Test.YtgenblefbddilaaMzMd
import Derived.Deep.OwnRows
import Derived.Deep.LoopGhost
import Derived.WalkMore
set_option linter.unusedVariables false
namespace Go.Proofs.Ytgenblefbddilaa.rf13
open Go.RowKit Go.Proofs.Ytgenblefbddilaa.oc Go.Proofs.Ytgenblefbddilaa.mz Go.Proofs.Ytgenblefbddilaa.bk Go.Proofs.Ytgenblefbddilaa.bp
/-- a code that is told of: the code so far, the block C of the result, the block L of the registers -/
structure Tl (w wi : World) (C L : Nat) (v : Value) (r1 r2 : Nat) (code : List Ins) : Prop where
  cd : Mk w wi v code
  blk : Blk wi C 49 [.slice none 0 0, .slice none 0 0]
  regs : Blk wi L 3 [.int .i64 (r1 : Int), .int .i64 (r2 : Int)]
  far : ∀ x, v.ownBlock = some x → x ≠ C ∧ x ≠ L
  new : w.heap.size < C
section
variable {w wi w6 : World} {C L r1 r2 : Nat} {v v6 : Value} {code code6 : List Ins}
theorem Tl.alloc (h : Tl w wi C L v r1 r2 code) (o : Obj) : Tl w (wi.alloc o) C L v r1 r2 code := ⟨h.cd.alloc o, h.blk.alloc o, h.regs.alloc o, h.far, h.new⟩
theorem Tl.step (h : Tl w wi C L v r1 r2 code) (m6 : Mk w w6 v6 code6) (kk : Keeps (fun x => v.ownBlock = some x) wi w6) (hat : v6.ownBlock = v.ownBlock ∨ v6.ownBlock = some wi.heap.size) : Tl w w6 C L v6 r1 r2 code6 := by
  refine ⟨m6, Blk.keeps h.blk kk (fun e => (h.far _ e).1 rfl), Blk.keeps h.regs kk (fun e => (h.far _ e).2 rfl), fun x hx => ?_, h.new⟩
  rcases hat with e | e
  · rw [e] at hx; exact h.far x hx
  · rw [e] at hx
    injection hx with hx
    have := h.blk.lt
    have := h.regs.lt
    omega
theorem Tl.stored {g n c : Nat} (h : Tl w wi C L (.slice (some ⟨g, 0, none⟩) n c) r1 r2 code) :
    ((wi.setCell ⟨C, 0, none⟩ (.slice (some ⟨g, 0, none⟩) n c)).setCell ⟨C, 1, none⟩ (.slice none 0 0)).cell? ⟨C, 0, none⟩ = some (.slice (some ⟨g, 0, none⟩) n c) ∧ ((wi.setCell ⟨C, 0, none⟩ (.slice (some ⟨g, 0, none⟩) n c)).setCell ⟨C, 1, none⟩ (.slice none 0 0)).cell? ⟨C, 1, none⟩ = some (.slice none 0 0) ∧ Mk w ((wi.setCell ⟨C, 0, none⟩ (.slice (some ⟨g, 0, none⟩) n c)).setCell ⟨C, 1, none⟩ (.slice none 0 0)) (.slice (some ⟨g, 0, none⟩) n c) code := by
  obtain ⟨r0, r1, hk⟩ := mz.stored (u := .slice (some ⟨g, 0, none⟩) n c) (v := .slice none 0 0) h.blk
  have hn := h.new
  refine ⟨r0, r1, Blk.keeps h.cd.res hk (by omega), owns_keeps h.cd.own hk (fun x hx e => (h.far x hx).1 e), fun S => ?_⟩
  have k1 := h.cd.keep S
  exact ⟨Nat.le_trans k1.size hk.size, fun x hx hs => by rw [hk.block x (Nat.lt_of_lt_of_le hx k1.size) (by omega), k1.block x hx hs], k1.same.trans hk.same⟩
end
theorem CallMade.base {w wA w' : World} {code : List Ins} {e : Ending} (h : CallMade wA code e w') (k : ∀ S, Keeps S w wA) : CallMade w code e w' := by
  obtain ⟨cv, dv, he, hr, hk⟩ := h
  exact ⟨cv, dv, he, fun w'' kk => hr w'' (kk.mono (fun x _ z => by have := (k (fun _ => False)).size; omega)), fun S => (k S).trans (hk S)⟩
def tells (r1 r2 : Nat) : List Ins := [⟨22, 0, r1, 0, 0, 0, 0⟩, ⟨22, 0, r2, 0, 0, 0, 0⟩]
set_option maxRecDepth 100000 in
set_option maxHeartbeats 4000000 in
theorem tell_ (w w1 : World) (g n c L r1 r2 : Nat) (code : List Ins) (m : Mk w w1 (.slice (some ⟨g, 0, none⟩) n c) code) (hn : code.length = n) (h0 : 0 < n) (h1 : n ≤ 900) (hL : Blk w1 L 3 [.int .i64 (r1 : Int), .int .i64 (r2 : Int)]) (hgL : g ≠ L) :
    Calls Try.prog 39 #[.slice (some ⟨g, 0, none⟩) n c, .slice (some ⟨L, 0, none⟩) 2 2] w1 fun e w' => ∃ g6 c6, e = .returned (.agg #[.slice (some ⟨g6, 0, none⟩) (n + 2) c6, .slice none 0 0]) ∧ Mk w w' (.slice (some ⟨g6, 0, none⟩) (n + 2) c6) (code ++ tells r1 r2) := by
  obtain ⟨w2, hw2, k2, b2⟩ := enter_blk w1 #[.slice none 0 0, .slice none 0 0] 49
  have m2 := m.grown k2
  have hg : g < w1.heap.size := (m.own.lt g rfl).2
  have t2 : Tl w w2 w1.heap.size L (.slice (some ⟨g, 0, none⟩) n c) r1 r2 code := ⟨m2, b2, Blk.keeps hL (k2 (fun _ => False)) (fun z => z), fun x hx => by injection hx with hx; have hx : g = x := hx; subst hx; exact ⟨by omega, hgL⟩, by have := m.size; omega⟩
  have HW := Lib.hid hw2
  have HLN := Lib.hid (show code.length = n ∧ 0 < n ∧ n ≤ 900 from ⟨hn, h0, h1⟩)
  have c0 : w2.cell? ⟨L, 0, none⟩ = some (.int .i64 (r1 : Int)) := by rw [t2.regs.cell]; rfl
  obtain ⟨C, hC⟩ : ∃ C, C = w1.heap.size := ⟨_, rfl⟩
  rw [← hC] at t2
  have HC := Lib.hid hC
  have T3 := Lib.hid (t2.alloc (.cells (([⟨22, 0, r1, 0, 0, 0, 0⟩] : List Ins).flatMap Ins.cells).toArray 114))
  have B3 := Lib.hid (Blk.new w2 114 (([⟨22, 0, r1, 0, 0, 0, 0⟩] : List Ins).flatMap Ins.cells).toArray)
  clear hw2 k2 b2 m2 t2 hg m hL hgL hn h0 h1 hC
  go_enter Try.func39, Try.ntmps39
  go_wp2_with fail
  rw [← HW.out, ← HC.out]
  refine wp_loop_rounds 3 ?_
  rw [rounds_succ]
  go_wp2_with (at_builtin; refine Mk.wpList_append2 rfl _ _ rfl T3.out.cd rfl w2.heap.size 1 1 [⟨22, 0, r1, 0, 0, 0, 0⟩] rfl rfl B3.out (by have := HLN.out; omega) ?_; intro v6 w6 m6 kk6 hat6; obtain ⟨g6, c6, rfl⟩ := m6.form (n := n + 1) (by have := HLN.out; simp; omega) (by omega); have t6 := T3.out.step m6 kk6 hat6; have c1 : w6.cell? ⟨L, 1, none⟩ = some (.int .i64 (r2 : Int)) := (by rw [t6.regs.cell]; rfl); have T7 := Lib.hid (t6.alloc (.cells (([⟨22, 0, r2, 0, 0, 0, 0⟩] : List Ins).flatMap Ins.cells).toArray 114)); have B7 := Lib.hid (Blk.new w6 114 (([⟨22, 0, r2, 0, 0, 0, 0⟩] : List Ins).flatMap Ins.cells).toArray); clear m6 kk6 hat6 t6 c0 T3 B3)
  try rw [rounds_succ]
  go_wp2_with (at_builtin; refine Mk.wpList_append2 rfl _ _ rfl T7.out.cd rfl w6.heap.size 1 1 [⟨22, 0, r2, 0, 0, 0, 0⟩] rfl rfl B7.out (by have := HLN.out; simp; omega) ?_; intro v8 w8 m8 kk8 hat8; obtain ⟨g8, c8, rfl⟩ := m8.form (n := n + 2) (by have := HLN.out; simp; omega) (by omega); have t8 := T7.out.step m8 kk8 hat8; have f0 := t8.blk.frozen 0; have f1 := t8.blk.frozen 1; have x0 : w8.cell? ⟨C, 0, none⟩ = some (.slice none 0 0) := (by rw [t8.blk.cell]; rfl); have x1 : w8.cell? ⟨C, 1, none⟩ = some (.slice none 0 0) := (by rw [t8.blk.cell]; rfl); have T8 := Lib.hid t8; clear m8 kk8 hat8 t8 c1 T7 B7)
  try rw [rounds_succ]
  try go_wp2
  obtain ⟨r0, r1', hk⟩ := T8.out.stored
  refine bodyPost_ret (v := .agg #[.slice (some ⟨g8, 0, none⟩) (n + 2) c8, .slice none 0 0]) (by simp [results, Try.results39, go_sem, r0, r1']) rfl ⟨g8, c8, rfl, ?_⟩
  rw [List.append_assoc] at hk
  exact hk
section
variable (n d b : Nat) (w : World)
set_option maxRecDepth 100000 in
set_option maxHeartbeats 4000000 in
theorem takecode_in (now k : Nat) (hm : May n d b) (hnow : now ≤ 1099511627776) (hk : k ≤ b) : Calls Try.prog 40 #[.int .i64 0, bv n d b, .int .u64 (now : Int), .int .u64 (k : Int), .int .i64 0, .int .i64 0] w fun e w' => ∃ g, w.heap.size < g ∧ e = .returned (.slice (some ⟨g, 0, none⟩) 12 12) ∧ Blk w' g 114 ((takeAt (now * n) (k * d) (now * n + b * d)).flatMap Ins.cells) ∧ (∀ S, Keeps S w w') := by
  obtain ⟨⟨n0, n1⟩, ⟨d0, d1⟩, b0, b1⟩ := hm
  have hp : now * n ≤ 1099511627776 * 65536 := Nat.mul_le_mul hnow n1
  have hbd : b * d ≤ 1048576 * 65536 := Nat.mul_le_mul b1 d1
  have hkd : k * d ≤ 1048576 * 65536 := Nat.mul_le_mul (by omega) d1
  obtain ⟨q, hq⟩ : ∃ x, x = k * d := ⟨_, rfl⟩
  obtain ⟨i, hi⟩ : ∃ x, x = now * n := ⟨_, rfl⟩
  obtain ⟨f, hf⟩ : ∃ x, x = b * d := ⟨_, rfl⟩
  obtain ⟨t, ht⟩ : ∃ x, x = i + f := ⟨_, rfl⟩
  have e1 : IntKind.u64.wrap ((now : Int) * (n : Int)) = (i : Int) := by rw [mul_, wrap_ _ (by omega), hi]
  have e2 : IntKind.u64.wrap ((b : Int) * (d : Int)) = (f : Int) := by rw [mul_, wrap_ _ (by omega), hf]
  have e3 : IntKind.u64.wrap ((k : Int) * (d : Int)) = (q : Int) := by rw [mul_, wrap_ _ (by omega), hq]
  have e4 : IntKind.u64.wrap ((i : Int) + (f : Int)) = (t : Int) := by rw [add_', wrap_ _ (by omega), ht]
  have qk : (k : Int) ≤ (b : Int) := by omega
  rw [← hi, ← hf, ← hq, ← ht]
  unfold bv
  have B := Blk.new (w.alloc (.cells #[.int .u64 (n : Int), .int .u64 (d : Int), .int .u64 (b : Int)] 24)) 114 ((takeAt i q t).flatMap Ins.cells).toArray
  rw [World.size_alloc] at B
  have HB := Lib.hid B
  clear n0 n1 d0 d1 b0 b1 hp hbd hkd hq hi hf ht hnow hk B
  go_enter Try.func40, Try.ntmps40
  go_wp2
  try rw [Exit.noGoto_ret]
  go_ret
  exact ⟨_, Nat.lt_succ_self _, rfl, HB.out, fun S => ((Keeps.refl S w).alloc _).alloc _⟩
set_option maxRecDepth 100000 in
set_option maxHeartbeats 4000000 in
theorem takecode_out (now k : Nat) (hm : May n d b) (hnow : now ≤ 1099511627776) (hk : b < k) : Calls Try.prog 40 #[.int .i64 0, bv n d b, .int .u64 (now : Int), .int .u64 (k : Int), .int .i64 0, .int .i64 0] w fun e w' => ∃ g, w.heap.size < g ∧ e = .returned (.slice (some ⟨g, 0, none⟩) 12 12) ∧ Blk w' g 114 ((takeAt (now * n) 0 0).flatMap Ins.cells) ∧ (∀ S, Keeps S w w') := by
  obtain ⟨⟨n0, n1⟩, ⟨d0, d1⟩, b0, b1⟩ := hm
  have hp : now * n ≤ 1099511627776 * 65536 := Nat.mul_le_mul hnow n1
  have hbd : b * d ≤ 1048576 * 65536 := Nat.mul_le_mul b1 d1
  obtain ⟨i, hi⟩ : ∃ x, x = now * n := ⟨_, rfl⟩
  obtain ⟨f, hf⟩ : ∃ x, x = b * d := ⟨_, rfl⟩
  obtain ⟨t, ht⟩ : ∃ x, x = i + f := ⟨_, rfl⟩
  have e1 : IntKind.u64.wrap ((now : Int) * (n : Int)) = (i : Int) := by rw [mul_, wrap_ _ (by omega), hi]
  have e2 : IntKind.u64.wrap ((b : Int) * (d : Int)) = (f : Int) := by rw [mul_, wrap_ _ (by omega), hf]
  have e4 : IntKind.u64.wrap ((i : Int) + (f : Int)) = (t : Int) := by rw [add_', wrap_ _ (by omega), ht]
  have qk : ¬ (k : Int) ≤ (b : Int) := by omega
  rw [← hi]
  unfold bv
  have B := Blk.new (w.alloc (.cells #[.int .u64 (n : Int), .int .u64 (d : Int), .int .u64 (b : Int)] 24)) 114 ((takeAt i 0 0).flatMap Ins.cells).toArray
  rw [World.size_alloc] at B
  have HB := Lib.hid B
  clear n0 n1 d0 d1 b0 b1 hp hbd hi hf ht hnow hk B
  go_enter Try.func40, Try.ntmps40
  go_wp2
  try rw [Exit.noGoto_ret]
  go_ret
  exact ⟨_, Nat.lt_succ_self _, rfl, HB.out, fun S => ((Keeps.refl S w).alloc _).alloc _⟩
set_option maxRecDepth 100000 in
set_option maxHeartbeats 4000000 in
theorem late_code : Calls Try.prog 38 #[.int .i64 5] w (CallMade w lateCode) := by
  obtain ⟨w2, hw2⟩ : ∃ w2, w2 = ((w.alloc (.cells #[.slice none 0 0, .slice none 0 0] 49)).alloc (.cells (lateAt.flatMap Ins.cells).toArray 114)).alloc (.cells #[.int .i64 0, .int .i64 9] 3) := ⟨_, rfl⟩
  have b1 : Blk w2 w.heap.size 49 [.slice none 0 0, .slice none 0 0] := by rw [hw2]; exact ((Blk.new w _ _).alloc _).alloc _
  have b2 : Blk w2 (w.heap.size + 1) 114 (lateAt.flatMap Ins.cells) := by
    have := (Blk.new (w.alloc (.cells #[.slice none 0 0, .slice none 0 0] 49)) 114 (lateAt.flatMap Ins.cells).toArray).alloc (.cells #[.int .i64 0, .int .i64 9] 3)
    rw [World.size_alloc] at this
    rw [hw2]; exact this
  have b3 : Blk w2 (w.heap.size + 1 + 1) 3 [.int .i64 ((0 : Nat) : Int), .int .i64 ((9 : Nat) : Int)] := by
    have := Blk.new ((w.alloc (.cells #[.slice none 0 0, .slice none 0 0] 49)).alloc (.cells (lateAt.flatMap Ins.cells).toArray 114)) 3 #[.int .i64 0, .int .i64 9]
    rw [World.size_alloc, World.size_alloc] at this
    rw [hw2]; exact this
  have m := Mk.start b1 b2 (n := 1) rfl (by omega) (by omega) (fun S => by rw [hw2]; exact (((Keeps.refl S w).alloc _).alloc _).alloc _)
  have HT := Lib.hid (tell_ w w2 _ 1 1 (w.heap.size + 1 + 1) 0 9 _ m rfl (by omega) (by omega) b3 (by omega))
  have HW := Lib.hid hw2
  clear hw2 b1 b2 b3 m
  go_enter Try.func38, Try.ntmps38
  go_wp2_with fail
  refine (show Calls Try.prog _ _ _ _ from (by have h := HT.out; rw [HW.out] at h; exact h) : Calls Try.prog 39 _ _ _).mono ?_
  rintro e w6 ⟨g6, c6, rfl, m6⟩
  have b6 := m6.res
  have f0 := b6.frozen 0
  have f1 := b6.frozen 1
  have x0 : w6.cell? ⟨w.heap.size, 0, none⟩ = some (.slice none 0 0) := by rw [b6.cell]; rfl
  have x1 : w6.cell? ⟨w.heap.size, 1, none⟩ = some (.slice none 0 0) := by rw [b6.cell]; rfl
  have M6 := Lib.hid m6
  clear m6 b6
  go_wp2_with fail
  obtain ⟨r0, r1, hk⟩ := M6.out.end_ rfl (by omega)
  exact bodyPost_ret (v := .agg #[.slice (some ⟨g6, 0, none⟩) 3 c6, .slice none 0 0]) (by simp [results, Try.results38, go_sem, r0, r1]) rfl hk
set_option maxRecDepth 100000 in
set_option maxHeartbeats 4000000 in
theorem state_code : Calls Try.prog 27 #[] w (CallMade w stateCode) := by
  obtain ⟨w2, hw2⟩ : ∃ w2, w2 = ((w.alloc (.cells #[.slice none 0 0, .slice none 0 0] 49)).alloc (.cells (stateAt.flatMap Ins.cells).toArray 114)).alloc (.cells #[.int .i64 9, .int .i64 0] 3) := ⟨_, rfl⟩
  have b1 : Blk w2 w.heap.size 49 [.slice none 0 0, .slice none 0 0] := by rw [hw2]; exact ((Blk.new w _ _).alloc _).alloc _
  have b2 : Blk w2 (w.heap.size + 1) 114 (stateAt.flatMap Ins.cells) := by
    have := (Blk.new (w.alloc (.cells #[.slice none 0 0, .slice none 0 0] 49)) 114 (stateAt.flatMap Ins.cells).toArray).alloc (.cells #[.int .i64 9, .int .i64 0] 3)
    rw [World.size_alloc] at this
    rw [hw2]; exact this
  have b3 : Blk w2 (w.heap.size + 1 + 1) 3 [.int .i64 ((9 : Nat) : Int), .int .i64 ((0 : Nat) : Int)] := by
    have := Blk.new ((w.alloc (.cells #[.slice none 0 0, .slice none 0 0] 49)).alloc (.cells (stateAt.flatMap Ins.cells).toArray 114)) 3 #[.int .i64 9, .int .i64 0]
    rw [World.size_alloc, World.size_alloc] at this
    rw [hw2]; exact this
  have m := Mk.start b1 b2 (n := 1) rfl (by omega) (by omega) (fun S => by rw [hw2]; exact (((Keeps.refl S w).alloc _).alloc _).alloc _)
  have HT := Lib.hid (tell_ w w2 _ 1 1 (w.heap.size + 1 + 1) 9 0 _ m rfl (by omega) (by omega) b3 (by omega))
  have HW := Lib.hid hw2
  clear hw2 b1 b2 b3 m
  go_enter Try.func27, Try.ntmps27
  go_wp2_with fail
  refine (show Calls Try.prog _ _ _ _ from (by have h := HT.out; rw [HW.out] at h; exact h) : Calls Try.prog 39 _ _ _).mono ?_
  rintro e w6 ⟨g6, c6, rfl, m6⟩
  have b6 := m6.res
  have f0 := b6.frozen 0
  have f1 := b6.frozen 1
  have x0 : w6.cell? ⟨w.heap.size, 0, none⟩ = some (.slice none 0 0) := by rw [b6.cell]; rfl
  have x1 : w6.cell? ⟨w.heap.size, 1, none⟩ = some (.slice none 0 0) := by rw [b6.cell]; rfl
  have M6 := Lib.hid m6
  clear m6 b6
  go_wp2_with fail
  obtain ⟨r0, r1, hk⟩ := M6.out.end_ rfl (by omega)
  exact bodyPost_ret (v := .agg #[.slice (some ⟨g6, 0, none⟩) 3 c6, .slice none 0 0]) (by simp [results, Try.results27, go_sem, r0, r1]) rfl hk
theorem call_end13 {w w1 w2 : World} {code : List Ins} {CA DA : Option Addr} {cc dc : Nat} (k1 : ∀ S, Keeps S w w1) (bc : Blk w1 w.heap.size 49 [.slice none 0 0, .slice none 0 0]) (k2 : ∀ S, Keeps S w1 w2)
    (hb : ∀ w'', Keeps (fun b => b < w1.heap.size) w2 w'' → IsCode w'' w''.heap.size (.slice CA code.length cc) code ∧ IsData w'' w''.heap.size (.slice DA 0 dc) []) :
    CallMade w code (.returned (.agg #[.slice CA code.length cc, .slice DA 0 dc])) ((w2.setCell ⟨w.heap.size, 0, none⟩ (.slice CA code.length cc)).setCell ⟨w.heap.size, 1, none⟩ (.slice DA 0 dc)) := by
  have bc2 := Blk.keeps bc (k2 (fun _ => False)) (fun z => z)
  obtain ⟨r0, r1, hk⟩ := mz.stored (u := .slice CA code.length cc) (v := .slice DA 0 dc) bc2
  have hsz : w.heap.size < w1.heap.size := bc.lt
  refine ⟨_, _, rfl, fun w'' kk => hb w'' ((hk.mono (fun b _ e => by omega)).trans (kk.mono (fun b _ z => by omega))), fun S => ?_⟩
  have kw := ((k1 S).trans (k2 S))
  exact ⟨Nat.le_trans kw.size hk.size, fun b hb hs => by rw [hk.block b (Nat.lt_of_lt_of_le hb kw.size) (by omega), kw.block b hb hs], kw.same.trans hk.same⟩
set_option maxRecDepth 100000 in
set_option maxHeartbeats 4000000 in
theorem take_late (now k : Nat) (hnow : ¬ now ≤ 1099511627776) : Calls Try.prog 25 #[bv n d b, .int .u64 (now : Int), .int .u64 (k : Int)] w (CallMade w lateCode) := by
  have qn : (1099511627776 : Int) < (now : Int) := by omega
  unfold bv
  obtain ⟨wA, hwA, kA, bA⟩ := enter_blk w #[.int .u64 (n : Int), .int .u64 (d : Int), .int .u64 (b : Int)] 24
  have hsA : wA.heap.size = w.heap.size + 1 := by rw [hwA, World.size_alloc]
  obtain ⟨w2, hw2, k2, b2⟩ := enter_blk wA #[.slice none 0 0, .slice none 0 0] 49
  have bA2 := Blk.keeps bA (k2 (fun _ => False)) (fun z => z)
  have y0 : w2.cell? ⟨w.heap.size, 0, none⟩ = some (.int .u64 (n : Int)) := by rw [bA2.cell]; rfl
  have y1 : w2.cell? ⟨w.heap.size, 1, none⟩ = some (.int .u64 (d : Int)) := by rw [bA2.cell]; rfl
  have y2 : w2.cell? ⟨w.heap.size, 2, none⟩ = some (.int .u64 (b : Int)) := by rw [bA2.cell]; rfl
  have HW : Hid (w2 = (w.alloc (.cells #[.int .u64 (n : Int), .int .u64 (d : Int), .int .u64 (b : Int)] 24)).alloc (.cells #[.slice none 0 0, .slice none 0 0] 49)) := Lib.hid (by rw [hw2, hwA])
  have HSA := Lib.hid hsA
  have KA : Hid (∀ S, Keeps S w wA) := Lib.hid kA
  have K2 : Hid (∀ S, Keeps S wA w2) := Lib.hid k2
  have B2 := Lib.hid b2
  have HL := Lib.hid (late_code w2)
  clear hwA kA bA hsA hw2 k2 b2 bA2 hnow
  go_enter Try.func25, Try.ntmps25
  go_wp2_with fail
  rw [← HW.out]
  go_wp2_with fail
  refine HL.out.mono ?_
  rintro e w3 ⟨cv, dv, rfl, hb, k3⟩
  obtain ⟨⟨CA, cc, hcv, _⟩, ⟨DA, dc, hdv, _⟩⟩ := hb w3 (Keeps.refl _ _)
  subst hcv
  subst hdv
  have b3 := Blk.keeps B2.out (k3 (fun _ => False)) (fun z => z)
  have HE := Lib.hid (CallMade.base (call_end13 K2.out B2.out k3 hb) KA.out)
  have B3 := Lib.hid b3
  rw [HSA.out] at b3
  have f0 := b3.frozen 0
  have f1 := b3.frozen 1
  have x0 : w3.cell? ⟨w.heap.size + 1, 0, none⟩ = some (.slice none 0 0) := by rw [b3.cell]; rfl
  have x1 : w3.cell? ⟨w.heap.size + 1, 1, none⟩ = some (.slice none 0 0) := by rw [b3.cell]; rfl
  clear b3 k3 hb
  go_wp2_with fail
  have hE := HE.out
  obtain ⟨r0, r1, hk⟩ := mz.stored (u := .slice CA lateCode.length cc) (v := .slice DA 0 dc) B3.out
  rw [HSA.out] at r0 r1 hE
  exact bodyPost_ret (v := .agg #[.slice CA lateCode.length cc, .slice DA 0 dc]) (by simp [results, Try.results25, go_sem, r0, r1]) rfl hE
set_option maxRecDepth 100000 in
set_option maxHeartbeats 4000000 in
theorem level_late (now : Nat) (hnow : ¬ now ≤ 1099511627776) : Calls Try.prog 26 #[bv n d b, .int .u64 (now : Int)] w (CallMade w lateCode) := by
  have qn : (1099511627776 : Int) < (now : Int) := by omega
  unfold bv
  obtain ⟨wA, hwA, kA, bA⟩ := enter_blk w #[.int .u64 (n : Int), .int .u64 (d : Int), .int .u64 (b : Int)] 24
  have hsA : wA.heap.size = w.heap.size + 1 := by rw [hwA, World.size_alloc]
  obtain ⟨w2, hw2, k2, b2⟩ := enter_blk wA #[.slice none 0 0, .slice none 0 0] 49
  have bA2 := Blk.keeps bA (k2 (fun _ => False)) (fun z => z)
  have y0 : w2.cell? ⟨w.heap.size, 0, none⟩ = some (.int .u64 (n : Int)) := by rw [bA2.cell]; rfl
  have y1 : w2.cell? ⟨w.heap.size, 1, none⟩ = some (.int .u64 (d : Int)) := by rw [bA2.cell]; rfl
  have y2 : w2.cell? ⟨w.heap.size, 2, none⟩ = some (.int .u64 (b : Int)) := by rw [bA2.cell]; rfl
  have HW : Hid (w2 = (w.alloc (.cells #[.int .u64 (n : Int), .int .u64 (d : Int), .int .u64 (b : Int)] 24)).alloc (.cells #[.slice none 0 0, .slice none 0 0] 49)) := Lib.hid (by rw [hw2, hwA])
  have HSA := Lib.hid hsA
  have KA : Hid (∀ S, Keeps S w wA) := Lib.hid kA
  have K2 : Hid (∀ S, Keeps S wA w2) := Lib.hid k2
  have B2 := Lib.hid b2
  have HL := Lib.hid (late_code w2)
  clear hwA kA bA hsA hw2 k2 b2 bA2 hnow
  go_enter Try.func26, Try.ntmps26
  go_wp2_with fail
  rw [← HW.out]
  go_wp2_with fail
  refine HL.out.mono ?_
  rintro e w3 ⟨cv, dv, rfl, hb, k3⟩
  obtain ⟨⟨CA, cc, hcv, _⟩, ⟨DA, dc, hdv, _⟩⟩ := hb w3 (Keeps.refl _ _)
  subst hcv
  subst hdv
  have b3 := Blk.keeps B2.out (k3 (fun _ => False)) (fun z => z)
  have HE := Lib.hid (CallMade.base (call_end13 K2.out B2.out k3 hb) KA.out)
  have B3 := Lib.hid b3
  rw [HSA.out] at b3
  have f0 := b3.frozen 0
  have f1 := b3.frozen 1
  have x0 : w3.cell? ⟨w.heap.size + 1, 0, none⟩ = some (.slice none 0 0) := by rw [b3.cell]; rfl
  have x1 : w3.cell? ⟨w.heap.size + 1, 1, none⟩ = some (.slice none 0 0) := by rw [b3.cell]; rfl
  clear b3 k3 hb
  go_wp2_with fail
  have hE := HE.out
  obtain ⟨r0, r1, hk⟩ := mz.stored (u := .slice CA lateCode.length cc) (v := .slice DA 0 dc) B3.out
  rw [HSA.out] at r0 r1 hE
  exact bodyPost_ret (v := .agg #[.slice CA lateCode.length cc, .slice DA 0 dc]) (by simp [results, Try.results26, go_sem, r0, r1]) rfl hE
set_option maxRecDepth 100000 in
set_option maxHeartbeats 4000000 in
theorem take_in (now k : Nat) (hm : May n d b) (hnow : now ≤ 1099511627776) (hk : k ≤ b) : Calls Try.prog 25 #[bv n d b, .int .u64 (now : Int), .int .u64 (k : Int)] w (CallMade w (takeCode (now * n) (k * d) (now * n + b * d))) := by
  have qn : ¬ (1099511627776 : Int) < (now : Int) := by omega
  obtain ⟨wA, hwA, kA, bA⟩ := enter_blk w #[.int .u64 (n : Int), .int .u64 (d : Int), .int .u64 (b : Int)] 24
  have hsA : wA.heap.size = w.heap.size + 1 := by rw [hwA, World.size_alloc]
  obtain ⟨w2, hw2, k2, b2⟩ := enter_blk wA #[.slice none 0 0, .slice none 0 0] 49
  have bA2 := Blk.keeps bA (k2 (fun _ => False)) (fun z => z)
  have y0 : w2.cell? ⟨w.heap.size, 0, none⟩ = some (.int .u64 (n : Int)) := by rw [bA2.cell]; rfl
  have y1 : w2.cell? ⟨w.heap.size, 1, none⟩ = some (.int .u64 (d : Int)) := by rw [bA2.cell]; rfl
  have y2 : w2.cell? ⟨w.heap.size, 2, none⟩ = some (.int .u64 (b : Int)) := by rw [bA2.cell]; rfl
  have HW : Hid (w2 = (w.alloc (.cells #[.int .u64 (n : Int), .int .u64 (d : Int), .int .u64 (b : Int)] 24)).alloc (.cells #[.slice none 0 0, .slice none 0 0] 49)) := Lib.hid (by rw [hw2, hwA])
  have HSA := Lib.hid hsA
  have KA : Hid (∀ S, Keeps S w wA) := Lib.hid kA
  have K2 : Hid (∀ S, Keeps S wA w2) := Lib.hid k2
  have B2 := Lib.hid b2
  have HP := Lib.hid (takecode_in n d b w2 now k hm hnow hk)
  unfold bv at HP ⊢
  clear hwA kA bA hsA hw2 k2 b2 bA2 hnow hk hm
  unfold takeCode
  obtain ⟨at_, hat⟩ : ∃ c, c = takeAt (now * n) (k * d) (now * n + b * d) := ⟨_, rfl⟩
  have hal : at_.length = 12 := by rw [hat]; rfl
  rw [← hat] at HP ⊢
  clear hat
  go_enter Try.func25, Try.ntmps25
  go_wp2_with fail
  rw [← HW.out]
  go_wp2_with fail
  refine HP.out.mono ?_
  rintro e w3 ⟨g, hg, rfl, b3, k3⟩
  have hz := B2.out.lt
  have m3 := Mk.start (Blk.keeps B2.out (k3 (fun _ => False)) (fun z => z)) b3 hal (by omega) (by omega) (fun S => (K2.out S).trans (k3 S))
  have bL := Blk.new w3 3 #[.int .i64 ((9 : Nat) : Int), .int .i64 ((0 : Nat) : Int)]
  have HT := Lib.hid (tell_ wA _ g 12 12 w3.heap.size 9 0 _ (m3.alloc (.cells #[.int .i64 ((9 : Nat) : Int), .int .i64 ((0 : Nat) : Int)] 3)) hal (by omega) (by omega) bL (by have := b3.lt; omega))
  clear b3 k3 m3 bL hz
  go_wp2_with fail
  refine HT.out.mono ?_
  rintro e w6 ⟨g6, c6, rfl, m6⟩
  have b6 := m6.res
  rw [HSA.out] at b6
  have f0 := b6.frozen 0
  have f1 := b6.frozen 1
  have x0 : w6.cell? ⟨w.heap.size + 1, 0, none⟩ = some (.slice none 0 0) := by rw [b6.cell]; rfl
  have x1 : w6.cell? ⟨w.heap.size + 1, 1, none⟩ = some (.slice none 0 0) := by rw [b6.cell]; rfl
  have M6 := Lib.hid m6
  clear m6 b6
  go_wp2_with fail
  obtain ⟨r0, r1, hE⟩ := M6.out.end_ (by simp [hal, tells]) (by omega)
  have hE := CallMade.base hE KA.out
  rw [HSA.out] at r0 r1 hE
  exact bodyPost_ret (v := .agg #[.slice (some ⟨g6, 0, none⟩) 14 c6, .slice none 0 0]) (by simp [results, Try.results25, go_sem, r0, r1]) rfl hE
set_option maxRecDepth 100000 in
set_option maxHeartbeats 4000000 in
theorem take_out (now k : Nat) (hm : May n d b) (hnow : now ≤ 1099511627776) (hk : b < k) : Calls Try.prog 25 #[bv n d b, .int .u64 (now : Int), .int .u64 (k : Int)] w (CallMade w (takeCode (now * n) 0 0)) := by
  have qn : ¬ (1099511627776 : Int) < (now : Int) := by omega
  obtain ⟨wA, hwA, kA, bA⟩ := enter_blk w #[.int .u64 (n : Int), .int .u64 (d : Int), .int .u64 (b : Int)] 24
  have hsA : wA.heap.size = w.heap.size + 1 := by rw [hwA, World.size_alloc]
  obtain ⟨w2, hw2, k2, b2⟩ := enter_blk wA #[.slice none 0 0, .slice none 0 0] 49
  have bA2 := Blk.keeps bA (k2 (fun _ => False)) (fun z => z)
  have y0 : w2.cell? ⟨w.heap.size, 0, none⟩ = some (.int .u64 (n : Int)) := by rw [bA2.cell]; rfl
  have y1 : w2.cell? ⟨w.heap.size, 1, none⟩ = some (.int .u64 (d : Int)) := by rw [bA2.cell]; rfl
  have y2 : w2.cell? ⟨w.heap.size, 2, none⟩ = some (.int .u64 (b : Int)) := by rw [bA2.cell]; rfl
  have HW : Hid (w2 = (w.alloc (.cells #[.int .u64 (n : Int), .int .u64 (d : Int), .int .u64 (b : Int)] 24)).alloc (.cells #[.slice none 0 0, .slice none 0 0] 49)) := Lib.hid (by rw [hw2, hwA])
  have HSA := Lib.hid hsA
  have KA : Hid (∀ S, Keeps S w wA) := Lib.hid kA
  have K2 : Hid (∀ S, Keeps S wA w2) := Lib.hid k2
  have B2 := Lib.hid b2
  have HP := Lib.hid (takecode_out n d b w2 now k hm hnow hk)
  unfold bv at HP ⊢
  clear hwA kA bA hsA hw2 k2 b2 bA2 hnow hk hm
  unfold takeCode
  obtain ⟨at_, hat⟩ : ∃ c, c = takeAt (now * n) 0 0 := ⟨_, rfl⟩
  have hal : at_.length = 12 := by rw [hat]; rfl
  rw [← hat] at HP ⊢
  clear hat
  go_enter Try.func25, Try.ntmps25
  go_wp2_with fail
  rw [← HW.out]
  go_wp2_with fail
  refine HP.out.mono ?_
  rintro e w3 ⟨g, hg, rfl, b3, k3⟩
  have hz := B2.out.lt
  have m3 := Mk.start (Blk.keeps B2.out (k3 (fun _ => False)) (fun z => z)) b3 hal (by omega) (by omega) (fun S => (K2.out S).trans (k3 S))
  have bL := Blk.new w3 3 #[.int .i64 ((9 : Nat) : Int), .int .i64 ((0 : Nat) : Int)]
  have HT := Lib.hid (tell_ wA _ g 12 12 w3.heap.size 9 0 _ (m3.alloc (.cells #[.int .i64 ((9 : Nat) : Int), .int .i64 ((0 : Nat) : Int)] 3)) hal (by omega) (by omega) bL (by have := b3.lt; omega))
  clear b3 k3 m3 bL hz
  go_wp2_with fail
  refine HT.out.mono ?_
  rintro e w6 ⟨g6, c6, rfl, m6⟩
  have b6 := m6.res
  rw [HSA.out] at b6
  have f0 := b6.frozen 0
  have f1 := b6.frozen 1
  have x0 : w6.cell? ⟨w.heap.size + 1, 0, none⟩ = some (.slice none 0 0) := by rw [b6.cell]; rfl
  have x1 : w6.cell? ⟨w.heap.size + 1, 1, none⟩ = some (.slice none 0 0) := by rw [b6.cell]; rfl
  have M6 := Lib.hid m6
  clear m6 b6
  go_wp2_with fail
  obtain ⟨r0, r1, hE⟩ := M6.out.end_ (by simp [hal, tells]) (by omega)
  have hE := CallMade.base hE KA.out
  rw [HSA.out] at r0 r1 hE
  exact bodyPost_ret (v := .agg #[.slice (some ⟨g6, 0, none⟩) 14 c6, .slice none 0 0]) (by simp [results, Try.results25, go_sem, r0, r1]) rfl hE
end
end Go.Proofs.Ytgenblefbddilaa.rf13
