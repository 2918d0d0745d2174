/-
  the law's done: one call, done on the cells. the law's other: one call, done on the flag or the box. the law's done, where it hands the call on to other.
-/
import Derived.Test.YtakpfkfhbeobeaaCeMade
set_option linter.unusedVariables false
namespace Go.Proofs.Ytakpfkfhbeobeaa.ce
open Go.RowKit Go.Proofs.Ytakpfkfhbeobeaa.oc Go.Proofs.Ytakpfkfhbeobeaa.mz
set_option maxRecDepth 100000 in
set_option maxHeartbeats 1000000 in
theorem within11 (d : Int) (hd : -9223372036854775808 ≤ d ∧ d < 9223372036854775808) (w : World) : Calls Try.prog 18 #[.int .i64 d, .int .i64 11] w fun e w' => e = .returned (.int .i64 (d % 11)) ∧ w = w' := by
  have ht : d.tmod 11 = d % 11 ∧ 0 ≤ d.tmod 11 ∨ d.tmod 11 + 11 = d % 11 ∧ d.tmod 11 < 0 := by
    have := Int.tmod_eq_emod (a := d) (b := 11)
    split at this
    · left; omega
    · right
      have e : ((11 : Int).natAbs : Int) = 11 := rfl
      omega
  by_cases h : d.tmod 11 < 0
  · go_enter Try.func18, Try.ntmps18
    go_wp2
    go_ret
    refine ⟨?_, rfl⟩
    show Ending.returned (.int .i64 (d.tmod 11 + 11)) = .returned (.int .i64 (d % 11))
    rw [show d.tmod 11 + 11 = d % 11 from by omega]
  · go_enter Try.func18, Try.ntmps18
    go_wp2
    go_ret
    refine ⟨?_, rfl⟩
    show Ending.returned (.int .i64 (d.tmod 11)) = .returned (.int .i64 (d % 11))
    rw [show d.tmod 11 = d % 11 from by omega]
/-- what done leaves -/
structure DPost (C L B c x v n : Nat) (gv : Value) (told : List Nat) (ms : List (Nat × Nat)) (F : Nat → Prop) (w : World) (e : Ending) (w' : World) : Prop where
  out : ∃ A, e = .returned (.tuple #[.slice (some ⟨A, 0, none⟩) told.length told.length, .int .i64 0]) ∧ Blk w' A 22 (told.map fun (k : Nat) => Value.int .u64 (k : Int)) ∧ w.heap.size ≤ A
  rest : ∃ E F', Cl w' C L B E c x v n ∧ Gate w' gv ms F' ∧ (∀ b, F' b → Grown w w' F b) ∧ ¬ F' E
  keeps : Keeps (fun b => F b ∨ b = C ∨ b = L ∨ b = B) w w'
theorem Cl.keeps {w w' : World} {C L B E c x v n : Nat} {S : Nat → Prop} (h : Cl w C L B E c x v n) (k : Keeps S w w') (hC : ¬ S C) (hL : ¬ S L) (hB : ¬ S B) (hE : ¬ S E) : Cl w' C L B E c x v n :=
  ⟨h.cnt.keeps k hC, h.flg.keeps k hL, h.bit, h.box.keeps k hB hE⟩
theorem dpost_of {C L B E c x v n : Nat} {gv : Value} {ms : List (Nat × Nat)} {F F1 : Nat → Prop} {w w0 w1 : World} (k0 : Keeps (fun _ => False) w w0) (cl : Cl w1 C L B E c x v n) (g : Gate w1 gv ms F1) (hf : ∀ b, F1 b → Grown w0 w1 F b) (hFE : ¬ F1 E)
    (k1 : Keeps (fun b => F b ∨ b = C ∨ b = L ∨ b = B) w0 w1) (hF : ∀ b, F b → b < w.heap.size) (told : List Nat) (xs : Array Value) (hx : xs.toList = told.map fun (k : Nat) => Value.int .u64 (k : Int)) :
    DPost C L B c x v n gv told ms F w (.returned (.tuple #[.slice (some ⟨w1.heap.size, 0, none⟩) told.length told.length, .int .i64 0])) (w1.alloc (.cells xs 22)) := by
  have z0 := k0.size
  have z1 := k1.size
  have ka : Keeps (fun _ => False) w1 (w1.alloc (.cells xs 22)) := (Keeps.refl _ w1).alloc _
  have za := ka.size
  refine ⟨⟨w1.heap.size, rfl, ?_, by omega⟩, ⟨E, F1, cl.keeps ka id id id id, g.keeps ka (fun _ _ => id), fun b hb => ?_, hFE⟩, ((k0.mono fun _ _ z => z.elim).trans k1).trans (ka.mono fun _ _ z => z.elim)⟩
  · rw [← hx]; exact Blk.new w1 _ xs
  · rcases hf b hb with q | q
    · exact .inl q
    · exact .inr ⟨by omega, by omega⟩
theorem rows_two (w : World) (xs ys : Array Value) (t u : TypeId) : Keeps (fun _ => False) w ((w.alloc (.cells xs t)).alloc (.cells ys u)) ∧ Blk ((w.alloc (.cells xs t)).alloc (.cells ys u)) w.heap.size t xs.toList ∧ Blk ((w.alloc (.cells xs t)).alloc (.cells ys u)) (w.heap.size + 1) u ys.toList := by
  refine ⟨((Keeps.refl _ w).alloc _).alloc _, (Blk.new w t xs).alloc _, ?_⟩
  have h := Blk.new (w.alloc (.cells xs t)) u ys
  rwa [show (w.alloc (.cells xs t)).heap.size = w.heap.size + 1 from by show (w.heap.push _).size = _; simp] at h
theorem blk_ne {w : World} {a b : Nat} {t u : TypeId} {cs ds : List Value} (h : Blk w a t cs) (k : Blk w b u ds) (hn : t ≠ u) : a ≠ b := fun e => by
  subst e
  unfold Blk at h k
  rw [h] at k
  simp only [Option.some.injEq, Obj.cells.injEq] at k
  exact hn k.2.1
theorem fin_cnt {C L B E c c' x v n : Nat} {gv : Value} {ms : List (Nat × Nat)} {F : Nat → Prop} {w0 w1 : World} (h : Cl w0 C L B E c x v n) (hp : CPost C c' gv ms F w0 w1) (hL : ¬ F L) (hB : ¬ F B) (hE : ¬ F E) :
    Cl w1 C L B E c' x v n ∧ Gate w1 gv ms (Grown w0 w1 F) ∧ ¬ Grown w0 w1 F E ∧ Keeps (fun b => F b ∨ b = C ∨ b = L ∨ b = B) w0 w1 := by
  have nL : C ≠ L := blk_ne h.cnt.1 h.flg (by decide)
  have nB : C ≠ B := blk_ne h.cnt.1 h.box.1 (by decide)
  have nE : C ≠ E := blk_ne h.cnt.1 h.box.2.1 (by decide)
  have lt := h.lt
  refine ⟨⟨hp.1, h.flg.keeps hp.2.2 (fun z => by rcases z with z | z; exact hL z; exact nL z.symm), h.bit, h.box.keeps hp.2.2 (fun z => by rcases z with z | z; exact hB z; exact nB z.symm) (fun z => by rcases z with z | z; exact hE z; exact nE z.symm)⟩, hp.2.1, fun z => ?_, hp.2.2.mono fun _ _ z => ?_⟩
  · rcases z with z | z
    · exact hE z
    · omega
  · rcases z with z | z
    · exact .inl z
    · exact .inr (.inl z)
set_option maxRecDepth 100000 in
set_option maxHeartbeats 1000000 in
theorem done0 (C L B E c x v n : Nat) (d : Int) (dn dm dv : Nat) (gv : Value) (w : World) (ms : List (Nat × Nat)) (F : Nat → Prop) (h : Cl w C L B E c x v n) (hg : Gate w gv ms F) (hl : ms.length < 999999) (hC : ¬ F C) (hL : ¬ F L) (hB : ¬ F B) (hE : ¬ F E) (hF : ∀ b, F b → b < w.heap.size)
    (hd : -9223372036854775808 ≤ d ∧ d < 9223372036854775808) (hk : d % 11 = 0)  :
    Calls Try.prog 8 #[.agg #[.pointer (some ⟨C, 0, none⟩), .pointer (some ⟨L, 0, none⟩), .pointer (some ⟨B, 0, none⟩)], gv, .agg #[.int .i64 d, .int .u64 (dn : Int), .int .u64 (dm : Int), .int .u32 (dv : Int)]] w
      fun e w' => DPost C L B c x v n gv [c] (ms ++ [(1, 0)]) F w e w' := by
  obtain ⟨k0, bP, bD⟩ := rows_two w #[.pointer (some ⟨C, 0, none⟩), .pointer (some ⟨L, 0, none⟩), .pointer (some ⟨B, 0, none⟩)] #[.int .i64 d, .int .u64 (dn : Int), .int .u64 (dm : Int), .int .u32 (dv : Int)] 31 47
  obtain ⟨w0, hw0⟩ : ∃ w0, w0 = (w.alloc (.cells #[.pointer (some ⟨C, 0, none⟩), .pointer (some ⟨L, 0, none⟩), .pointer (some ⟨B, 0, none⟩)] 31)).alloc (.cells #[.int .i64 d, .int .u64 (dn : Int), .int .u64 (dm : Int), .int .u32 (dv : Int)] 47) := ⟨_, rfl⟩
  rw [← hw0] at k0 bP bD
  have p0 : w0.cell? ⟨w.heap.size, 0, none⟩ = some (.pointer (some ⟨C, 0, none⟩)) := by rw [bP.cell]; rfl
  have p1 : w0.cell? ⟨w.heap.size, 1, none⟩ = some (.pointer (some ⟨L, 0, none⟩)) := by rw [bP.cell]; rfl
  have p2 : w0.cell? ⟨w.heap.size, 2, none⟩ = some (.pointer (some ⟨B, 0, none⟩)) := by rw [bP.cell]; rfl
  have q0 : w0.cell? ⟨w.heap.size + 1, 0, none⟩ = some (.int .i64 d) := by rw [bD.cell]; rfl
  have q1 : w0.cell? ⟨w.heap.size + 1, 1, none⟩ = some (.int .u64 (dn : Int)) := by rw [bD.cell]; rfl
  have q2 : w0.cell? ⟨w.heap.size + 1, 2, none⟩ = some (.int .u64 (dm : Int)) := by rw [bD.cell]; rfl
  have q3 : w0.cell? ⟨w.heap.size + 1, 3, none⟩ = some (.int .u32 (dv : Int)) := by rw [bD.cell]; rfl
  have z0 := k0.size
  have hlt := h.lt
  have HCL := Lib.hid (h.keeps k0 id id id id)
  have HG := Lib.hid (hg.keeps k0 (fun _ _ => id))
  have K0 := Lib.hid k0
  have HW := Lib.hid hw0
  have HF : Hid (∀ b, F b → b < w.heap.size) := Lib.hid hF
  clear h hg k0 hw0 bP bD hF
  go_enter Try.func8, Try.ntmps8
  go_wp2_with fail
  rw [← HW.out]
  refine (within11 d hd w0).mono ?_
  rintro e wx ⟨rfl, rfl⟩
  rw [hk]
  go_wp2_with fail
  refine (cnt_get C c gv w0 ms F HCL.out.cnt HG.out (by omega) hC).mono ?_
  rintro e w1 ⟨rfl, g1⟩
  have FC := Lib.hid (fin_cnt (c' := c) HCL.out (⟨HCL.out.cnt.keeps g1.2 hC, g1.1, g1.2.mono fun _ _ z => .inl z⟩) hL hB hE)
  clear g1
  go_wp2
  go_ret2
  exact dpost_of K0.out FC.out.1 FC.out.2.1 (fun _ => id) FC.out.2.2.1 FC.out.2.2.2 HF.out _ _ rfl
set_option maxRecDepth 100000 in
set_option maxHeartbeats 1000000 in
theorem done1 (C L B E c x v n : Nat) (d : Int) (dn dm dv : Nat) (gv : Value) (w : World) (ms : List (Nat × Nat)) (F : Nat → Prop) (h : Cl w C L B E c x v n) (hg : Gate w gv ms F) (hl : ms.length < 999999) (hC : ¬ F C) (hL : ¬ F L) (hB : ¬ F B) (hE : ¬ F E) (hF : ∀ b, F b → b < w.heap.size)
    (hd : -9223372036854775808 ≤ d ∧ d < 9223372036854775808) (hk : d % 11 = 1)  :
    Calls Try.prog 8 #[.agg #[.pointer (some ⟨C, 0, none⟩), .pointer (some ⟨L, 0, none⟩), .pointer (some ⟨B, 0, none⟩)], gv, .agg #[.int .i64 d, .int .u64 (dn : Int), .int .u64 (dm : Int), .int .u32 (dv : Int)]] w
      fun e w' => DPost C L B ((c + dn) % W64) x v n gv [(c + dn) % W64] (ms ++ [(3, 0)]) F w e w' := by
  obtain ⟨k0, bP, bD⟩ := rows_two w #[.pointer (some ⟨C, 0, none⟩), .pointer (some ⟨L, 0, none⟩), .pointer (some ⟨B, 0, none⟩)] #[.int .i64 d, .int .u64 (dn : Int), .int .u64 (dm : Int), .int .u32 (dv : Int)] 31 47
  obtain ⟨w0, hw0⟩ : ∃ w0, w0 = (w.alloc (.cells #[.pointer (some ⟨C, 0, none⟩), .pointer (some ⟨L, 0, none⟩), .pointer (some ⟨B, 0, none⟩)] 31)).alloc (.cells #[.int .i64 d, .int .u64 (dn : Int), .int .u64 (dm : Int), .int .u32 (dv : Int)] 47) := ⟨_, rfl⟩
  rw [← hw0] at k0 bP bD
  have p0 : w0.cell? ⟨w.heap.size, 0, none⟩ = some (.pointer (some ⟨C, 0, none⟩)) := by rw [bP.cell]; rfl
  have p1 : w0.cell? ⟨w.heap.size, 1, none⟩ = some (.pointer (some ⟨L, 0, none⟩)) := by rw [bP.cell]; rfl
  have p2 : w0.cell? ⟨w.heap.size, 2, none⟩ = some (.pointer (some ⟨B, 0, none⟩)) := by rw [bP.cell]; rfl
  have q0 : w0.cell? ⟨w.heap.size + 1, 0, none⟩ = some (.int .i64 d) := by rw [bD.cell]; rfl
  have q1 : w0.cell? ⟨w.heap.size + 1, 1, none⟩ = some (.int .u64 (dn : Int)) := by rw [bD.cell]; rfl
  have q2 : w0.cell? ⟨w.heap.size + 1, 2, none⟩ = some (.int .u64 (dm : Int)) := by rw [bD.cell]; rfl
  have q3 : w0.cell? ⟨w.heap.size + 1, 3, none⟩ = some (.int .u32 (dv : Int)) := by rw [bD.cell]; rfl
  have z0 := k0.size
  have hlt := h.lt
  have HCL := Lib.hid (h.keeps k0 id id id id)
  have HG := Lib.hid (hg.keeps k0 (fun _ _ => id))
  have K0 := Lib.hid k0
  have HW := Lib.hid hw0
  have HF : Hid (∀ b, F b → b < w.heap.size) := Lib.hid hF
  clear h hg k0 hw0 bP bD hF
  go_enter Try.func8, Try.ntmps8
  go_wp2_with fail
  rw [← HW.out]
  refine (within11 d hd w0).mono ?_
  rintro e wx ⟨rfl, rfl⟩
  rw [hk]
  go_wp2_with fail
  refine (cnt_add C c dn gv w0 ms F HCL.out.cnt HG.out (by omega) hC).mono ?_
  rintro e w1 ⟨rfl, g1⟩
  have FC := Lib.hid (fin_cnt (c' := ((c + dn) % W64)) HCL.out (g1) hL hB hE)
  clear g1
  go_wp2
  go_ret2
  exact dpost_of K0.out FC.out.1 FC.out.2.1 (fun _ => id) FC.out.2.2.1 FC.out.2.2.2 HF.out _ _ rfl
set_option maxRecDepth 100000 in
set_option maxHeartbeats 1000000 in
theorem done2_yes (C L B E c x v n : Nat) (d : Int) (dn dm dv : Nat) (gv : Value) (w : World) (ms : List (Nat × Nat)) (F : Nat → Prop) (h : Cl w C L B E c x v n) (hg : Gate w gv ms F) (hl : ms.length < 999999) (hC : ¬ F C) (hL : ¬ F L) (hB : ¬ F B) (hE : ¬ F E) (hF : ∀ b, F b → b < w.heap.size)
    (hd : -9223372036854775808 ≤ d ∧ d < 9223372036854775808) (hk : d % 11 = 2) (hn : dn < 18446744073709551616) (hm : dm < 18446744073709551616) (h1 : dn ≤ dm) (h2 : c ≤ dm - dn) :
    Calls Try.prog 8 #[.agg #[.pointer (some ⟨C, 0, none⟩), .pointer (some ⟨L, 0, none⟩), .pointer (some ⟨B, 0, none⟩)], gv, .agg #[.int .i64 d, .int .u64 (dn : Int), .int .u64 (dm : Int), .int .u32 (dv : Int)]] w
      fun e w' => DPost C L B ((c + dn) % W64) x v n gv [(c + dn) % W64, 1] (ms ++ [(1, 0)] ++ [(5, 0)]) F w e w' := by
  obtain ⟨k0, bP, bD⟩ := rows_two w #[.pointer (some ⟨C, 0, none⟩), .pointer (some ⟨L, 0, none⟩), .pointer (some ⟨B, 0, none⟩)] #[.int .i64 d, .int .u64 (dn : Int), .int .u64 (dm : Int), .int .u32 (dv : Int)] 31 47
  obtain ⟨w0, hw0⟩ : ∃ w0, w0 = (w.alloc (.cells #[.pointer (some ⟨C, 0, none⟩), .pointer (some ⟨L, 0, none⟩), .pointer (some ⟨B, 0, none⟩)] 31)).alloc (.cells #[.int .i64 d, .int .u64 (dn : Int), .int .u64 (dm : Int), .int .u32 (dv : Int)] 47) := ⟨_, rfl⟩
  rw [← hw0] at k0 bP bD
  have p0 : w0.cell? ⟨w.heap.size, 0, none⟩ = some (.pointer (some ⟨C, 0, none⟩)) := by rw [bP.cell]; rfl
  have p1 : w0.cell? ⟨w.heap.size, 1, none⟩ = some (.pointer (some ⟨L, 0, none⟩)) := by rw [bP.cell]; rfl
  have p2 : w0.cell? ⟨w.heap.size, 2, none⟩ = some (.pointer (some ⟨B, 0, none⟩)) := by rw [bP.cell]; rfl
  have q0 : w0.cell? ⟨w.heap.size + 1, 0, none⟩ = some (.int .i64 d) := by rw [bD.cell]; rfl
  have q1 : w0.cell? ⟨w.heap.size + 1, 1, none⟩ = some (.int .u64 (dn : Int)) := by rw [bD.cell]; rfl
  have q2 : w0.cell? ⟨w.heap.size + 1, 2, none⟩ = some (.int .u64 (dm : Int)) := by rw [bD.cell]; rfl
  have q3 : w0.cell? ⟨w.heap.size + 1, 3, none⟩ = some (.int .u32 (dv : Int)) := by rw [bD.cell]; rfl
  have z0 := k0.size
  have hlt := h.lt
  have HCL := Lib.hid (h.keeps k0 id id id id)
  have HG := Lib.hid (hg.keeps k0 (fun _ _ => id))
  have K0 := Lib.hid k0
  have HW := Lib.hid hw0
  have HF : Hid (∀ b, F b → b < w.heap.size) := Lib.hid hF
  clear h hg k0 hw0 bP bD hF
  go_enter Try.func8, Try.ntmps8
  go_wp2_with fail
  rw [← HW.out]
  refine (within11 d hd w0).mono ?_
  rintro e wx ⟨rfl, rfl⟩
  rw [hk]
  go_wp2_with fail
  refine (cnt_up_yes C c dn dm gv w0 ms F HCL.out.cnt HG.out (by omega) hC (fun b hb => by have := HF.out b hb; omega) hn hm h1 h2).mono ?_
  rintro e w1 ⟨rfl, g1⟩
  have FC := Lib.hid (fin_cnt (c' := ((c + dn) % W64)) HCL.out (g1) hL hB hE)
  clear g1
  go_wp2_with fail
  refine (yes_any true w1).mono ?_
  rintro e w2 ⟨rfl, rfl⟩
  go_wp2
  go_ret2
  exact dpost_of K0.out FC.out.1 FC.out.2.1 (fun _ => id) FC.out.2.2.1 FC.out.2.2.2 HF.out _ _ rfl
set_option maxRecDepth 100000 in
set_option maxHeartbeats 1000000 in
theorem done2_no1 (C L B E c x v n : Nat) (d : Int) (dn dm dv : Nat) (gv : Value) (w : World) (ms : List (Nat × Nat)) (F : Nat → Prop) (h : Cl w C L B E c x v n) (hg : Gate w gv ms F) (hl : ms.length < 999999) (hC : ¬ F C) (hL : ¬ F L) (hB : ¬ F B) (hE : ¬ F E) (hF : ∀ b, F b → b < w.heap.size)
    (hd : -9223372036854775808 ≤ d ∧ d < 9223372036854775808) (hk : d % 11 = 2) (hn : dn < 18446744073709551616) (hm : dm < 18446744073709551616) (h1 : ¬ dn ≤ dm) :
    Calls Try.prog 8 #[.agg #[.pointer (some ⟨C, 0, none⟩), .pointer (some ⟨L, 0, none⟩), .pointer (some ⟨B, 0, none⟩)], gv, .agg #[.int .i64 d, .int .u64 (dn : Int), .int .u64 (dm : Int), .int .u32 (dv : Int)]] w
      fun e w' => DPost C L B c x v n gv [c, 0] (ms ++ [(1, 0)]) F w e w' := by
  obtain ⟨k0, bP, bD⟩ := rows_two w #[.pointer (some ⟨C, 0, none⟩), .pointer (some ⟨L, 0, none⟩), .pointer (some ⟨B, 0, none⟩)] #[.int .i64 d, .int .u64 (dn : Int), .int .u64 (dm : Int), .int .u32 (dv : Int)] 31 47
  obtain ⟨w0, hw0⟩ : ∃ w0, w0 = (w.alloc (.cells #[.pointer (some ⟨C, 0, none⟩), .pointer (some ⟨L, 0, none⟩), .pointer (some ⟨B, 0, none⟩)] 31)).alloc (.cells #[.int .i64 d, .int .u64 (dn : Int), .int .u64 (dm : Int), .int .u32 (dv : Int)] 47) := ⟨_, rfl⟩
  rw [← hw0] at k0 bP bD
  have p0 : w0.cell? ⟨w.heap.size, 0, none⟩ = some (.pointer (some ⟨C, 0, none⟩)) := by rw [bP.cell]; rfl
  have p1 : w0.cell? ⟨w.heap.size, 1, none⟩ = some (.pointer (some ⟨L, 0, none⟩)) := by rw [bP.cell]; rfl
  have p2 : w0.cell? ⟨w.heap.size, 2, none⟩ = some (.pointer (some ⟨B, 0, none⟩)) := by rw [bP.cell]; rfl
  have q0 : w0.cell? ⟨w.heap.size + 1, 0, none⟩ = some (.int .i64 d) := by rw [bD.cell]; rfl
  have q1 : w0.cell? ⟨w.heap.size + 1, 1, none⟩ = some (.int .u64 (dn : Int)) := by rw [bD.cell]; rfl
  have q2 : w0.cell? ⟨w.heap.size + 1, 2, none⟩ = some (.int .u64 (dm : Int)) := by rw [bD.cell]; rfl
  have q3 : w0.cell? ⟨w.heap.size + 1, 3, none⟩ = some (.int .u32 (dv : Int)) := by rw [bD.cell]; rfl
  have z0 := k0.size
  have hlt := h.lt
  have HCL := Lib.hid (h.keeps k0 id id id id)
  have HG := Lib.hid (hg.keeps k0 (fun _ _ => id))
  have K0 := Lib.hid k0
  have HW := Lib.hid hw0
  have HF : Hid (∀ b, F b → b < w.heap.size) := Lib.hid hF
  clear h hg k0 hw0 bP bD hF
  go_enter Try.func8, Try.ntmps8
  go_wp2_with fail
  rw [← HW.out]
  refine (within11 d hd w0).mono ?_
  rintro e wx ⟨rfl, rfl⟩
  rw [hk]
  go_wp2_with fail
  refine (cnt_up_no1 C c dn dm gv w0 ms F HCL.out.cnt HG.out (by omega) hC (fun b hb => by have := HF.out b hb; omega) hn hm h1).mono ?_
  rintro e w1 ⟨rfl, g1⟩
  have FC := Lib.hid (fin_cnt (c' := c) HCL.out (g1) hL hB hE)
  clear g1
  go_wp2_with fail
  refine (yes_any false w1).mono ?_
  rintro e w2 ⟨rfl, rfl⟩
  go_wp2
  go_ret2
  exact dpost_of K0.out FC.out.1 FC.out.2.1 (fun _ => id) FC.out.2.2.1 FC.out.2.2.2 HF.out _ _ rfl
set_option maxRecDepth 100000 in
set_option maxHeartbeats 1000000 in
theorem done2_no2 (C L B E c x v n : Nat) (d : Int) (dn dm dv : Nat) (gv : Value) (w : World) (ms : List (Nat × Nat)) (F : Nat → Prop) (h : Cl w C L B E c x v n) (hg : Gate w gv ms F) (hl : ms.length < 999999) (hC : ¬ F C) (hL : ¬ F L) (hB : ¬ F B) (hE : ¬ F E) (hF : ∀ b, F b → b < w.heap.size)
    (hd : -9223372036854775808 ≤ d ∧ d < 9223372036854775808) (hk : d % 11 = 2) (hn : dn < 18446744073709551616) (hm : dm < 18446744073709551616) (h1 : dn ≤ dm) (h2 : ¬ c ≤ dm - dn) :
    Calls Try.prog 8 #[.agg #[.pointer (some ⟨C, 0, none⟩), .pointer (some ⟨L, 0, none⟩), .pointer (some ⟨B, 0, none⟩)], gv, .agg #[.int .i64 d, .int .u64 (dn : Int), .int .u64 (dm : Int), .int .u32 (dv : Int)]] w
      fun e w' => DPost C L B c x v n gv [c, 0] (ms ++ [(1, 0)]) F w e w' := by
  obtain ⟨k0, bP, bD⟩ := rows_two w #[.pointer (some ⟨C, 0, none⟩), .pointer (some ⟨L, 0, none⟩), .pointer (some ⟨B, 0, none⟩)] #[.int .i64 d, .int .u64 (dn : Int), .int .u64 (dm : Int), .int .u32 (dv : Int)] 31 47
  obtain ⟨w0, hw0⟩ : ∃ w0, w0 = (w.alloc (.cells #[.pointer (some ⟨C, 0, none⟩), .pointer (some ⟨L, 0, none⟩), .pointer (some ⟨B, 0, none⟩)] 31)).alloc (.cells #[.int .i64 d, .int .u64 (dn : Int), .int .u64 (dm : Int), .int .u32 (dv : Int)] 47) := ⟨_, rfl⟩
  rw [← hw0] at k0 bP bD
  have p0 : w0.cell? ⟨w.heap.size, 0, none⟩ = some (.pointer (some ⟨C, 0, none⟩)) := by rw [bP.cell]; rfl
  have p1 : w0.cell? ⟨w.heap.size, 1, none⟩ = some (.pointer (some ⟨L, 0, none⟩)) := by rw [bP.cell]; rfl
  have p2 : w0.cell? ⟨w.heap.size, 2, none⟩ = some (.pointer (some ⟨B, 0, none⟩)) := by rw [bP.cell]; rfl
  have q0 : w0.cell? ⟨w.heap.size + 1, 0, none⟩ = some (.int .i64 d) := by rw [bD.cell]; rfl
  have q1 : w0.cell? ⟨w.heap.size + 1, 1, none⟩ = some (.int .u64 (dn : Int)) := by rw [bD.cell]; rfl
  have q2 : w0.cell? ⟨w.heap.size + 1, 2, none⟩ = some (.int .u64 (dm : Int)) := by rw [bD.cell]; rfl
  have q3 : w0.cell? ⟨w.heap.size + 1, 3, none⟩ = some (.int .u32 (dv : Int)) := by rw [bD.cell]; rfl
  have z0 := k0.size
  have hlt := h.lt
  have HCL := Lib.hid (h.keeps k0 id id id id)
  have HG := Lib.hid (hg.keeps k0 (fun _ _ => id))
  have K0 := Lib.hid k0
  have HW := Lib.hid hw0
  have HF : Hid (∀ b, F b → b < w.heap.size) := Lib.hid hF
  clear h hg k0 hw0 bP bD hF
  go_enter Try.func8, Try.ntmps8
  go_wp2_with fail
  rw [← HW.out]
  refine (within11 d hd w0).mono ?_
  rintro e wx ⟨rfl, rfl⟩
  rw [hk]
  go_wp2_with fail
  refine (cnt_up_no2 C c dn dm gv w0 ms F HCL.out.cnt HG.out (by omega) hC (fun b hb => by have := HF.out b hb; omega) hn hm h1 h2).mono ?_
  rintro e w1 ⟨rfl, g1⟩
  have FC := Lib.hid (fin_cnt (c' := c) HCL.out (g1) hL hB hE)
  clear g1
  go_wp2_with fail
  refine (yes_any false w1).mono ?_
  rintro e w2 ⟨rfl, rfl⟩
  go_wp2
  go_ret2
  exact dpost_of K0.out FC.out.1 FC.out.2.1 (fun _ => id) FC.out.2.2.1 FC.out.2.2.2 HF.out _ _ rfl
set_option maxRecDepth 100000 in
set_option maxHeartbeats 1000000 in
theorem done3_yes (C L B E c x v n : Nat) (d : Int) (dn dm dv : Nat) (gv : Value) (w : World) (ms : List (Nat × Nat)) (F : Nat → Prop) (h : Cl w C L B E c x v n) (hg : Gate w gv ms F) (hl : ms.length < 999999) (hC : ¬ F C) (hL : ¬ F L) (hB : ¬ F B) (hE : ¬ F E) (hF : ∀ b, F b → b < w.heap.size)
    (hd : -9223372036854775808 ≤ d ∧ d < 9223372036854775808) (hk : d % 11 = 3) (hn : dn < 18446744073709551616) (h1 : dn ≤ c) :
    Calls Try.prog 8 #[.agg #[.pointer (some ⟨C, 0, none⟩), .pointer (some ⟨L, 0, none⟩), .pointer (some ⟨B, 0, none⟩)], gv, .agg #[.int .i64 d, .int .u64 (dn : Int), .int .u64 (dm : Int), .int .u32 (dv : Int)]] w
      fun e w' => DPost C L B ((c + (W64 - dn)) % W64) x v n gv [(c + (W64 - dn)) % W64, 1] (ms ++ [(1, 0)] ++ [(5, 0)]) F w e w' := by
  obtain ⟨k0, bP, bD⟩ := rows_two w #[.pointer (some ⟨C, 0, none⟩), .pointer (some ⟨L, 0, none⟩), .pointer (some ⟨B, 0, none⟩)] #[.int .i64 d, .int .u64 (dn : Int), .int .u64 (dm : Int), .int .u32 (dv : Int)] 31 47
  obtain ⟨w0, hw0⟩ : ∃ w0, w0 = (w.alloc (.cells #[.pointer (some ⟨C, 0, none⟩), .pointer (some ⟨L, 0, none⟩), .pointer (some ⟨B, 0, none⟩)] 31)).alloc (.cells #[.int .i64 d, .int .u64 (dn : Int), .int .u64 (dm : Int), .int .u32 (dv : Int)] 47) := ⟨_, rfl⟩
  rw [← hw0] at k0 bP bD
  have p0 : w0.cell? ⟨w.heap.size, 0, none⟩ = some (.pointer (some ⟨C, 0, none⟩)) := by rw [bP.cell]; rfl
  have p1 : w0.cell? ⟨w.heap.size, 1, none⟩ = some (.pointer (some ⟨L, 0, none⟩)) := by rw [bP.cell]; rfl
  have p2 : w0.cell? ⟨w.heap.size, 2, none⟩ = some (.pointer (some ⟨B, 0, none⟩)) := by rw [bP.cell]; rfl
  have q0 : w0.cell? ⟨w.heap.size + 1, 0, none⟩ = some (.int .i64 d) := by rw [bD.cell]; rfl
  have q1 : w0.cell? ⟨w.heap.size + 1, 1, none⟩ = some (.int .u64 (dn : Int)) := by rw [bD.cell]; rfl
  have q2 : w0.cell? ⟨w.heap.size + 1, 2, none⟩ = some (.int .u64 (dm : Int)) := by rw [bD.cell]; rfl
  have q3 : w0.cell? ⟨w.heap.size + 1, 3, none⟩ = some (.int .u32 (dv : Int)) := by rw [bD.cell]; rfl
  have z0 := k0.size
  have hlt := h.lt
  have HCL := Lib.hid (h.keeps k0 id id id id)
  have HG := Lib.hid (hg.keeps k0 (fun _ _ => id))
  have K0 := Lib.hid k0
  have HW := Lib.hid hw0
  have HF : Hid (∀ b, F b → b < w.heap.size) := Lib.hid hF
  clear h hg k0 hw0 bP bD hF
  go_enter Try.func8, Try.ntmps8
  go_wp2_with fail
  rw [← HW.out]
  refine (within11 d hd w0).mono ?_
  rintro e wx ⟨rfl, rfl⟩
  rw [hk]
  go_wp2_with fail
  refine (cnt_down_yes C c dn gv w0 ms F HCL.out.cnt HG.out (by omega) hC (fun b hb => by have := HF.out b hb; omega) hn h1).mono ?_
  rintro e w1 ⟨rfl, g1⟩
  have FC := Lib.hid (fin_cnt (c' := ((c + (W64 - dn)) % W64)) HCL.out (g1) hL hB hE)
  clear g1
  go_wp2_with fail
  refine (yes_any true w1).mono ?_
  rintro e w2 ⟨rfl, rfl⟩
  go_wp2
  go_ret2
  exact dpost_of K0.out FC.out.1 FC.out.2.1 (fun _ => id) FC.out.2.2.1 FC.out.2.2.2 HF.out _ _ rfl
set_option maxRecDepth 100000 in
set_option maxHeartbeats 1000000 in
theorem done3_no (C L B E c x v n : Nat) (d : Int) (dn dm dv : Nat) (gv : Value) (w : World) (ms : List (Nat × Nat)) (F : Nat → Prop) (h : Cl w C L B E c x v n) (hg : Gate w gv ms F) (hl : ms.length < 999999) (hC : ¬ F C) (hL : ¬ F L) (hB : ¬ F B) (hE : ¬ F E) (hF : ∀ b, F b → b < w.heap.size)
    (hd : -9223372036854775808 ≤ d ∧ d < 9223372036854775808) (hk : d % 11 = 3) (hn : dn < 18446744073709551616) (h1 : ¬ dn ≤ c) :
    Calls Try.prog 8 #[.agg #[.pointer (some ⟨C, 0, none⟩), .pointer (some ⟨L, 0, none⟩), .pointer (some ⟨B, 0, none⟩)], gv, .agg #[.int .i64 d, .int .u64 (dn : Int), .int .u64 (dm : Int), .int .u32 (dv : Int)]] w
      fun e w' => DPost C L B c x v n gv [c, 0] (ms ++ [(1, 0)]) F w e w' := by
  obtain ⟨k0, bP, bD⟩ := rows_two w #[.pointer (some ⟨C, 0, none⟩), .pointer (some ⟨L, 0, none⟩), .pointer (some ⟨B, 0, none⟩)] #[.int .i64 d, .int .u64 (dn : Int), .int .u64 (dm : Int), .int .u32 (dv : Int)] 31 47
  obtain ⟨w0, hw0⟩ : ∃ w0, w0 = (w.alloc (.cells #[.pointer (some ⟨C, 0, none⟩), .pointer (some ⟨L, 0, none⟩), .pointer (some ⟨B, 0, none⟩)] 31)).alloc (.cells #[.int .i64 d, .int .u64 (dn : Int), .int .u64 (dm : Int), .int .u32 (dv : Int)] 47) := ⟨_, rfl⟩
  rw [← hw0] at k0 bP bD
  have p0 : w0.cell? ⟨w.heap.size, 0, none⟩ = some (.pointer (some ⟨C, 0, none⟩)) := by rw [bP.cell]; rfl
  have p1 : w0.cell? ⟨w.heap.size, 1, none⟩ = some (.pointer (some ⟨L, 0, none⟩)) := by rw [bP.cell]; rfl
  have p2 : w0.cell? ⟨w.heap.size, 2, none⟩ = some (.pointer (some ⟨B, 0, none⟩)) := by rw [bP.cell]; rfl
  have q0 : w0.cell? ⟨w.heap.size + 1, 0, none⟩ = some (.int .i64 d) := by rw [bD.cell]; rfl
  have q1 : w0.cell? ⟨w.heap.size + 1, 1, none⟩ = some (.int .u64 (dn : Int)) := by rw [bD.cell]; rfl
  have q2 : w0.cell? ⟨w.heap.size + 1, 2, none⟩ = some (.int .u64 (dm : Int)) := by rw [bD.cell]; rfl
  have q3 : w0.cell? ⟨w.heap.size + 1, 3, none⟩ = some (.int .u32 (dv : Int)) := by rw [bD.cell]; rfl
  have z0 := k0.size
  have hlt := h.lt
  have HCL := Lib.hid (h.keeps k0 id id id id)
  have HG := Lib.hid (hg.keeps k0 (fun _ _ => id))
  have K0 := Lib.hid k0
  have HW := Lib.hid hw0
  have HF : Hid (∀ b, F b → b < w.heap.size) := Lib.hid hF
  clear h hg k0 hw0 bP bD hF
  go_enter Try.func8, Try.ntmps8
  go_wp2_with fail
  rw [← HW.out]
  refine (within11 d hd w0).mono ?_
  rintro e wx ⟨rfl, rfl⟩
  rw [hk]
  go_wp2_with fail
  refine (cnt_down_no C c dn gv w0 ms F HCL.out.cnt HG.out (by omega) hC (fun b hb => by have := HF.out b hb; omega) hn h1).mono ?_
  rintro e w1 ⟨rfl, g1⟩
  have FC := Lib.hid (fin_cnt (c' := c) HCL.out (g1) hL hB hE)
  clear g1
  go_wp2_with fail
  refine (yes_any false w1).mono ?_
  rintro e w2 ⟨rfl, rfl⟩
  go_wp2
  go_ret2
  exact dpost_of K0.out FC.out.1 FC.out.2.1 (fun _ => id) FC.out.2.2.1 FC.out.2.2.2 HF.out _ _ rfl
set_option maxRecDepth 100000 in
set_option maxHeartbeats 1000000 in
theorem done4_yes (C L B E c x v n : Nat) (d : Int) (dn dm dv : Nat) (gv : Value) (w : World) (ms : List (Nat × Nat)) (F : Nat → Prop) (h : Cl w C L B E c x v n) (hg : Gate w gv ms F) (hl : ms.length < 999999) (hC : ¬ F C) (hL : ¬ F L) (hB : ¬ F B) (hE : ¬ F E) (hF : ∀ b, F b → b < w.heap.size)
    (hd : -9223372036854775808 ≤ d ∧ d < 9223372036854775808) (hk : d % 11 = 4) (hn : dn < 18446744073709551616) (h1 : c < dn) :
    Calls Try.prog 8 #[.agg #[.pointer (some ⟨C, 0, none⟩), .pointer (some ⟨L, 0, none⟩), .pointer (some ⟨B, 0, none⟩)], gv, .agg #[.int .i64 d, .int .u64 (dn : Int), .int .u64 (dm : Int), .int .u32 (dv : Int)]] w
      fun e w' => DPost C L B dn x v n gv [1] (ms ++ [(1, 0)] ++ [(5, 0)]) F w e w' := by
  obtain ⟨k0, bP, bD⟩ := rows_two w #[.pointer (some ⟨C, 0, none⟩), .pointer (some ⟨L, 0, none⟩), .pointer (some ⟨B, 0, none⟩)] #[.int .i64 d, .int .u64 (dn : Int), .int .u64 (dm : Int), .int .u32 (dv : Int)] 31 47
  obtain ⟨w0, hw0⟩ : ∃ w0, w0 = (w.alloc (.cells #[.pointer (some ⟨C, 0, none⟩), .pointer (some ⟨L, 0, none⟩), .pointer (some ⟨B, 0, none⟩)] 31)).alloc (.cells #[.int .i64 d, .int .u64 (dn : Int), .int .u64 (dm : Int), .int .u32 (dv : Int)] 47) := ⟨_, rfl⟩
  rw [← hw0] at k0 bP bD
  have p0 : w0.cell? ⟨w.heap.size, 0, none⟩ = some (.pointer (some ⟨C, 0, none⟩)) := by rw [bP.cell]; rfl
  have p1 : w0.cell? ⟨w.heap.size, 1, none⟩ = some (.pointer (some ⟨L, 0, none⟩)) := by rw [bP.cell]; rfl
  have p2 : w0.cell? ⟨w.heap.size, 2, none⟩ = some (.pointer (some ⟨B, 0, none⟩)) := by rw [bP.cell]; rfl
  have q0 : w0.cell? ⟨w.heap.size + 1, 0, none⟩ = some (.int .i64 d) := by rw [bD.cell]; rfl
  have q1 : w0.cell? ⟨w.heap.size + 1, 1, none⟩ = some (.int .u64 (dn : Int)) := by rw [bD.cell]; rfl
  have q2 : w0.cell? ⟨w.heap.size + 1, 2, none⟩ = some (.int .u64 (dm : Int)) := by rw [bD.cell]; rfl
  have q3 : w0.cell? ⟨w.heap.size + 1, 3, none⟩ = some (.int .u32 (dv : Int)) := by rw [bD.cell]; rfl
  have z0 := k0.size
  have hlt := h.lt
  have HCL := Lib.hid (h.keeps k0 id id id id)
  have HG := Lib.hid (hg.keeps k0 (fun _ _ => id))
  have K0 := Lib.hid k0
  have HW := Lib.hid hw0
  have HF : Hid (∀ b, F b → b < w.heap.size) := Lib.hid hF
  clear h hg k0 hw0 bP bD hF
  go_enter Try.func8, Try.ntmps8
  go_wp2_with fail
  rw [← HW.out]
  refine (within11 d hd w0).mono ?_
  rintro e wx ⟨rfl, rfl⟩
  rw [hk]
  go_wp2_with fail
  refine (cnt_max_yes C c dn gv w0 ms F HCL.out.cnt HG.out (by omega) hC (fun b hb => by have := HF.out b hb; omega) hn h1).mono ?_
  rintro e w1 ⟨rfl, g1⟩
  have FC := Lib.hid (fin_cnt (c' := dn) HCL.out (g1) hL hB hE)
  clear g1
  go_wp2_with fail
  refine (yes_any true w1).mono ?_
  rintro e w2 ⟨rfl, rfl⟩
  go_wp2
  go_ret2
  exact dpost_of K0.out FC.out.1 FC.out.2.1 (fun _ => id) FC.out.2.2.1 FC.out.2.2.2 HF.out _ _ rfl
set_option maxRecDepth 100000 in
set_option maxHeartbeats 1000000 in
theorem done4_no (C L B E c x v n : Nat) (d : Int) (dn dm dv : Nat) (gv : Value) (w : World) (ms : List (Nat × Nat)) (F : Nat → Prop) (h : Cl w C L B E c x v n) (hg : Gate w gv ms F) (hl : ms.length < 999999) (hC : ¬ F C) (hL : ¬ F L) (hB : ¬ F B) (hE : ¬ F E) (hF : ∀ b, F b → b < w.heap.size)
    (hd : -9223372036854775808 ≤ d ∧ d < 9223372036854775808) (hk : d % 11 = 4) (hn : dn < 18446744073709551616) (h1 : ¬ c < dn) :
    Calls Try.prog 8 #[.agg #[.pointer (some ⟨C, 0, none⟩), .pointer (some ⟨L, 0, none⟩), .pointer (some ⟨B, 0, none⟩)], gv, .agg #[.int .i64 d, .int .u64 (dn : Int), .int .u64 (dm : Int), .int .u32 (dv : Int)]] w
      fun e w' => DPost C L B c x v n gv [0] (ms ++ [(1, 0)]) F w e w' := by
  obtain ⟨k0, bP, bD⟩ := rows_two w #[.pointer (some ⟨C, 0, none⟩), .pointer (some ⟨L, 0, none⟩), .pointer (some ⟨B, 0, none⟩)] #[.int .i64 d, .int .u64 (dn : Int), .int .u64 (dm : Int), .int .u32 (dv : Int)] 31 47
  obtain ⟨w0, hw0⟩ : ∃ w0, w0 = (w.alloc (.cells #[.pointer (some ⟨C, 0, none⟩), .pointer (some ⟨L, 0, none⟩), .pointer (some ⟨B, 0, none⟩)] 31)).alloc (.cells #[.int .i64 d, .int .u64 (dn : Int), .int .u64 (dm : Int), .int .u32 (dv : Int)] 47) := ⟨_, rfl⟩
  rw [← hw0] at k0 bP bD
  have p0 : w0.cell? ⟨w.heap.size, 0, none⟩ = some (.pointer (some ⟨C, 0, none⟩)) := by rw [bP.cell]; rfl
  have p1 : w0.cell? ⟨w.heap.size, 1, none⟩ = some (.pointer (some ⟨L, 0, none⟩)) := by rw [bP.cell]; rfl
  have p2 : w0.cell? ⟨w.heap.size, 2, none⟩ = some (.pointer (some ⟨B, 0, none⟩)) := by rw [bP.cell]; rfl
  have q0 : w0.cell? ⟨w.heap.size + 1, 0, none⟩ = some (.int .i64 d) := by rw [bD.cell]; rfl
  have q1 : w0.cell? ⟨w.heap.size + 1, 1, none⟩ = some (.int .u64 (dn : Int)) := by rw [bD.cell]; rfl
  have q2 : w0.cell? ⟨w.heap.size + 1, 2, none⟩ = some (.int .u64 (dm : Int)) := by rw [bD.cell]; rfl
  have q3 : w0.cell? ⟨w.heap.size + 1, 3, none⟩ = some (.int .u32 (dv : Int)) := by rw [bD.cell]; rfl
  have z0 := k0.size
  have hlt := h.lt
  have HCL := Lib.hid (h.keeps k0 id id id id)
  have HG := Lib.hid (hg.keeps k0 (fun _ _ => id))
  have K0 := Lib.hid k0
  have HW := Lib.hid hw0
  have HF : Hid (∀ b, F b → b < w.heap.size) := Lib.hid hF
  clear h hg k0 hw0 bP bD hF
  go_enter Try.func8, Try.ntmps8
  go_wp2_with fail
  rw [← HW.out]
  refine (within11 d hd w0).mono ?_
  rintro e wx ⟨rfl, rfl⟩
  rw [hk]
  go_wp2_with fail
  refine (cnt_max_no C c dn gv w0 ms F HCL.out.cnt HG.out (by omega) hC (fun b hb => by have := HF.out b hb; omega) hn h1).mono ?_
  rintro e w1 ⟨rfl, g1⟩
  have FC := Lib.hid (fin_cnt (c' := c) HCL.out (g1) hL hB hE)
  clear g1
  go_wp2_with fail
  refine (yes_any false w1).mono ?_
  rintro e w2 ⟨rfl, rfl⟩
  go_wp2
  go_ret2
  exact dpost_of K0.out FC.out.1 FC.out.2.1 (fun _ => id) FC.out.2.2.1 FC.out.2.2.2 HF.out _ _ rfl
end Go.Proofs.Ytakpfkfhbeobeaa.ce
set_option linter.unusedVariables false
namespace Go.Proofs.Ytakpfkfhbeobeaa.ce
open Go.RowKit Go.Proofs.Ytakpfkfhbeobeaa.oc Go.Proofs.Ytakpfkfhbeobeaa.mz
theorem fin_flg {C L B E c x v n : Nat} {y : Nat} {gv : Value} {ms : List (Nat × Nat)} {F : Nat → Prop} {w0 w1 : World} (h : Cl w0 C L B E c x v n) (hy : y < 2) (hp : FPost L (y : Int) gv ms F w0 w1) (hC : ¬ F C) (hB : ¬ F B) (hE : ¬ F E) :
    Cl w1 C L B E c y v n ∧ Gate w1 gv ms (Grown w0 w1 F) ∧ ¬ Grown w0 w1 F E ∧ Keeps (fun b => F b ∨ b = C ∨ b = L ∨ b = B) w0 w1 := by
  have nL : C ≠ L := blk_ne h.cnt.1 h.flg (by decide)
  have nB : L ≠ B := blk_ne h.flg h.box.1 (by decide)
  have nE : L ≠ E := blk_ne h.flg h.box.2.1 (by decide)
  have lt := h.lt
  refine ⟨⟨h.cnt.keeps hp.2.2 (fun z => by rcases z with z | z; exact hC z; exact nL z), hp.1, hy, h.box.keeps hp.2.2 (fun z => by rcases z with z | z; exact hB z; exact nB z.symm) (fun z => by rcases z with z | z; exact hE z; exact nE z.symm)⟩, hp.2.1, fun z => ?_, hp.2.2.mono fun _ _ z => ?_⟩
  · rcases z with z | z
    · exact hE z
    · omega
  · rcases z with z | z
    · exact .inl z
    · exact .inr (.inr (.inl z))
theorem fin_box {C L B E c x v n v2 n2 : Nat} {gv : Value} {ms : List (Nat × Nat)} {F : Nat → Prop} {w0 w1 : World} (h : Cl w0 C L B E c x v n) (hp : BPost B v2 n2 gv ms F w0 w1) (hC : ¬ F C) (hL : ¬ F L) :
    ∃ E' F', Cl w1 C L B E' c x v2 n2 ∧ Gate w1 gv ms F' ∧ (∀ b, F' b → Grown w0 w1 F b) ∧ ¬ F' E' ∧ Keeps (fun b => F b ∨ b = C ∨ b = L ∨ b = B) w0 w1 := by
  have nC : C ≠ B := blk_ne h.cnt.1 h.box.1 (by decide)
  have nL : L ≠ B := blk_ne h.flg h.box.1 (by decide)
  obtain ⟨E', F', h1, h2, h3, h4, h5, h6⟩ := hp
  refine ⟨E', F', ⟨h.cnt.keeps h6 (fun z => by rcases z with z | z; exact hC z; exact nC z), h.flg.keeps h6 (fun z => by rcases z with z | z; exact hL z; exact nL z), h.bit, h1⟩, h2, h5, h4, h6.mono fun _ _ z => ?_⟩
  rcases z with z | z
  · exact .inl z
  · exact .inr (.inr (.inr z))
set_option maxRecDepth 100000 in
set_option maxHeartbeats 1000000 in
theorem other5_0 (C L B E c x v n : Nat) (d : Int) (dn dm dv : Nat) (gv : Value) (w : World) (ms : List (Nat × Nat)) (F : Nat → Prop) (h : Cl w C L B E c x v n) (hg : Gate w gv ms F) (hl : ms.length < 999999) (hC : ¬ F C) (hL : ¬ F L) (hB : ¬ F B) (hE : ¬ F E) (hF : ∀ b, F b → b < w.heap.size)
    (hd : -9223372036854775808 ≤ d ∧ d < 9223372036854775808) (hk : d % 11 = 5) (hx : x = 0) :
    Calls Try.prog 25 #[.agg #[.pointer (some ⟨C, 0, none⟩), .pointer (some ⟨L, 0, none⟩), .pointer (some ⟨B, 0, none⟩)], gv, .agg #[.int .i64 d, .int .u64 (dn : Int), .int .u64 (dm : Int), .int .u32 (dv : Int)]] w
      fun e w' => DPost C L B c 0 v n gv [0] (ms ++ [(1, 0)]) F w e w' := by
  subst hx
  obtain ⟨k0, bP, bD⟩ := rows_two w #[.pointer (some ⟨C, 0, none⟩), .pointer (some ⟨L, 0, none⟩), .pointer (some ⟨B, 0, none⟩)] #[.int .i64 d, .int .u64 (dn : Int), .int .u64 (dm : Int), .int .u32 (dv : Int)] 31 47
  obtain ⟨w0, hw0⟩ : ∃ w0, w0 = (w.alloc (.cells #[.pointer (some ⟨C, 0, none⟩), .pointer (some ⟨L, 0, none⟩), .pointer (some ⟨B, 0, none⟩)] 31)).alloc (.cells #[.int .i64 d, .int .u64 (dn : Int), .int .u64 (dm : Int), .int .u32 (dv : Int)] 47) := ⟨_, rfl⟩
  rw [← hw0] at k0 bP bD
  have p0 : w0.cell? ⟨w.heap.size, 0, none⟩ = some (.pointer (some ⟨C, 0, none⟩)) := by rw [bP.cell]; rfl
  have p1 : w0.cell? ⟨w.heap.size, 1, none⟩ = some (.pointer (some ⟨L, 0, none⟩)) := by rw [bP.cell]; rfl
  have p2 : w0.cell? ⟨w.heap.size, 2, none⟩ = some (.pointer (some ⟨B, 0, none⟩)) := by rw [bP.cell]; rfl
  have q0 : w0.cell? ⟨w.heap.size + 1, 0, none⟩ = some (.int .i64 d) := by rw [bD.cell]; rfl
  have q1 : w0.cell? ⟨w.heap.size + 1, 1, none⟩ = some (.int .u64 (dn : Int)) := by rw [bD.cell]; rfl
  have q2 : w0.cell? ⟨w.heap.size + 1, 2, none⟩ = some (.int .u64 (dm : Int)) := by rw [bD.cell]; rfl
  have q3 : w0.cell? ⟨w.heap.size + 1, 3, none⟩ = some (.int .u32 (dv : Int)) := by rw [bD.cell]; rfl
  have z0 := k0.size
  have hlt := h.lt
  have HCL := Lib.hid (h.keeps k0 id id id id)
  have HG := Lib.hid (hg.keeps k0 (fun _ _ => id))
  have K0 := Lib.hid k0
  have HW := Lib.hid hw0
  have HF : Hid (∀ b, F b → b < w.heap.size) := Lib.hid hF
  clear h hg k0 hw0 bP bD hF
  go_enter Try.func25, Try.ntmps25
  go_wp2_with fail
  rw [← HW.out]
  refine (within11 d hd w0).mono ?_
  rintro e wx ⟨rfl, rfl⟩
  rw [hk]
  go_wp2_with fail
  refine (flg_get0 L gv w0 ms F HCL.out.flg HG.out (by omega) hL).mono ?_
  rintro e w1 ⟨rfl, g1⟩
  have FC := Lib.hid (fin_flg (y := 0) HCL.out (by omega) g1 hC hB hE)
  clear g1
  go_wp2_with fail
  refine (yes_any false w1).mono ?_
  rintro e w2 ⟨rfl, rfl⟩
  go_wp2
  go_ret2
  exact dpost_of K0.out FC.out.1 FC.out.2.1 (fun _ => id) FC.out.2.2.1 FC.out.2.2.2 HF.out _ _ rfl
set_option maxRecDepth 100000 in
set_option maxHeartbeats 1000000 in
theorem other6_0 (C L B E c x v n : Nat) (d : Int) (dn dm dv : Nat) (gv : Value) (w : World) (ms : List (Nat × Nat)) (F : Nat → Prop) (h : Cl w C L B E c x v n) (hg : Gate w gv ms F) (hl : ms.length < 999999) (hC : ¬ F C) (hL : ¬ F L) (hB : ¬ F B) (hE : ¬ F E) (hF : ∀ b, F b → b < w.heap.size)
    (hd : -9223372036854775808 ≤ d ∧ d < 9223372036854775808) (hk : d % 11 = 6) (hx : x = 0) :
    Calls Try.prog 25 #[.agg #[.pointer (some ⟨C, 0, none⟩), .pointer (some ⟨L, 0, none⟩), .pointer (some ⟨B, 0, none⟩)], gv, .agg #[.int .i64 d, .int .u64 (dn : Int), .int .u64 (dm : Int), .int .u32 (dv : Int)]] w
      fun e w' => DPost C L B c 1 v n gv [1] (ms ++ [(4, 0)]) F w e w' := by
  subst hx
  obtain ⟨k0, bP, bD⟩ := rows_two w #[.pointer (some ⟨C, 0, none⟩), .pointer (some ⟨L, 0, none⟩), .pointer (some ⟨B, 0, none⟩)] #[.int .i64 d, .int .u64 (dn : Int), .int .u64 (dm : Int), .int .u32 (dv : Int)] 31 47
  obtain ⟨w0, hw0⟩ : ∃ w0, w0 = (w.alloc (.cells #[.pointer (some ⟨C, 0, none⟩), .pointer (some ⟨L, 0, none⟩), .pointer (some ⟨B, 0, none⟩)] 31)).alloc (.cells #[.int .i64 d, .int .u64 (dn : Int), .int .u64 (dm : Int), .int .u32 (dv : Int)] 47) := ⟨_, rfl⟩
  rw [← hw0] at k0 bP bD
  have p0 : w0.cell? ⟨w.heap.size, 0, none⟩ = some (.pointer (some ⟨C, 0, none⟩)) := by rw [bP.cell]; rfl
  have p1 : w0.cell? ⟨w.heap.size, 1, none⟩ = some (.pointer (some ⟨L, 0, none⟩)) := by rw [bP.cell]; rfl
  have p2 : w0.cell? ⟨w.heap.size, 2, none⟩ = some (.pointer (some ⟨B, 0, none⟩)) := by rw [bP.cell]; rfl
  have q0 : w0.cell? ⟨w.heap.size + 1, 0, none⟩ = some (.int .i64 d) := by rw [bD.cell]; rfl
  have q1 : w0.cell? ⟨w.heap.size + 1, 1, none⟩ = some (.int .u64 (dn : Int)) := by rw [bD.cell]; rfl
  have q2 : w0.cell? ⟨w.heap.size + 1, 2, none⟩ = some (.int .u64 (dm : Int)) := by rw [bD.cell]; rfl
  have q3 : w0.cell? ⟨w.heap.size + 1, 3, none⟩ = some (.int .u32 (dv : Int)) := by rw [bD.cell]; rfl
  have z0 := k0.size
  have hlt := h.lt
  have HCL := Lib.hid (h.keeps k0 id id id id)
  have HG := Lib.hid (hg.keeps k0 (fun _ _ => id))
  have K0 := Lib.hid k0
  have HW := Lib.hid hw0
  have HF : Hid (∀ b, F b → b < w.heap.size) := Lib.hid hF
  clear h hg k0 hw0 bP bD hF
  go_enter Try.func25, Try.ntmps25
  go_wp2_with fail
  rw [← HW.out]
  refine (within11 d hd w0).mono ?_
  rintro e wx ⟨rfl, rfl⟩
  rw [hk]
  go_wp2_with fail
  refine (flg_set0 L gv w0 ms F HCL.out.flg HG.out (by omega) hL).mono ?_
  rintro e w1 ⟨rfl, g1⟩
  have FC := Lib.hid (fin_flg (y := 1) HCL.out (by omega) g1 hC hB hE)
  clear g1
  go_wp2_with fail
  refine (yes_any true w1).mono ?_
  rintro e w2 ⟨rfl, rfl⟩
  go_wp2
  go_ret2
  exact dpost_of K0.out FC.out.1 FC.out.2.1 (fun _ => id) FC.out.2.2.1 FC.out.2.2.2 HF.out _ _ rfl
set_option maxRecDepth 100000 in
set_option maxHeartbeats 1000000 in
theorem other7_0 (C L B E c x v n : Nat) (d : Int) (dn dm dv : Nat) (gv : Value) (w : World) (ms : List (Nat × Nat)) (F : Nat → Prop) (h : Cl w C L B E c x v n) (hg : Gate w gv ms F) (hl : ms.length < 999999) (hC : ¬ F C) (hL : ¬ F L) (hB : ¬ F B) (hE : ¬ F E) (hF : ∀ b, F b → b < w.heap.size)
    (hd : -9223372036854775808 ≤ d ∧ d < 9223372036854775808) (hk : d % 11 = 7) (hx : x = 0) :
    Calls Try.prog 25 #[.agg #[.pointer (some ⟨C, 0, none⟩), .pointer (some ⟨L, 0, none⟩), .pointer (some ⟨B, 0, none⟩)], gv, .agg #[.int .i64 d, .int .u64 (dn : Int), .int .u64 (dm : Int), .int .u32 (dv : Int)]] w
      fun e w' => DPost C L B c 0 v n gv [0] (ms ++ [(4, 0)]) F w e w' := by
  subst hx
  obtain ⟨k0, bP, bD⟩ := rows_two w #[.pointer (some ⟨C, 0, none⟩), .pointer (some ⟨L, 0, none⟩), .pointer (some ⟨B, 0, none⟩)] #[.int .i64 d, .int .u64 (dn : Int), .int .u64 (dm : Int), .int .u32 (dv : Int)] 31 47
  obtain ⟨w0, hw0⟩ : ∃ w0, w0 = (w.alloc (.cells #[.pointer (some ⟨C, 0, none⟩), .pointer (some ⟨L, 0, none⟩), .pointer (some ⟨B, 0, none⟩)] 31)).alloc (.cells #[.int .i64 d, .int .u64 (dn : Int), .int .u64 (dm : Int), .int .u32 (dv : Int)] 47) := ⟨_, rfl⟩
  rw [← hw0] at k0 bP bD
  have p0 : w0.cell? ⟨w.heap.size, 0, none⟩ = some (.pointer (some ⟨C, 0, none⟩)) := by rw [bP.cell]; rfl
  have p1 : w0.cell? ⟨w.heap.size, 1, none⟩ = some (.pointer (some ⟨L, 0, none⟩)) := by rw [bP.cell]; rfl
  have p2 : w0.cell? ⟨w.heap.size, 2, none⟩ = some (.pointer (some ⟨B, 0, none⟩)) := by rw [bP.cell]; rfl
  have q0 : w0.cell? ⟨w.heap.size + 1, 0, none⟩ = some (.int .i64 d) := by rw [bD.cell]; rfl
  have q1 : w0.cell? ⟨w.heap.size + 1, 1, none⟩ = some (.int .u64 (dn : Int)) := by rw [bD.cell]; rfl
  have q2 : w0.cell? ⟨w.heap.size + 1, 2, none⟩ = some (.int .u64 (dm : Int)) := by rw [bD.cell]; rfl
  have q3 : w0.cell? ⟨w.heap.size + 1, 3, none⟩ = some (.int .u32 (dv : Int)) := by rw [bD.cell]; rfl
  have z0 := k0.size
  have hlt := h.lt
  have HCL := Lib.hid (h.keeps k0 id id id id)
  have HG := Lib.hid (hg.keeps k0 (fun _ _ => id))
  have K0 := Lib.hid k0
  have HW := Lib.hid hw0
  have HF : Hid (∀ b, F b → b < w.heap.size) := Lib.hid hF
  clear h hg k0 hw0 bP bD hF
  go_enter Try.func25, Try.ntmps25
  go_wp2_with fail
  rw [← HW.out]
  refine (within11 d hd w0).mono ?_
  rintro e wx ⟨rfl, rfl⟩
  rw [hk]
  go_wp2_with fail
  refine (flg_clear0 L gv w0 ms F HCL.out.flg HG.out (by omega) hL).mono ?_
  rintro e w1 ⟨rfl, g1⟩
  have FC := Lib.hid (fin_flg (y := 0) HCL.out (by omega) g1 hC hB hE)
  clear g1
  go_wp2_with fail
  refine (yes_any false w1).mono ?_
  rintro e w2 ⟨rfl, rfl⟩
  go_wp2
  go_ret2
  exact dpost_of K0.out FC.out.1 FC.out.2.1 (fun _ => id) FC.out.2.2.1 FC.out.2.2.2 HF.out _ _ rfl
set_option maxRecDepth 100000 in
set_option maxHeartbeats 1000000 in
theorem other5_1 (C L B E c x v n : Nat) (d : Int) (dn dm dv : Nat) (gv : Value) (w : World) (ms : List (Nat × Nat)) (F : Nat → Prop) (h : Cl w C L B E c x v n) (hg : Gate w gv ms F) (hl : ms.length < 999999) (hC : ¬ F C) (hL : ¬ F L) (hB : ¬ F B) (hE : ¬ F E) (hF : ∀ b, F b → b < w.heap.size)
    (hd : -9223372036854775808 ≤ d ∧ d < 9223372036854775808) (hk : d % 11 = 5) (hx : x = 1) :
    Calls Try.prog 25 #[.agg #[.pointer (some ⟨C, 0, none⟩), .pointer (some ⟨L, 0, none⟩), .pointer (some ⟨B, 0, none⟩)], gv, .agg #[.int .i64 d, .int .u64 (dn : Int), .int .u64 (dm : Int), .int .u32 (dv : Int)]] w
      fun e w' => DPost C L B c 1 v n gv [1] (ms ++ [(1, 0)]) F w e w' := by
  subst hx
  obtain ⟨k0, bP, bD⟩ := rows_two w #[.pointer (some ⟨C, 0, none⟩), .pointer (some ⟨L, 0, none⟩), .pointer (some ⟨B, 0, none⟩)] #[.int .i64 d, .int .u64 (dn : Int), .int .u64 (dm : Int), .int .u32 (dv : Int)] 31 47
  obtain ⟨w0, hw0⟩ : ∃ w0, w0 = (w.alloc (.cells #[.pointer (some ⟨C, 0, none⟩), .pointer (some ⟨L, 0, none⟩), .pointer (some ⟨B, 0, none⟩)] 31)).alloc (.cells #[.int .i64 d, .int .u64 (dn : Int), .int .u64 (dm : Int), .int .u32 (dv : Int)] 47) := ⟨_, rfl⟩
  rw [← hw0] at k0 bP bD
  have p0 : w0.cell? ⟨w.heap.size, 0, none⟩ = some (.pointer (some ⟨C, 0, none⟩)) := by rw [bP.cell]; rfl
  have p1 : w0.cell? ⟨w.heap.size, 1, none⟩ = some (.pointer (some ⟨L, 0, none⟩)) := by rw [bP.cell]; rfl
  have p2 : w0.cell? ⟨w.heap.size, 2, none⟩ = some (.pointer (some ⟨B, 0, none⟩)) := by rw [bP.cell]; rfl
  have q0 : w0.cell? ⟨w.heap.size + 1, 0, none⟩ = some (.int .i64 d) := by rw [bD.cell]; rfl
  have q1 : w0.cell? ⟨w.heap.size + 1, 1, none⟩ = some (.int .u64 (dn : Int)) := by rw [bD.cell]; rfl
  have q2 : w0.cell? ⟨w.heap.size + 1, 2, none⟩ = some (.int .u64 (dm : Int)) := by rw [bD.cell]; rfl
  have q3 : w0.cell? ⟨w.heap.size + 1, 3, none⟩ = some (.int .u32 (dv : Int)) := by rw [bD.cell]; rfl
  have z0 := k0.size
  have hlt := h.lt
  have HCL := Lib.hid (h.keeps k0 id id id id)
  have HG := Lib.hid (hg.keeps k0 (fun _ _ => id))
  have K0 := Lib.hid k0
  have HW := Lib.hid hw0
  have HF : Hid (∀ b, F b → b < w.heap.size) := Lib.hid hF
  clear h hg k0 hw0 bP bD hF
  go_enter Try.func25, Try.ntmps25
  go_wp2_with fail
  rw [← HW.out]
  refine (within11 d hd w0).mono ?_
  rintro e wx ⟨rfl, rfl⟩
  rw [hk]
  go_wp2_with fail
  refine (flg_get1 L gv w0 ms F HCL.out.flg HG.out (by omega) hL).mono ?_
  rintro e w1 ⟨rfl, g1⟩
  have FC := Lib.hid (fin_flg (y := 1) HCL.out (by omega) g1 hC hB hE)
  clear g1
  go_wp2_with fail
  refine (yes_any true w1).mono ?_
  rintro e w2 ⟨rfl, rfl⟩
  go_wp2
  go_ret2
  exact dpost_of K0.out FC.out.1 FC.out.2.1 (fun _ => id) FC.out.2.2.1 FC.out.2.2.2 HF.out _ _ rfl
set_option maxRecDepth 100000 in
set_option maxHeartbeats 1000000 in
theorem other6_1 (C L B E c x v n : Nat) (d : Int) (dn dm dv : Nat) (gv : Value) (w : World) (ms : List (Nat × Nat)) (F : Nat → Prop) (h : Cl w C L B E c x v n) (hg : Gate w gv ms F) (hl : ms.length < 999999) (hC : ¬ F C) (hL : ¬ F L) (hB : ¬ F B) (hE : ¬ F E) (hF : ∀ b, F b → b < w.heap.size)
    (hd : -9223372036854775808 ≤ d ∧ d < 9223372036854775808) (hk : d % 11 = 6) (hx : x = 1) :
    Calls Try.prog 25 #[.agg #[.pointer (some ⟨C, 0, none⟩), .pointer (some ⟨L, 0, none⟩), .pointer (some ⟨B, 0, none⟩)], gv, .agg #[.int .i64 d, .int .u64 (dn : Int), .int .u64 (dm : Int), .int .u32 (dv : Int)]] w
      fun e w' => DPost C L B c 1 v n gv [0] (ms ++ [(4, 0)]) F w e w' := by
  subst hx
  obtain ⟨k0, bP, bD⟩ := rows_two w #[.pointer (some ⟨C, 0, none⟩), .pointer (some ⟨L, 0, none⟩), .pointer (some ⟨B, 0, none⟩)] #[.int .i64 d, .int .u64 (dn : Int), .int .u64 (dm : Int), .int .u32 (dv : Int)] 31 47
  obtain ⟨w0, hw0⟩ : ∃ w0, w0 = (w.alloc (.cells #[.pointer (some ⟨C, 0, none⟩), .pointer (some ⟨L, 0, none⟩), .pointer (some ⟨B, 0, none⟩)] 31)).alloc (.cells #[.int .i64 d, .int .u64 (dn : Int), .int .u64 (dm : Int), .int .u32 (dv : Int)] 47) := ⟨_, rfl⟩
  rw [← hw0] at k0 bP bD
  have p0 : w0.cell? ⟨w.heap.size, 0, none⟩ = some (.pointer (some ⟨C, 0, none⟩)) := by rw [bP.cell]; rfl
  have p1 : w0.cell? ⟨w.heap.size, 1, none⟩ = some (.pointer (some ⟨L, 0, none⟩)) := by rw [bP.cell]; rfl
  have p2 : w0.cell? ⟨w.heap.size, 2, none⟩ = some (.pointer (some ⟨B, 0, none⟩)) := by rw [bP.cell]; rfl
  have q0 : w0.cell? ⟨w.heap.size + 1, 0, none⟩ = some (.int .i64 d) := by rw [bD.cell]; rfl
  have q1 : w0.cell? ⟨w.heap.size + 1, 1, none⟩ = some (.int .u64 (dn : Int)) := by rw [bD.cell]; rfl
  have q2 : w0.cell? ⟨w.heap.size + 1, 2, none⟩ = some (.int .u64 (dm : Int)) := by rw [bD.cell]; rfl
  have q3 : w0.cell? ⟨w.heap.size + 1, 3, none⟩ = some (.int .u32 (dv : Int)) := by rw [bD.cell]; rfl
  have z0 := k0.size
  have hlt := h.lt
  have HCL := Lib.hid (h.keeps k0 id id id id)
  have HG := Lib.hid (hg.keeps k0 (fun _ _ => id))
  have K0 := Lib.hid k0
  have HW := Lib.hid hw0
  have HF : Hid (∀ b, F b → b < w.heap.size) := Lib.hid hF
  clear h hg k0 hw0 bP bD hF
  go_enter Try.func25, Try.ntmps25
  go_wp2_with fail
  rw [← HW.out]
  refine (within11 d hd w0).mono ?_
  rintro e wx ⟨rfl, rfl⟩
  rw [hk]
  go_wp2_with fail
  refine (flg_set1 L gv w0 ms F HCL.out.flg HG.out (by omega) hL).mono ?_
  rintro e w1 ⟨rfl, g1⟩
  have FC := Lib.hid (fin_flg (y := 1) HCL.out (by omega) g1 hC hB hE)
  clear g1
  go_wp2_with fail
  refine (yes_any false w1).mono ?_
  rintro e w2 ⟨rfl, rfl⟩
  go_wp2
  go_ret2
  exact dpost_of K0.out FC.out.1 FC.out.2.1 (fun _ => id) FC.out.2.2.1 FC.out.2.2.2 HF.out _ _ rfl
set_option maxRecDepth 100000 in
set_option maxHeartbeats 1000000 in
theorem other7_1 (C L B E c x v n : Nat) (d : Int) (dn dm dv : Nat) (gv : Value) (w : World) (ms : List (Nat × Nat)) (F : Nat → Prop) (h : Cl w C L B E c x v n) (hg : Gate w gv ms F) (hl : ms.length < 999999) (hC : ¬ F C) (hL : ¬ F L) (hB : ¬ F B) (hE : ¬ F E) (hF : ∀ b, F b → b < w.heap.size)
    (hd : -9223372036854775808 ≤ d ∧ d < 9223372036854775808) (hk : d % 11 = 7) (hx : x = 1) :
    Calls Try.prog 25 #[.agg #[.pointer (some ⟨C, 0, none⟩), .pointer (some ⟨L, 0, none⟩), .pointer (some ⟨B, 0, none⟩)], gv, .agg #[.int .i64 d, .int .u64 (dn : Int), .int .u64 (dm : Int), .int .u32 (dv : Int)]] w
      fun e w' => DPost C L B c 0 v n gv [1] (ms ++ [(4, 0)]) F w e w' := by
  subst hx
  obtain ⟨k0, bP, bD⟩ := rows_two w #[.pointer (some ⟨C, 0, none⟩), .pointer (some ⟨L, 0, none⟩), .pointer (some ⟨B, 0, none⟩)] #[.int .i64 d, .int .u64 (dn : Int), .int .u64 (dm : Int), .int .u32 (dv : Int)] 31 47
  obtain ⟨w0, hw0⟩ : ∃ w0, w0 = (w.alloc (.cells #[.pointer (some ⟨C, 0, none⟩), .pointer (some ⟨L, 0, none⟩), .pointer (some ⟨B, 0, none⟩)] 31)).alloc (.cells #[.int .i64 d, .int .u64 (dn : Int), .int .u64 (dm : Int), .int .u32 (dv : Int)] 47) := ⟨_, rfl⟩
  rw [← hw0] at k0 bP bD
  have p0 : w0.cell? ⟨w.heap.size, 0, none⟩ = some (.pointer (some ⟨C, 0, none⟩)) := by rw [bP.cell]; rfl
  have p1 : w0.cell? ⟨w.heap.size, 1, none⟩ = some (.pointer (some ⟨L, 0, none⟩)) := by rw [bP.cell]; rfl
  have p2 : w0.cell? ⟨w.heap.size, 2, none⟩ = some (.pointer (some ⟨B, 0, none⟩)) := by rw [bP.cell]; rfl
  have q0 : w0.cell? ⟨w.heap.size + 1, 0, none⟩ = some (.int .i64 d) := by rw [bD.cell]; rfl
  have q1 : w0.cell? ⟨w.heap.size + 1, 1, none⟩ = some (.int .u64 (dn : Int)) := by rw [bD.cell]; rfl
  have q2 : w0.cell? ⟨w.heap.size + 1, 2, none⟩ = some (.int .u64 (dm : Int)) := by rw [bD.cell]; rfl
  have q3 : w0.cell? ⟨w.heap.size + 1, 3, none⟩ = some (.int .u32 (dv : Int)) := by rw [bD.cell]; rfl
  have z0 := k0.size
  have hlt := h.lt
  have HCL := Lib.hid (h.keeps k0 id id id id)
  have HG := Lib.hid (hg.keeps k0 (fun _ _ => id))
  have K0 := Lib.hid k0
  have HW := Lib.hid hw0
  have HF : Hid (∀ b, F b → b < w.heap.size) := Lib.hid hF
  clear h hg k0 hw0 bP bD hF
  go_enter Try.func25, Try.ntmps25
  go_wp2_with fail
  rw [← HW.out]
  refine (within11 d hd w0).mono ?_
  rintro e wx ⟨rfl, rfl⟩
  rw [hk]
  go_wp2_with fail
  refine (flg_clear1 L gv w0 ms F HCL.out.flg HG.out (by omega) hL).mono ?_
  rintro e w1 ⟨rfl, g1⟩
  have FC := Lib.hid (fin_flg (y := 0) HCL.out (by omega) g1 hC hB hE)
  clear g1
  go_wp2_with fail
  refine (yes_any true w1).mono ?_
  rintro e w2 ⟨rfl, rfl⟩
  go_wp2
  go_ret2
  exact dpost_of K0.out FC.out.1 FC.out.2.1 (fun _ => id) FC.out.2.2.1 FC.out.2.2.2 HF.out _ _ rfl
set_option maxRecDepth 100000 in
set_option maxHeartbeats 1000000 in
theorem other8 (C L B E c x v n : Nat) (d : Int) (dn dm dv : Nat) (gv : Value) (w : World) (ms : List (Nat × Nat)) (F : Nat → Prop) (h : Cl w C L B E c x v n) (hg : Gate w gv ms F) (hl : ms.length < 999999) (hC : ¬ F C) (hL : ¬ F L) (hB : ¬ F B) (hE : ¬ F E) (hF : ∀ b, F b → b < w.heap.size)
    (hd : -9223372036854775808 ≤ d ∧ d < 9223372036854775808) (hk : d % 11 = 8) (hv : v < 4294967296) :
    Calls Try.prog 25 #[.agg #[.pointer (some ⟨C, 0, none⟩), .pointer (some ⟨L, 0, none⟩), .pointer (some ⟨B, 0, none⟩)], gv, .agg #[.int .i64 d, .int .u64 (dn : Int), .int .u64 (dm : Int), .int .u32 (dv : Int)]] w
      fun e w' => DPost C L B c x v n gv [v, n] (ms ++ [(1, 0)]) F w e w' := by
  skip
  obtain ⟨k0, bP, bD⟩ := rows_two w #[.pointer (some ⟨C, 0, none⟩), .pointer (some ⟨L, 0, none⟩), .pointer (some ⟨B, 0, none⟩)] #[.int .i64 d, .int .u64 (dn : Int), .int .u64 (dm : Int), .int .u32 (dv : Int)] 31 47
  obtain ⟨w0, hw0⟩ : ∃ w0, w0 = (w.alloc (.cells #[.pointer (some ⟨C, 0, none⟩), .pointer (some ⟨L, 0, none⟩), .pointer (some ⟨B, 0, none⟩)] 31)).alloc (.cells #[.int .i64 d, .int .u64 (dn : Int), .int .u64 (dm : Int), .int .u32 (dv : Int)] 47) := ⟨_, rfl⟩
  rw [← hw0] at k0 bP bD
  have p0 : w0.cell? ⟨w.heap.size, 0, none⟩ = some (.pointer (some ⟨C, 0, none⟩)) := by rw [bP.cell]; rfl
  have p1 : w0.cell? ⟨w.heap.size, 1, none⟩ = some (.pointer (some ⟨L, 0, none⟩)) := by rw [bP.cell]; rfl
  have p2 : w0.cell? ⟨w.heap.size, 2, none⟩ = some (.pointer (some ⟨B, 0, none⟩)) := by rw [bP.cell]; rfl
  have q0 : w0.cell? ⟨w.heap.size + 1, 0, none⟩ = some (.int .i64 d) := by rw [bD.cell]; rfl
  have q1 : w0.cell? ⟨w.heap.size + 1, 1, none⟩ = some (.int .u64 (dn : Int)) := by rw [bD.cell]; rfl
  have q2 : w0.cell? ⟨w.heap.size + 1, 2, none⟩ = some (.int .u64 (dm : Int)) := by rw [bD.cell]; rfl
  have q3 : w0.cell? ⟨w.heap.size + 1, 3, none⟩ = some (.int .u32 (dv : Int)) := by rw [bD.cell]; rfl
  have z0 := k0.size
  have hlt := h.lt
  have HCL := Lib.hid (h.keeps k0 id id id id)
  have HG := Lib.hid (hg.keeps k0 (fun _ _ => id))
  have K0 := Lib.hid k0
  have HW := Lib.hid hw0
  have HF : Hid (∀ b, F b → b < w.heap.size) := Lib.hid hF
  clear h hg k0 hw0 bP bD hF
  go_enter Try.func25, Try.ntmps25
  go_wp2_with fail
  rw [← HW.out]
  refine (within11 d hd w0).mono ?_
  rintro e wx ⟨rfl, rfl⟩
  rw [hk]
  go_wp2_with fail
  refine (box_get B E v n gv w0 ms F HCL.out.box HG.out (by omega) hB hE).mono ?_
  rintro e w1 ⟨rfl, g1⟩
  obtain ⟨E2, F2, f1, f2, f3, f4, f5⟩ := fin_box HCL.out g1 hC hL
  have FC := Lib.hid f1
  have FG := Lib.hid f2
  have FS := Lib.hid f3
  have FE := Lib.hid f4
  have FK := Lib.hid f5
  clear g1 f1 f2 f3 f4 f5
  go_wp2
  go_ret2
  exact dpost_of K0.out FC.out FG.out FS.out FE.out FK.out HF.out _ _ rfl
set_option maxRecDepth 100000 in
set_option maxHeartbeats 1000000 in
theorem other9 (C L B E c x v n : Nat) (d : Int) (dn dm dv : Nat) (gv : Value) (w : World) (ms : List (Nat × Nat)) (F : Nat → Prop) (h : Cl w C L B E c x v n) (hg : Gate w gv ms F) (hl : ms.length < 999999) (hC : ¬ F C) (hL : ¬ F L) (hB : ¬ F B) (hE : ¬ F E) (hF : ∀ b, F b → b < w.heap.size)
    (hd : -9223372036854775808 ≤ d ∧ d < 9223372036854775808) (hk : d % 11 = 9)  :
    Calls Try.prog 25 #[.agg #[.pointer (some ⟨C, 0, none⟩), .pointer (some ⟨L, 0, none⟩), .pointer (some ⟨B, 0, none⟩)], gv, .agg #[.int .i64 d, .int .u64 (dn : Int), .int .u64 (dm : Int), .int .u32 (dv : Int)]] w
      fun e w' => DPost C L B c x dv ((n + 1) % W64) gv [(n + 1) % W64] (ms ++ [(1, 0)] ++ [(5, 0)]) F w e w' := by
  skip
  obtain ⟨k0, bP, bD⟩ := rows_two w #[.pointer (some ⟨C, 0, none⟩), .pointer (some ⟨L, 0, none⟩), .pointer (some ⟨B, 0, none⟩)] #[.int .i64 d, .int .u64 (dn : Int), .int .u64 (dm : Int), .int .u32 (dv : Int)] 31 47
  obtain ⟨w0, hw0⟩ : ∃ w0, w0 = (w.alloc (.cells #[.pointer (some ⟨C, 0, none⟩), .pointer (some ⟨L, 0, none⟩), .pointer (some ⟨B, 0, none⟩)] 31)).alloc (.cells #[.int .i64 d, .int .u64 (dn : Int), .int .u64 (dm : Int), .int .u32 (dv : Int)] 47) := ⟨_, rfl⟩
  rw [← hw0] at k0 bP bD
  have p0 : w0.cell? ⟨w.heap.size, 0, none⟩ = some (.pointer (some ⟨C, 0, none⟩)) := by rw [bP.cell]; rfl
  have p1 : w0.cell? ⟨w.heap.size, 1, none⟩ = some (.pointer (some ⟨L, 0, none⟩)) := by rw [bP.cell]; rfl
  have p2 : w0.cell? ⟨w.heap.size, 2, none⟩ = some (.pointer (some ⟨B, 0, none⟩)) := by rw [bP.cell]; rfl
  have q0 : w0.cell? ⟨w.heap.size + 1, 0, none⟩ = some (.int .i64 d) := by rw [bD.cell]; rfl
  have q1 : w0.cell? ⟨w.heap.size + 1, 1, none⟩ = some (.int .u64 (dn : Int)) := by rw [bD.cell]; rfl
  have q2 : w0.cell? ⟨w.heap.size + 1, 2, none⟩ = some (.int .u64 (dm : Int)) := by rw [bD.cell]; rfl
  have q3 : w0.cell? ⟨w.heap.size + 1, 3, none⟩ = some (.int .u32 (dv : Int)) := by rw [bD.cell]; rfl
  have z0 := k0.size
  have hlt := h.lt
  have HCL := Lib.hid (h.keeps k0 id id id id)
  have HG := Lib.hid (hg.keeps k0 (fun _ _ => id))
  have K0 := Lib.hid k0
  have HW := Lib.hid hw0
  have HF : Hid (∀ b, F b → b < w.heap.size) := Lib.hid hF
  clear h hg k0 hw0 bP bD hF
  go_enter Try.func25, Try.ntmps25
  go_wp2_with fail
  rw [← HW.out]
  refine (within11 d hd w0).mono ?_
  rintro e wx ⟨rfl, rfl⟩
  rw [hk]
  go_wp2_with fail
  refine (box_put B E v n dv gv w0 ms F HCL.out.box HG.out (by omega) hB hE (fun b hb => by have := HF.out b hb; omega)).mono ?_
  rintro e w1 ⟨rfl, g1⟩
  obtain ⟨E2, F2, f1, f2, f3, f4, f5⟩ := fin_box HCL.out g1 hC hL
  have FC := Lib.hid f1
  have FG := Lib.hid f2
  have FS := Lib.hid f3
  have FE := Lib.hid f4
  have FK := Lib.hid f5
  clear g1 f1 f2 f3 f4 f5
  go_wp2
  go_ret2
  exact dpost_of K0.out FC.out FG.out FS.out FE.out FK.out HF.out _ _ rfl
set_option maxRecDepth 100000 in
set_option maxHeartbeats 1000000 in
theorem other10_yes (C L B E c x v n : Nat) (d : Int) (dn dm dv : Nat) (gv : Value) (w : World) (ms : List (Nat × Nat)) (F : Nat → Prop) (h : Cl w C L B E c x v n) (hg : Gate w gv ms F) (hl : ms.length < 999999) (hC : ¬ F C) (hL : ¬ F L) (hB : ¬ F B) (hE : ¬ F E) (hF : ∀ b, F b → b < w.heap.size)
    (hd : -9223372036854775808 ≤ d ∧ d < 9223372036854775808) (hk : d % 11 = 10) (hx : dn = n) :
    Calls Try.prog 25 #[.agg #[.pointer (some ⟨C, 0, none⟩), .pointer (some ⟨L, 0, none⟩), .pointer (some ⟨B, 0, none⟩)], gv, .agg #[.int .i64 d, .int .u64 (dn : Int), .int .u64 (dm : Int), .int .u32 (dv : Int)]] w
      fun e w' => DPost C L B c x dv ((n + 1) % W64) gv [1] (ms ++ [(1, 0)] ++ [(5, 0)]) F w e w' := by
  subst hx
  obtain ⟨k0, bP, bD⟩ := rows_two w #[.pointer (some ⟨C, 0, none⟩), .pointer (some ⟨L, 0, none⟩), .pointer (some ⟨B, 0, none⟩)] #[.int .i64 d, .int .u64 (dn : Int), .int .u64 (dm : Int), .int .u32 (dv : Int)] 31 47
  obtain ⟨w0, hw0⟩ : ∃ w0, w0 = (w.alloc (.cells #[.pointer (some ⟨C, 0, none⟩), .pointer (some ⟨L, 0, none⟩), .pointer (some ⟨B, 0, none⟩)] 31)).alloc (.cells #[.int .i64 d, .int .u64 (dn : Int), .int .u64 (dm : Int), .int .u32 (dv : Int)] 47) := ⟨_, rfl⟩
  rw [← hw0] at k0 bP bD
  have p0 : w0.cell? ⟨w.heap.size, 0, none⟩ = some (.pointer (some ⟨C, 0, none⟩)) := by rw [bP.cell]; rfl
  have p1 : w0.cell? ⟨w.heap.size, 1, none⟩ = some (.pointer (some ⟨L, 0, none⟩)) := by rw [bP.cell]; rfl
  have p2 : w0.cell? ⟨w.heap.size, 2, none⟩ = some (.pointer (some ⟨B, 0, none⟩)) := by rw [bP.cell]; rfl
  have q0 : w0.cell? ⟨w.heap.size + 1, 0, none⟩ = some (.int .i64 d) := by rw [bD.cell]; rfl
  have q1 : w0.cell? ⟨w.heap.size + 1, 1, none⟩ = some (.int .u64 (dn : Int)) := by rw [bD.cell]; rfl
  have q2 : w0.cell? ⟨w.heap.size + 1, 2, none⟩ = some (.int .u64 (dm : Int)) := by rw [bD.cell]; rfl
  have q3 : w0.cell? ⟨w.heap.size + 1, 3, none⟩ = some (.int .u32 (dv : Int)) := by rw [bD.cell]; rfl
  have z0 := k0.size
  have hlt := h.lt
  have HCL := Lib.hid (h.keeps k0 id id id id)
  have HG := Lib.hid (hg.keeps k0 (fun _ _ => id))
  have K0 := Lib.hid k0
  have HW := Lib.hid hw0
  have HF : Hid (∀ b, F b → b < w.heap.size) := Lib.hid hF
  clear h hg k0 hw0 bP bD hF
  go_enter Try.func25, Try.ntmps25
  go_wp2_with fail
  rw [← HW.out]
  refine (within11 d hd w0).mono ?_
  rintro e wx ⟨rfl, rfl⟩
  rw [hk]
  go_wp2_with fail
  refine (box_try_yes B E v dn dv gv w0 ms F HCL.out.box HG.out (by omega) hB hE (fun b hb => by have := HF.out b hb; omega)).mono ?_
  rintro e w1 ⟨rfl, g1⟩
  obtain ⟨E2, F2, f1, f2, f3, f4, f5⟩ := fin_box HCL.out g1 hC hL
  have FC := Lib.hid f1
  have FG := Lib.hid f2
  have FS := Lib.hid f3
  have FE := Lib.hid f4
  have FK := Lib.hid f5
  clear g1 f1 f2 f3 f4 f5
  go_wp2_with fail
  refine (yes_any true w1).mono ?_
  rintro e w2 ⟨rfl, rfl⟩
  go_wp2
  go_ret2
  exact dpost_of K0.out FC.out FG.out FS.out FE.out FK.out HF.out _ _ rfl
set_option maxRecDepth 100000 in
set_option maxHeartbeats 1000000 in
theorem other10_no (C L B E c x v n : Nat) (d : Int) (dn dm dv : Nat) (gv : Value) (w : World) (ms : List (Nat × Nat)) (F : Nat → Prop) (h : Cl w C L B E c x v n) (hg : Gate w gv ms F) (hl : ms.length < 999999) (hC : ¬ F C) (hL : ¬ F L) (hB : ¬ F B) (hE : ¬ F E) (hF : ∀ b, F b → b < w.heap.size)
    (hd : -9223372036854775808 ≤ d ∧ d < 9223372036854775808) (hk : d % 11 = 10) (hm : ¬ n = dn) :
    Calls Try.prog 25 #[.agg #[.pointer (some ⟨C, 0, none⟩), .pointer (some ⟨L, 0, none⟩), .pointer (some ⟨B, 0, none⟩)], gv, .agg #[.int .i64 d, .int .u64 (dn : Int), .int .u64 (dm : Int), .int .u32 (dv : Int)]] w
      fun e w' => DPost C L B c x v n gv [0] (ms ++ [(1, 0)]) F w e w' := by
  skip
  obtain ⟨k0, bP, bD⟩ := rows_two w #[.pointer (some ⟨C, 0, none⟩), .pointer (some ⟨L, 0, none⟩), .pointer (some ⟨B, 0, none⟩)] #[.int .i64 d, .int .u64 (dn : Int), .int .u64 (dm : Int), .int .u32 (dv : Int)] 31 47
  obtain ⟨w0, hw0⟩ : ∃ w0, w0 = (w.alloc (.cells #[.pointer (some ⟨C, 0, none⟩), .pointer (some ⟨L, 0, none⟩), .pointer (some ⟨B, 0, none⟩)] 31)).alloc (.cells #[.int .i64 d, .int .u64 (dn : Int), .int .u64 (dm : Int), .int .u32 (dv : Int)] 47) := ⟨_, rfl⟩
  rw [← hw0] at k0 bP bD
  have p0 : w0.cell? ⟨w.heap.size, 0, none⟩ = some (.pointer (some ⟨C, 0, none⟩)) := by rw [bP.cell]; rfl
  have p1 : w0.cell? ⟨w.heap.size, 1, none⟩ = some (.pointer (some ⟨L, 0, none⟩)) := by rw [bP.cell]; rfl
  have p2 : w0.cell? ⟨w.heap.size, 2, none⟩ = some (.pointer (some ⟨B, 0, none⟩)) := by rw [bP.cell]; rfl
  have q0 : w0.cell? ⟨w.heap.size + 1, 0, none⟩ = some (.int .i64 d) := by rw [bD.cell]; rfl
  have q1 : w0.cell? ⟨w.heap.size + 1, 1, none⟩ = some (.int .u64 (dn : Int)) := by rw [bD.cell]; rfl
  have q2 : w0.cell? ⟨w.heap.size + 1, 2, none⟩ = some (.int .u64 (dm : Int)) := by rw [bD.cell]; rfl
  have q3 : w0.cell? ⟨w.heap.size + 1, 3, none⟩ = some (.int .u32 (dv : Int)) := by rw [bD.cell]; rfl
  have z0 := k0.size
  have hlt := h.lt
  have HCL := Lib.hid (h.keeps k0 id id id id)
  have HG := Lib.hid (hg.keeps k0 (fun _ _ => id))
  have K0 := Lib.hid k0
  have HW := Lib.hid hw0
  have HF : Hid (∀ b, F b → b < w.heap.size) := Lib.hid hF
  clear h hg k0 hw0 bP bD hF
  go_enter Try.func25, Try.ntmps25
  go_wp2_with fail
  rw [← HW.out]
  refine (within11 d hd w0).mono ?_
  rintro e wx ⟨rfl, rfl⟩
  rw [hk]
  go_wp2_with fail
  refine (box_try_no B E v n dn dv gv w0 ms F HCL.out.box HG.out (by omega) hB hE hm).mono ?_
  rintro e w1 ⟨rfl, g1⟩
  obtain ⟨E2, F2, f1, f2, f3, f4, f5⟩ := fin_box HCL.out g1 hC hL
  have FC := Lib.hid f1
  have FG := Lib.hid f2
  have FS := Lib.hid f3
  have FE := Lib.hid f4
  have FK := Lib.hid f5
  clear g1 f1 f2 f3 f4 f5
  go_wp2_with fail
  refine (yes_any false w1).mono ?_
  rintro e w2 ⟨rfl, rfl⟩
  go_wp2
  go_ret2
  exact dpost_of K0.out FC.out FG.out FS.out FE.out FK.out HF.out _ _ rfl
end Go.Proofs.Ytakpfkfhbeobeaa.ce
set_option linter.unusedVariables false
namespace Go.Proofs.Ytakpfkfhbeobeaa.ce
open Go.RowKit Go.Proofs.Ytakpfkfhbeobeaa.oc Go.Proofs.Ytakpfkfhbeobeaa.mz
theorem dpost_lift {C L B c x v n : Nat} {gv : Value} {told : List Nat} {ms : List (Nat × Nat)} {F : Nat → Prop} {w w0 w' : World} {e : Ending} (k0 : Keeps (fun _ => False) w w0) (h : DPost C L B c x v n gv told ms F w0 e w') : DPost C L B c x v n gv told ms F w e w' := by
  have z0 := k0.size
  obtain ⟨⟨A, a1, a2, a3⟩, ⟨E, F', b1, b2, b3, b4⟩, h3⟩ := h
  refine ⟨⟨A, a1, a2, by omega⟩, ⟨E, F', b1, b2, fun b hb => ?_, b4⟩, (k0.mono fun _ _ z => z.elim).trans h3⟩
  rcases b3 b hb with q | q
  · exact .inl q
  · exact .inr ⟨by omega, q.2⟩
set_option maxRecDepth 100000 in
set_option maxHeartbeats 1000000 in
theorem done_rest (C L B E c x v n c' x' v' n' : Nat) (d : Int) (dn dm dv : Nat) (gv : Value) (w : World) (told : List Nat) (ms ms' : List (Nat × Nat)) (F : Nat → Prop) (h : Cl w C L B E c x v n) (hg : Gate w gv ms F) (hl : ms.length < 999999) (hC : ¬ F C) (hL : ¬ F L) (hB : ¬ F B) (hE : ¬ F E) (hF : ∀ b, F b → b < w.heap.size)
    (hd : -9223372036854775808 ≤ d ∧ d < 9223372036854775808) (hk : 5 ≤ d % 11)
    (ho : ∀ w0, Cl w0 C L B E c x v n → Gate w0 gv ms F → (∀ b, F b → b < w0.heap.size) → Calls Try.prog 25 #[.agg #[.pointer (some ⟨C, 0, none⟩), .pointer (some ⟨L, 0, none⟩), .pointer (some ⟨B, 0, none⟩)], gv, .agg #[.int .i64 d, .int .u64 (dn : Int), .int .u64 (dm : Int), .int .u32 (dv : Int)]] w0 fun e w' => DPost C L B c' x' v' n' gv told ms' F w0 e w') :
    Calls Try.prog 8 #[.agg #[.pointer (some ⟨C, 0, none⟩), .pointer (some ⟨L, 0, none⟩), .pointer (some ⟨B, 0, none⟩)], gv, .agg #[.int .i64 d, .int .u64 (dn : Int), .int .u64 (dm : Int), .int .u32 (dv : Int)]] w
      fun e w' => DPost C L B c' x' v' n' gv told ms' F w e w' := by
  obtain ⟨k0, bP, bD⟩ := rows_two w #[.pointer (some ⟨C, 0, none⟩), .pointer (some ⟨L, 0, none⟩), .pointer (some ⟨B, 0, none⟩)] #[.int .i64 d, .int .u64 (dn : Int), .int .u64 (dm : Int), .int .u32 (dv : Int)] 31 47
  obtain ⟨w0, hw0⟩ : ∃ w0, w0 = (w.alloc (.cells #[.pointer (some ⟨C, 0, none⟩), .pointer (some ⟨L, 0, none⟩), .pointer (some ⟨B, 0, none⟩)] 31)).alloc (.cells #[.int .i64 d, .int .u64 (dn : Int), .int .u64 (dm : Int), .int .u32 (dv : Int)] 47) := ⟨_, rfl⟩
  rw [← hw0] at k0 bP bD
  have p0 : w0.cell? ⟨w.heap.size, 0, none⟩ = some (.pointer (some ⟨C, 0, none⟩)) := by rw [bP.cell]; rfl
  have p1 : w0.cell? ⟨w.heap.size, 1, none⟩ = some (.pointer (some ⟨L, 0, none⟩)) := by rw [bP.cell]; rfl
  have p2 : w0.cell? ⟨w.heap.size, 2, none⟩ = some (.pointer (some ⟨B, 0, none⟩)) := by rw [bP.cell]; rfl
  have q0 : w0.cell? ⟨w.heap.size + 1, 0, none⟩ = some (.int .i64 d) := by rw [bD.cell]; rfl
  have q1 : w0.cell? ⟨w.heap.size + 1, 1, none⟩ = some (.int .u64 (dn : Int)) := by rw [bD.cell]; rfl
  have q2 : w0.cell? ⟨w.heap.size + 1, 2, none⟩ = some (.int .u64 (dm : Int)) := by rw [bD.cell]; rfl
  have q3 : w0.cell? ⟨w.heap.size + 1, 3, none⟩ = some (.int .u32 (dv : Int)) := by rw [bD.cell]; rfl
  have z0 := k0.size
  have hlt := h.lt
  have HCL := Lib.hid (h.keeps k0 id id id id)
  have HG := Lib.hid (hg.keeps k0 (fun _ _ => id))
  have K0 := Lib.hid k0
  have HW := Lib.hid hw0
  have HF : Hid (∀ b, F b → b < w.heap.size) := Lib.hid hF
  clear h hg k0 hw0 bP bD hF
  go_enter Try.func8, Try.ntmps8
  go_wp2_with fail
  rw [← HW.out]
  refine (within11 d hd w0).mono ?_
  rintro e wx ⟨rfl, rfl⟩
  have e0 : ¬ d % 11 = 0 := by omega
  have e1 : ¬ d % 11 = 1 := by omega
  have e2 : ¬ d % 11 = 2 := by omega
  have e3 : ¬ d % 11 = 3 := by omega
  have e4 : ¬ d % 11 = 4 := by omega
  generalize d % 11 = k at *
  go_wp2_with fail
  refine (ho w0 HCL.out HG.out (fun b hb => by have := HF.out b hb; omega)).mono ?_
  rintro e w1 ⟨⟨A, rfl, a2, a3⟩, g2, g3⟩
  have G := Lib.hid (dpost_lift K0.out ⟨⟨A, rfl, a2, a3⟩, g2, g3⟩)
  clear a2 a3 g2 g3
  go_wp2
  go_ret2
  exact G.out
end Go.Proofs.Ytakpfkfhbeobeaa.ce
