/-
  Tell: what is told is laid behind what there is.
-/
import Derived.Test.YtebjmmckejbklaaMzB
import Derived.Test.YtebjmmckejbklaaOcApp
import Derived.Test.YtebjmmckejbklaaProg
import Derived.WalkLawsBesides
import Derived.BigRegion
import Derived.BigQuiet
import Derived.Deep.QuietTactic
import Derived.Deep.RegionHeld3
import Derived.Deep.RegionLaw
import Derived.Outline
import Derived.Lib.Hide
namespace Go.Proofs.Ytebjmmckejbklaa.mz
open Go.RowKit Go.Proofs.Ytebjmmckejbklaa.oc
/-- what a Tell leaves: the told list, one number longer -/
def Told (base : Nat) (w w' : World) (g A k : Nat) (ht : TypeId) (cs : List Value) (v : Value) (ts : List Nat) (x : Nat) (s : Ts) : Prop :=
  ∃ v', Thr w' g s ∧ Blk w' A ht (cs.set k v') ∧ w'.ownsRow base 38 1 v' (ts.length + 1) (u64s (ts ++ [x])) ∧ (v'.ownBlock = v.ownBlock ∨ ∃ j, v'.ownBlock = some j ∧ w.heap.size ≤ j) ∧
    Keeps (fun b => b = A ∨ v.ownBlock = some b) w w'
theorem told_of {base : Nat} {w w2 w3 : World} {g A k : Nat} {ht : TypeId} {cs : List Value} {v v' : Value} {ts : List Nat} {x : Nat} {s : Ts} {o : Obj} (hk' : ∀ S, Keeps S w w2) (hT : Thr w2 g s) (hA : Blk w2 A ht cs) (hAg : A ≠ g) (hne : ∀ k, v.ownBlock = some k → k ≠ g ∧ k ≠ A)
    (hg : ((w2.alloc o).drew).grownBy w3 v.ownBlock) (hown : w3.ownsRow base 38 1 v' (ts.length + 1) (u64s ts ++ u64s [x])) (hat : v'.ownBlock = v.ownBlock ∨ v'.ownBlock = some ((w2.alloc o).drew).heap.size) (hAl : A < w2.heap.size) :
    Told base w (w3.setCell ⟨A, k, none⟩ v') g A k ht cs v ts x s := by
  have hsz : ((w2.alloc o).drew).heap.size = w2.heap.size + 1 := by show (w2.heap.push _).size = _; simp
  have hA3 : Blk w3 A ht cs := Blk.grown ((hA.alloc o).drew) hg (fun e => (hne _ e.symm).2 rfl)
  have hT3 : Thr w3 g s := ⟨Blk.grown ((hT.blk.alloc o).drew) hg (fun e => (hne _ e.symm).1 rfl), hT.len, hT.small⟩
  have hv' : v'.ownBlock ≠ some A := fun e => by
    rcases hat with h | h
    · rw [h] at e; exact (hne _ e).2 rfl
    · rw [h] at e; injection e with e; omega
  refine ⟨v', ⟨hT3.blk.far (fun e => hAg e.symm) v', hT3.len, hT3.small⟩, hA3.put k v', ?_, ?_, ?_⟩
  · have h := hown.kept (grown_set w3 ⟨A, k, none⟩ v') (.inr hv')
    rw [show u64s (ts ++ [x]) = u64s ts ++ u64s [x] from by simp [u64s]]
    exact h
  · rcases hat with h | h
    · exact .inl h
    · exact .inr ⟨_, h, by have := (hk' (fun _ => False)).size; omega⟩
  · have k1 : Keeps (fun b => b = A ∨ v.ownBlock = some b) w ((w2.alloc o).drew) := ((hk' _).alloc o).drew
    have k2 : Keeps (fun b => b = A ∨ v.ownBlock = some b) ((w2.alloc o).drew) w3 := ⟨hg.size, fun b hb hs => hg.block b hb (fun e => hs (.inr e.symm)), ⟨hg.os, hg.tape, hg.output⟩⟩
    exact (k1.trans k2).setCell (p := ⟨A, k, none⟩) (.inl (.inl rfl)) _
theorem u64_info : (Try.prog.info? 38).map (fun i => (i.zero, i.size, i.bytes)) = some (some (.int .u64 0), 1, 8) := by kernel_rfl
set_option maxRecDepth 100000 in
set_option maxHeartbeats 400000 in
theorem turn22 (g on a b c d n A m cap : Nat) (P : Option Addr) (w : World) (s : Ts) (h : Thr w g s) (ha : a < 24) (hans : s.ans = .slice (some ⟨A, 0, none⟩) m cap) (hm : s.call < m)
    (v : Value) (ts : List Nat) (cs : List Value) (ht : TypeId) (hA : Blk w A ht cs) (hAg : A ≠ g) (hv : cs[s.call * 2 + 1]? = some v) (base : Nat) (hbase : base ≤ w.heap.size) (how : w.ownsRow base 38 1 v ts.length (u64s ts)) (hts : ts.length < 1000000) (hne : ∀ k, v.ownBlock = some k → k ≠ g ∧ k ≠ A) :
    Calls Try.prog 56 #[.pointer (some ⟨g, 0, none⟩), .pointer P, .agg #[.int .i64 22, .int .i64 on, .int .i64 a, .int .i64 b, .int .i64 c, .int .i64 d, .int .u64 n]] w fun e w' =>
      e = .returned (.tuple #[]) ∧ Told base w w' g A (s.call * 2 + 1) ht cs v ts (reg s.rs a) s := by
  have hs := h.small
  have hlt := h.blk.lt
  obtain ⟨w1, hw1, k1, c1⟩ := enter_box w #[.int .i64 22, .int .i64 on, .int .i64 a, .int .i64 b, .int .i64 c, .int .i64 d, .int .u64 n] 119
  have h1 : Thr w1 g s := h.keeps (k1 (fun _ => False)) (fun x => x)
  have a1 : Blk w1 A ht cs := Blk.keeps hA (k1 (fun _ => False)) (fun x => x)
  have e0 : w1.cell? ⟨w.heap.size, 0, none⟩ = some (.int .i64 22) := c1 0
  have e2 : w1.cell? ⟨w.heap.size, 2, none⟩ = some (.int .i64 a) := c1 2
  have hra : w1.cell? ⟨g, 3 + a, none⟩ = some (.int .u64 (reg s.rs a : Int)) := h1.reg ha
  have q1 : w1.cell? ⟨g, 1, none⟩ = some (.int .i64 (s.call : Int)) := h1.call
  have q27 : w1.cell? ⟨g, 27, none⟩ = some (.slice (some ⟨A, 0, none⟩) m cap) := by rw [← hans]; exact h1.ans
  have qv : w1.cell? ⟨A, s.call * 2 + 1, none⟩ = some v := by rw [a1.cell]; exact hv
  have fv : w1.frozen? ⟨A, s.call * 2 + 1, none⟩ = false := a1.frozen _
  obtain ⟨i0, hi0, hz0, hz1, hz2⟩ := info_parts u64_info
  have how1 : w1.ownsRow base 38 1 v ts.length (u64s ts) := by rw [hw1]; exact how.alloc _
  have hsz : w.heap.size + 1 = w1.heap.size := by rw [hw1]; show _ = (w.heap.push _).size; simp
  have hbase1 : base ≤ w1.heap.size := by omega
  have hnw : v.ownBlock ≠ some w.heap.size := fun e => by have := (how.lt _ e).2; omega
  have HW := Lib.hid hw1
  have H1 := Lib.hid h1
  have A1 := Lib.hid a1
  have K1 := Lib.hid k1
  have HS := Lib.hid hs
  have HA := Lib.hid hans
  have HB := Lib.hid hA
  have HV := Lib.hid hv
  clear hw1 h1 k1 c1 h hs hans a1 hA hv
  go_enter Try.func56, Try.ntmps56
  go_wp2
  rw [← HW.out]
  clear HW
  go_region
  go_wp2
  have e2' : w1.drew.cell? ⟨w.heap.size, 2, none⟩ = some (.int .i64 a) := e2
  have hra' : w1.drew.cell? ⟨g, 3 + a, none⟩ = some (.int .u64 (reg s.rs a : Int)) := hra
  have qv' : w1.drew.cell? ⟨A, s.call * 2 + 1, none⟩ = some v := qv
  have fv' : w1.drew.frozen? ⟨A, s.call * 2 + 1, none⟩ = false := fv
  have how' : w1.drew.ownsRow base 38 1 v ts.length (u64s ts) := how1.drew
  have hb' : base ≤ w1.drew.heap.size := hbase1
  have hsz' : w.heap.size + 1 = w1.drew.heap.size := hsz
  have K2 := Lib.hid (fun S => (K1.out S).drew)
  have H2 := Lib.hid H1.out.drew
  have A2 := Lib.hid A1.out.drew
  clear e2 hra qv fv how1 hbase1 hsz e0 q1 q27 K1 H1 A1
  generalize w1.drew = w2 at *
  clear w1
  have hAl : A < w2.heap.size := A2.out.lt
  have hgl : g < w2.heap.size := H2.out.blk.lt
  have hx : reg s.rs a < 18446744073709551616 := reg_lt HS.out a
  have ha0 : (0 : Int) ≤ (a : Int) := by omega
  have ha1 : (a : Int) < 24 := by omega
  have hal : ∀ o, (w2.alloc o).drew.cell? ⟨w.heap.size, 2, none⟩ = some (.int .i64 a) ∧ (w2.alloc o).drew.cell? ⟨g, 3 + a, none⟩ = some (.int .u64 (reg s.rs a : Int)) ∧ (w2.alloc o).drew.cell? ⟨A, s.call * 2 + 1, none⟩ = some v := fun o =>
    ⟨(World.cell?_alloc_lt w2 o ⟨w.heap.size, 2, none⟩ (by show w.heap.size < _; omega)).trans e2', (World.cell?_alloc_lt w2 o ⟨g, 3 + a, none⟩ hgl).trans hra', (World.cell?_alloc_lt w2 o ⟨A, s.call * 2 + 1, none⟩ hAl).trans qv'⟩
  have hlit : Rd ((w2.alloc (.cells #[.int .u64 (reg s.rs a : Int)] 38)).drew) (w2.heap.size + 1) (some ⟨w2.heap.size, 0, none⟩) (u64s [reg s.rs a]) := (Blk.new w2 38 #[.int .u64 (reg s.rs a : Int)]).rd.drew
  have hkeep : ∀ o w3, ((w2.alloc o).drew).grownBy w3 v.ownBlock → w3.cell? ⟨w.heap.size, 2, none⟩ = some (.int .i64 a) ∧ w3.cell? ⟨g, 3 + a, none⟩ = some (.int .u64 (reg s.rs a : Int)) ∧ w3.cell? ⟨A, s.call * 2 + 1, none⟩ = some v := fun o w3 hg =>
    ⟨hg.cell (hal o).1 (fun e => hnw e.symm), hg.cell (hal o).2.1 (fun e => (hne _ e.symm).1 rfl), hg.cell (hal o).2.2 (fun e => (hne _ e.symm).2 rfl)⟩
  have hfk : ∀ o w3, ((w2.alloc o).drew).grownBy w3 v.ownBlock → w3.frozen? ⟨A, s.call * 2 + 1, none⟩ = false := fun o w3 hg =>
    (Blk.grown ((A2.out.alloc o).drew) hg (fun e => (hne _ e.symm).2 rfl)).frozen _
  obtain ⟨e2a, hraa, qva⟩ := hal (.cells #[.int .u64 (reg s.rs a : Int)] 38)
  go_region_law (refine step_app rfl _ _ 36 rfl base 38 i0 _ 8 Try.underlying36 hi0 hz0 hz1 hz2 rfl v ts.length (u64s ts) rfl (how'.alloc _).drew (w2.heap.size + 1) (some ⟨w2.heap.size, 0, none⟩) 1 1 (u64s [reg s.rs a]) rfl hlit rfl (u64_one _) (by omega) (by omega) (by simp; omega) ?_; intro v2 w3 hown2 hg2 hat2; obtain ⟨y1, y2, y3⟩ := hkeep _ _ hg2; have y4 := hfk _ _ hg2; obtain ⟨g2, cap2, rfl, hg20, hg21⟩ := hown2.form (Nat.succ_pos _))
  all_goals go_wp2
  all_goals go_end0
  all_goals exact ⟨rfl, told_of K2.out H2.out A2.out hAg hne hg2 hown2 hat2 hAl⟩
end Go.Proofs.Ytebjmmckejbklaa.mz
