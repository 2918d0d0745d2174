/-
  Tell: what is told is laid behind what there is. The thread's own instructions that are jumps, or Tell: own hands them on. own, whatever the instruction.
-/
import Derived.Test.YtgenblefbddilaaMzB
import Derived.Test.YtgenblefbddilaaOcApp
import Derived.Test.YtgenblefbddilaaProg
import Derived.WalkLawsBesides
import Derived.BigRegion
import Derived.BigQuiet
import Derived.Deep.QuietTactic
import Derived.Deep.RegionHeld3
import Derived.Deep.RegionLaw
import Derived.Outline
import Derived.Lib.Hide
import Derived.Test.YtgenblefbddilaaMzTurn
import Derived.Laws.Rows
import Derived.Test.YtgenblefbddilaaMzT
import Derived.Test.YtgenblefbddilaaMzOwn
namespace Go.Proofs.Ytgenblefbddilaa.mz
open Go.RowKit Go.Proofs.Ytgenblefbddilaa.oc
/-- what a Tell leaves: the told list, one number longer -/
def Told (base : Nat) (w w' : World) (g A k : Nat) (ht : TypeId) (cs : List Value) (v : Value) (ts : List Nat) (x : Nat) (s : Ts) : Prop :=
  ∃ v', Thr w' g s ∧ Blk w' A ht (cs.set k v') ∧ w'.ownsRow base 22 1 v' (ts.length + 1) (u64s (ts ++ [x])) ∧ (v'.ownBlock = v.ownBlock ∨ ∃ j, v'.ownBlock = some j ∧ w.heap.size ≤ j) ∧
    Keeps (fun b => b = A ∨ v.ownBlock = some b) w w'
theorem told_of {base : Nat} {w w2 w3 : World} {g A k : Nat} {ht : TypeId} {cs : List Value} {v v' : Value} {ts : List Nat} {x : Nat} {s : Ts} {o : Obj} (hk' : ∀ S, Keeps S w w2) (hT : Thr w2 g s) (hA : Blk w2 A ht cs) (hAg : A ≠ g) (hne : ∀ k, v.ownBlock = some k → k ≠ g ∧ k ≠ A)
    (hg : ((w2.alloc o).drew).grownBy w3 v.ownBlock) (hown : w3.ownsRow base 22 1 v' (ts.length + 1) (u64s ts ++ u64s [x])) (hat : v'.ownBlock = v.ownBlock ∨ v'.ownBlock = some ((w2.alloc o).drew).heap.size) (hAl : A < w2.heap.size) :
    Told base w (w3.setCell ⟨A, k, none⟩ v') g A k ht cs v ts x s := by
  have hsz : ((w2.alloc o).drew).heap.size = w2.heap.size + 1 := by show (w2.heap.push _).size = _; simp
  have hA3 : Blk w3 A ht cs := Blk.grown ((hA.alloc o).drew) hg (fun e => (hne _ e.symm).2 rfl)
  have hT3 : Thr w3 g s := ⟨Blk.grown ((hT.blk.alloc o).drew) hg (fun e => (hne _ e.symm).1 rfl), hT.len, hT.small⟩
  have hv' : v'.ownBlock ≠ some A := fun e => by
    rcases hat with h | h
    · rw [h] at e; exact (hne _ e).2 rfl
    · rw [h] at e; injection e with e; omega
  refine ⟨v', ⟨hT3.blk.far (fun e => hAg e.symm) v', hT3.len, hT3.small⟩, hA3.put k v', ?_, ?_, ?_⟩
  · have h := hown.kept (grown_set w3 ⟨A, k, none⟩ v') (.inr hv')
    rw [show u64s (ts ++ [x]) = u64s ts ++ u64s [x] from by simp [u64s]]
    exact h
  · rcases hat with h | h
    · exact .inl h
    · exact .inr ⟨_, h, by have := (hk' (fun _ => False)).size; omega⟩
  · have k1 : Keeps (fun b => b = A ∨ v.ownBlock = some b) w ((w2.alloc o).drew) := ((hk' _).alloc o).drew
    have k2 : Keeps (fun b => b = A ∨ v.ownBlock = some b) ((w2.alloc o).drew) w3 := ⟨hg.size, fun b hb hs => hg.block b hb (fun e => hs (.inr e.symm)), ⟨hg.os, hg.tape, hg.output⟩⟩
    exact (k1.trans k2).setCell (p := ⟨A, k, none⟩) (.inl (.inl rfl)) _
theorem u64_info : (Try.prog.info? 22).map (fun i => (i.zero, i.size, i.bytes)) = some (some (.int .u64 0), 1, 8) := by kernel_rfl
set_option maxRecDepth 100000 in
set_option maxHeartbeats 400000 in
theorem turn22 (g on a b c d n A m cap : Nat) (P : Option Addr) (w : World) (s : Ts) (h : Thr w g s) (ha : a < 24) (hans : s.ans = .slice (some ⟨A, 0, none⟩) m cap) (hm : s.call < m)
    (v : Value) (ts : List Nat) (cs : List Value) (ht : TypeId) (hA : Blk w A ht cs) (hAg : A ≠ g) (hv : cs[s.call * 2 + 1]? = some v) (base : Nat) (hbase : base ≤ w.heap.size) (how : w.ownsRow base 22 1 v ts.length (u64s ts)) (hts : ts.length < 1000000) (hne : ∀ k, v.ownBlock = some k → k ≠ g ∧ k ≠ A) :
    Calls Try.prog 56 #[.pointer (some ⟨g, 0, none⟩), .pointer P, .agg #[.int .i64 22, .int .i64 on, .int .i64 a, .int .i64 b, .int .i64 c, .int .i64 d, .int .u64 n]] w fun e w' =>
      e = .returned (.tuple #[]) ∧ Told base w w' g A (s.call * 2 + 1) ht cs v ts (reg s.rs a) s := by
  have hs := h.small
  have hlt := h.blk.lt
  obtain ⟨w1, hw1, k1, c1⟩ := enter_box w #[.int .i64 22, .int .i64 on, .int .i64 a, .int .i64 b, .int .i64 c, .int .i64 d, .int .u64 n] 114
  have h1 : Thr w1 g s := h.keeps (k1 (fun _ => False)) (fun x => x)
  have a1 : Blk w1 A ht cs := Blk.keeps hA (k1 (fun _ => False)) (fun x => x)
  have e0 : w1.cell? ⟨w.heap.size, 0, none⟩ = some (.int .i64 22) := c1 0
  have e2 : w1.cell? ⟨w.heap.size, 2, none⟩ = some (.int .i64 a) := c1 2
  have hra : w1.cell? ⟨g, 3 + a, none⟩ = some (.int .u64 (reg s.rs a : Int)) := h1.reg ha
  have q1 : w1.cell? ⟨g, 1, none⟩ = some (.int .i64 (s.call : Int)) := h1.call
  have q27 : w1.cell? ⟨g, 27, none⟩ = some (.slice (some ⟨A, 0, none⟩) m cap) := by rw [← hans]; exact h1.ans
  have qv : w1.cell? ⟨A, s.call * 2 + 1, none⟩ = some v := by rw [a1.cell]; exact hv
  have fv : w1.frozen? ⟨A, s.call * 2 + 1, none⟩ = false := a1.frozen _
  obtain ⟨i0, hi0, hz0, hz1, hz2⟩ := info_parts u64_info
  have how1 : w1.ownsRow base 22 1 v ts.length (u64s ts) := by rw [hw1]; exact how.alloc _
  have hsz : w.heap.size + 1 = w1.heap.size := by rw [hw1]; show _ = (w.heap.push _).size; simp
  have hbase1 : base ≤ w1.heap.size := by omega
  have hnw : v.ownBlock ≠ some w.heap.size := fun e => by have := (how.lt _ e).2; omega
  have HW := Lib.hid hw1
  have H1 := Lib.hid h1
  have A1 := Lib.hid a1
  have K1 := Lib.hid k1
  have HS := Lib.hid hs
  have HA := Lib.hid hans
  have HB := Lib.hid hA
  have HV := Lib.hid hv
  clear hw1 h1 k1 c1 h hs hans a1 hA hv
  go_enter Try.func56, Try.ntmps56
  go_wp2
  rw [← HW.out]
  clear HW
  go_region
  go_wp2
  have e2' : w1.drew.cell? ⟨w.heap.size, 2, none⟩ = some (.int .i64 a) := e2
  have hra' : w1.drew.cell? ⟨g, 3 + a, none⟩ = some (.int .u64 (reg s.rs a : Int)) := hra
  have qv' : w1.drew.cell? ⟨A, s.call * 2 + 1, none⟩ = some v := qv
  have fv' : w1.drew.frozen? ⟨A, s.call * 2 + 1, none⟩ = false := fv
  have how' : w1.drew.ownsRow base 22 1 v ts.length (u64s ts) := how1.drew
  have hb' : base ≤ w1.drew.heap.size := hbase1
  have hsz' : w.heap.size + 1 = w1.drew.heap.size := hsz
  have K2 := Lib.hid (fun S => (K1.out S).drew)
  have H2 := Lib.hid H1.out.drew
  have A2 := Lib.hid A1.out.drew
  clear e2 hra qv fv how1 hbase1 hsz e0 q1 q27 K1 H1 A1
  generalize w1.drew = w2 at *
  clear w1
  have hAl : A < w2.heap.size := A2.out.lt
  have hgl : g < w2.heap.size := H2.out.blk.lt
  have hx : reg s.rs a < 18446744073709551616 := reg_lt HS.out a
  have ha0 : (0 : Int) ≤ (a : Int) := by omega
  have ha1 : (a : Int) < 24 := by omega
  have hal : ∀ o, (w2.alloc o).drew.cell? ⟨w.heap.size, 2, none⟩ = some (.int .i64 a) ∧ (w2.alloc o).drew.cell? ⟨g, 3 + a, none⟩ = some (.int .u64 (reg s.rs a : Int)) ∧ (w2.alloc o).drew.cell? ⟨A, s.call * 2 + 1, none⟩ = some v := fun o =>
    ⟨(World.cell?_alloc_lt w2 o ⟨w.heap.size, 2, none⟩ (by show w.heap.size < _; omega)).trans e2', (World.cell?_alloc_lt w2 o ⟨g, 3 + a, none⟩ hgl).trans hra', (World.cell?_alloc_lt w2 o ⟨A, s.call * 2 + 1, none⟩ hAl).trans qv'⟩
  have hlit : Rd ((w2.alloc (.cells #[.int .u64 (reg s.rs a : Int)] 22)).drew) (w2.heap.size + 1) (some ⟨w2.heap.size, 0, none⟩) (u64s [reg s.rs a]) := (Blk.new w2 22 #[.int .u64 (reg s.rs a : Int)]).rd.drew
  have hkeep : ∀ o w3, ((w2.alloc o).drew).grownBy w3 v.ownBlock → w3.cell? ⟨w.heap.size, 2, none⟩ = some (.int .i64 a) ∧ w3.cell? ⟨g, 3 + a, none⟩ = some (.int .u64 (reg s.rs a : Int)) ∧ w3.cell? ⟨A, s.call * 2 + 1, none⟩ = some v := fun o w3 hg =>
    ⟨hg.cell (hal o).1 (fun e => hnw e.symm), hg.cell (hal o).2.1 (fun e => (hne _ e.symm).1 rfl), hg.cell (hal o).2.2 (fun e => (hne _ e.symm).2 rfl)⟩
  have hfk : ∀ o w3, ((w2.alloc o).drew).grownBy w3 v.ownBlock → w3.frozen? ⟨A, s.call * 2 + 1, none⟩ = false := fun o w3 hg =>
    (Blk.grown ((A2.out.alloc o).drew) hg (fun e => (hne _ e.symm).2 rfl)).frozen _
  obtain ⟨e2a, hraa, qva⟩ := hal (.cells #[.int .u64 (reg s.rs a : Int)] 22)
  go_region_law (refine step_app rfl _ _ 40 rfl base 22 i0 _ 8 Try.underlying40 hi0 hz0 hz1 hz2 rfl v ts.length (u64s ts) rfl (how'.alloc _).drew (w2.heap.size + 1) (some ⟨w2.heap.size, 0, none⟩) 1 1 (u64s [reg s.rs a]) rfl hlit rfl (u64_one _) (by omega) (by omega) (by simp; omega) ?_; intro v2 w3 hown2 hg2 hat2; obtain ⟨y1, y2, y3⟩ := hkeep _ _ hg2; have y4 := hfk _ _ hg2; obtain ⟨g2, cap2, rfl, hg20, hg21⟩ := hown2.form (Nat.succ_pos _))
  all_goals go_wp2
  all_goals go_end0
  all_goals exact ⟨rfl, told_of K2.out H2.out A2.out hAg hne hg2 hown2 hat2 hAl⟩
end Go.Proofs.Ytgenblefbddilaa.mz
namespace Go.Proofs.Ytgenblefbddilaa.mz
open Go.RowKit Go.Proofs.Ytgenblefbddilaa.oc
set_option maxRecDepth 100000 in
set_option maxHeartbeats 400000 in
theorem ownT (k : Int) (hk : k = 18 ∨ k = 19 ∨ k = 20 ∨ k = 21 ∨ k = 22) (g on a b c d n : Nat) (P : Option Addr) (w : World) (s : Ts) (h : Thr w g s) (hat : s.at_ < 1000000) (Q : Ending → World → Prop)
    (H : ∀ w1, Thr w1 g { s with at_ := s.at_ + 1 } → Keeps (· = g) w w1 → Calls Try.prog 56 #[.pointer (some ⟨g, 0, none⟩), .pointer P, .agg #[.int .i64 k, .int .i64 on, .int .i64 a, .int .i64 b, .int .i64 c, .int .i64 d, .int .u64 n]] w1 fun e w' => e = .returned (.tuple #[]) ∧ Q e w') :
    Calls Try.prog 49 #[.pointer (some ⟨g, 0, none⟩), .pointer P, .agg #[.int .i64 k, .int .i64 on, .int .i64 a, .int .i64 b, .int .i64 c, .int .i64 d, .int .u64 n]] w fun e w' => e = .returned (.tuple #[]) ∧ Q e w' := by
  have h2 := h.at_
  have f2 := h.frozen 2
  have hlt := h.blk.lt
  rcases hk with rfl | rfl | rfl | rfl | rfl
  · obtain ⟨w1, hw1, h1, k1, c1⟩ := enter_own h #[.int .i64 18, .int .i64 on, .int .i64 a, .int .i64 b, .int .i64 c, .int .i64 d, .int .u64 n] 114
    have HW := Lib.hid hw1
    have HQ := Lib.hid (H w1 h1 k1)
    clear hw1 h1 k1 c1 h H
    go_enter Try.func49, Try.ntmps49
    go_wp2_with fail
    rw [← HW.out]
    refine HQ.out.mono ?_
    rintro e w' ⟨rfl, hq⟩
    have HR := Lib.hid hq
    clear hq
    go_wp2
    go_end0
    exact ⟨rfl, HR.out⟩
  · obtain ⟨w1, hw1, h1, k1, c1⟩ := enter_own h #[.int .i64 19, .int .i64 on, .int .i64 a, .int .i64 b, .int .i64 c, .int .i64 d, .int .u64 n] 114
    have HW := Lib.hid hw1
    have HQ := Lib.hid (H w1 h1 k1)
    clear hw1 h1 k1 c1 h H
    go_enter Try.func49, Try.ntmps49
    go_wp2_with fail
    rw [← HW.out]
    refine HQ.out.mono ?_
    rintro e w' ⟨rfl, hq⟩
    have HR := Lib.hid hq
    clear hq
    go_wp2
    go_end0
    exact ⟨rfl, HR.out⟩
  · obtain ⟨w1, hw1, h1, k1, c1⟩ := enter_own h #[.int .i64 20, .int .i64 on, .int .i64 a, .int .i64 b, .int .i64 c, .int .i64 d, .int .u64 n] 114
    have HW := Lib.hid hw1
    have HQ := Lib.hid (H w1 h1 k1)
    clear hw1 h1 k1 c1 h H
    go_enter Try.func49, Try.ntmps49
    go_wp2_with fail
    rw [← HW.out]
    refine HQ.out.mono ?_
    rintro e w' ⟨rfl, hq⟩
    have HR := Lib.hid hq
    clear hq
    go_wp2
    go_end0
    exact ⟨rfl, HR.out⟩
  · obtain ⟨w1, hw1, h1, k1, c1⟩ := enter_own h #[.int .i64 21, .int .i64 on, .int .i64 a, .int .i64 b, .int .i64 c, .int .i64 d, .int .u64 n] 114
    have HW := Lib.hid hw1
    have HQ := Lib.hid (H w1 h1 k1)
    clear hw1 h1 k1 c1 h H
    go_enter Try.func49, Try.ntmps49
    go_wp2_with fail
    rw [← HW.out]
    refine HQ.out.mono ?_
    rintro e w' ⟨rfl, hq⟩
    have HR := Lib.hid hq
    clear hq
    go_wp2
    go_end0
    exact ⟨rfl, HR.out⟩
  · obtain ⟨w1, hw1, h1, k1, c1⟩ := enter_own h #[.int .i64 22, .int .i64 on, .int .i64 a, .int .i64 b, .int .i64 c, .int .i64 d, .int .u64 n] 114
    have HW := Lib.hid hw1
    have HQ := Lib.hid (H w1 h1 k1)
    clear hw1 h1 k1 c1 h H
    go_enter Try.func49, Try.ntmps49
    go_wp2_with fail
    rw [← HW.out]
    refine HQ.out.mono ?_
    rintro e w' ⟨rfl, hq⟩
    have HR := Lib.hid hq
    clear hq
    go_wp2
    go_end0
    exact ⟨rfl, HR.out⟩
end Go.Proofs.Ytgenblefbddilaa.mz
namespace Go.Proofs.Ytgenblefbddilaa.mz
open Go.RowKit Go.Proofs.Ytgenblefbddilaa.oc
theorem ins_at {t : Th} (h : t.ins.op ≠ 23) : ∃ c, t.calls[t.call]? = some c ∧ c.1[t.at_]? = some t.ins := by
  unfold Th.ins at h ⊢
  cases e : t.calls[t.call]? with
  | none => rw [e] at h; exact absurd rfl h
  | some c =>
    refine ⟨c, rfl, ?_⟩
    rw [e] at h
    simp only at h ⊢
    rw [List.getD_eq_getElem?_getD] at h ⊢
    cases e2 : c.1[t.at_]? with
    | none => rw [e2] at h; exact absurd rfl h
    | some x => rfl
theorem at_small {t : Th} (hw : t.Wf) (h : t.ins.op ≠ 23) : t.at_ < 1000000 := by
  obtain ⟨c, h1, h2⟩ := ins_at h
  have := hw.codes c (List.mem_of_getElem? h1)
  have := (List.getElem?_eq_some_iff.1 h2).1
  omega
theorem Wf.put {t : Th} (hw : t.Wf) (a v m : Nat) : ({ t with at_ := m, rs := t.rs.set a v } : Th).Wf := ⟨by simp [hw.rs], hw.ans, hw.calls, hw.codes⟩
theorem Wf.goto {t : Th} (hw : t.Wf) (m : Nat) : ({ t with at_ := m } : Th).Wf := ⟨hw.rs, hw.ans, hw.calls, hw.codes⟩
/-- what a call of own leaves -/
def OwnPost (B g : Nat) (F : Nat → Prop) (w : World) (t' : Th) (e : Ending) (w' : World) : Prop := e = .returned (.tuple #[]) ∧ TInv w' B g t' (Grown w w' F) ∧ Keeps F w w'
theorem TInv.wider {w : World} {B g : Nat} {t : Th} {F F' : Nat → Prop} (h : TInv w B g t F) (k : ∀ b, F b → F' b) (ha : ∀ b, F' b → B ≤ b ∧ b < w.heap.size) : TInv w B g t F' := by
  obtain ⟨cv, v, tvs, h1, h2, h3⟩ := h.at_
  exact ⟨⟨cv, v, tvs, h1, h2, h3.wider k⟩, h.wf, k _ h.me, ha⟩
theorem TInv.grown {w w' : World} {B g : Nat} {t : Th} {F : Nat → Prop} (h : TInv w' B g t F) (hB : B ≤ w.heap.size) : TInv w' B g t (Grown w w' F) :=
  h.wider (fun _ hb => .inl hb) fun b hb => by
    rcases hb with hb | hb
    · exact h.above b hb
    · exact ⟨by omega, hb.2⟩
theorem own_done {w w' : World} {B g : Nat} {t t' : Th} {F : Nat → Prop} {cv v : Value} {tvs : List Value} (h : TInv w B g t F) (hB : B ≤ w.heap.size) (h2 : IsCalls w B cv t.calls) (h3 : Ans w B g F v t.ans tvs) {e : Ending} (he : e = .returned (.tuple #[]))
    (hT : Thr w' g ⟨cv, t'.call, t'.at_, t'.rs, v, t'.over⟩) (k : Keeps (· = g) w w') (hc : t'.calls = t.calls) (ha : t'.ans = t.ans) (hwf : t'.Wf) : OwnPost B g F w t' e w' := by
  have hg := (h.above g h.me).1
  refine ⟨he, TInv.grown ⟨⟨cv, v, tvs, hT, ?_, ?_⟩, hwf, h.me, fun b hb => ⟨(h.above b hb).1, Nat.lt_of_lt_of_le (h.above b hb).2 k.size⟩⟩ hB, k.mono fun b _ e => by subst e; exact h.me⟩
  · rw [hc]; exact h2.keeps k (fun b hb e => by omega)
  · rw [ha]; exact h3.keeps k (fun b _ hb => hb)
theorem set_self {α : Type} (l : List α) (i : Nat) (d : α) : l.set i (l.getD i d) = l := by
  apply List.ext_getElem?
  intro j
  rw [List.getElem?_set]
  split
  · next h =>
    subst h
    split
    · next h2 => simp [List.getD_eq_getElem?_getD, List.getElem?_eq_getElem h2]
    · next h2 => exact (List.getElem?_eq_none (by omega)).symm
  · rfl
theorem getD_of {α : Type} {l : List α} {i : Nat} {d : α} (h : i < l.length) : l[i]? = some (l.getD i d) := by
  rw [List.getD_eq_getElem?_getD, List.getElem?_eq_getElem h]; rfl
/-- the answers' row, told zs a block -/
theorem Ans.blk {w : World} {B g : Nat} {F : Nat → Prop} {v : Value} {zs : List (Bool × List Nat)} {tvs : List Value} (h : Ans w B g F v zs tvs) (hn : 0 < zs.length) :
    ∃ A cap cs, v = .slice (some ⟨A, 0, none⟩) zs.length cap ∧ B ≤ A ∧ Blk w A 88 cs ∧ zs.length ≤ cap ∧ cap ≤ maxLen ∧ cs.length = cap * 2 ∧ cs.take (zs.length * 2) = flat zs tvs := by
  rcases h.row.2 with ⟨_, h0⟩ | ⟨A, cap, cur, rfl, hb, hg, h1, h2, h3, h4⟩
  · omega
  · exact ⟨A, cap, cur.toList, rfl, hb, by unfold Blk; simpa using hg, h1, h2, by simpa using h3, h4⟩
theorem Ans.told {w w' : World} {B g A k cap : Nat} {F : Nat → Prop} {zs : List (Bool × List Nat)} {tvs : List Value} {cs : List Value} {a : Bool × List Nat} {tv : Value} {x : Nat} {s : Ts} {i : Nat}
    (h : Ans w B g F (.slice (some ⟨A, 0, none⟩) zs.length cap) zs tvs) (hi : zs[i]? = some a) (hv : tvs[i]? = some tv) (hk : k = i * 2 + 1) (hF : ∀ b, F b → b < w.heap.size) (hB : B ≤ A)
    (h1 : zs.length ≤ cap) (h2 : cap ≤ maxLen) (h3 : cs.length = cap * 2) (h4 : cs.take (zs.length * 2) = flat zs tvs) (hT : Told B w w' g A k 88 cs tv a.2 x s) (hg : g < w.heap.size) :
    ∃ tv', Ans w' B g (Grown w w' F) (.slice (some ⟨A, 0, none⟩) zs.length cap) (zs.set i (a.1, a.2 ++ [x])) (tvs.set i tv') ∧ Thr w' g s ∧ Keeps F w w' := by
  obtain ⟨tv', t1, t2, t3, t4, t5⟩ := hT
  subst hk
  have il : i < zs.length := (List.getElem?_eq_some_iff.1 hi).1
  have vl : i < tvs.length := (List.getElem?_eq_some_iff.1 hv).1
  have hlt : ∀ (j : Nat) (u : Value) (b : Nat), tvs[j]? = some u → u.ownBlock = some b → b < w.heap.size := fun j u b hu hb => hF b (h.feet j u b hu hb).1
  refine ⟨tv', ⟨?_, by simp [h.len], ?_, ?_, ?_, ?_, ?_⟩, t1, t5.mono fun b _ hb => ?_⟩
  · refine ⟨?_, .inr ⟨A, cap, (cs.set (i * 2 + 1) tv').toArray, by simp, hB, t2, by simpa using h1, h2, by simpa using h3, ?_⟩⟩
    · rw [flat_length _ _ (by simp [h.len])]
    · rw [flat_set_told zs tvs i a _ tv' hi vl, ← h4, List.take_set]
      simp
  · intro j u b hu hb
    rw [List.getElem?_set] at hu
    rw [List.getElem?_set] at hb
    by_cases e : i = j
    · subst e
      simp only [if_true, vl, il] at hu hb
      cases hu; cases hb
      simpa using t3
    · rw [if_neg e] at hu hb
      refine owns_keeps (h.own j u b hu hb) t5 fun q hq => ?_
      rintro (rfl | z)
      · exact h.off j u _ hu hq rfl
      · exact h.apart i j q tv u e hv hu z hq
  · intro j j' q u u' hjj hu hu' hq hq'
    rw [List.getElem?_set] at hu hu'
    by_cases e : i = j
    · subst e
      rw [if_neg hjj] at hu'
      simp only [if_true, vl] at hu
      cases hu
      rcases t4 with z | ⟨m, z, hm⟩
      · rw [z] at hq; exact h.apart i j' q tv u' hjj hv hu' hq hq'
      · rw [z] at hq; injection hq with hq; have := hlt j' u' q hu' hq'; omega
    · rw [if_neg e] at hu
      by_cases e' : i = j'
      · subst e'
        simp only [if_true, vl] at hu'
        cases hu'
        rcases t4 with z | ⟨m, z, hm⟩
        · rw [z] at hq'; exact h.apart j i q u tv hjj hu hv hq hq'
        · rw [z] at hq'; injection hq' with hq'; have := hlt j u q hu hq; omega
      · rw [if_neg e'] at hu'
        exact h.apart j j' q u u' hjj hu hu' hq hq'
  · intro j u q hu hq
    rw [List.getElem?_set] at hu
    by_cases e : i = j
    · subst e
      simp only [if_true, vl] at hu
      cases hu
      rcases t4 with z | ⟨m, z, hm⟩
      · rw [z] at hq; exact h.off i tv q hv hq
      · rw [z] at hq; injection hq with hq
        have := (hF A (h.foot A rfl).1)
        intro e; injection e with e; simp at e; omega
    · rw [if_neg e] at hu
      exact h.off j u q hu hq
  · exact fun b hb => ⟨.inl (h.foot b hb).1, (h.foot b hb).2⟩
  · intro j u q hu hq
    rw [List.getElem?_set] at hu
    by_cases e : i = j
    · subst e
      simp only [if_true, vl] at hu
      cases hu
      rcases t4 with z | ⟨m, z, hm⟩
      · rw [z] at hq; exact ⟨.inl (h.feet i tv q hv hq).1, (h.feet i tv q hv hq).2⟩
      · have := (t3.lt q hq).2
        rw [z] at hq; injection hq with hq
        exact ⟨.inr ⟨by omega, by omega⟩, by omega⟩
    · rw [if_neg e] at hu
      exact ⟨.inl (h.feet j u q hu hq).1, (h.feet j u q hu hq).2⟩
  · rcases hb with rfl | z
    · exact (h.foot _ rfl).1
    · exact (h.feet i tv b hv z).1
set_option maxRecDepth 10000 in
theorem own_all (B g : Nat) (P : Option Addr) (w : World) (t t' : Th) (F : Nat → Prop) (h : TInv w B g t F) (hB : B ≤ w.heap.size) (hlen : t.ans.length = t.call + 1) (hne : t.ins.op ≠ 23) (ho : t.own = some t') :
    Calls Try.prog 49 #[.pointer (some ⟨g, 0, none⟩), .pointer P, t.ins.val] w (OwnPost B g F w t') := by
  have hat := at_small h.wf hne
  have hwf := h.wf
  obtain ⟨cv, v, tvs, h1, h2, h3⟩ := h.at_
  unfold Th.own at ho
  split at ho
  case isFalse => cases ho
  rename_i hcond
  simp only [Bool.and_eq_true, decide_eq_true_eq] at hcond
  obtain ⟨⟨hfit, hkn⟩, htl⟩ := hcond
  have fa := Ins.fit_a hfit
  have fb := Ins.fit_b hfit
  have fc := Ins.fit_c hfit
  have fn := Ins.fit_n hfit
  have fj := fun h1 h2 => Ins.fit_jump hfit h1 h2
  have hat' : t.call < t.ans.length := by omega
  have hself : t.ans.set t.call ((t.ans.getD t.call (false, [])).1, t.told) = t.ans := set_self t.ans t.call (false, [])
  revert ho fa fb fc fn fj hkn
  generalize t.ins = x
  intro ho hkn fa fb fc fn fj
  obtain ⟨op, on, a, b, c, d, n⟩ := x
  simp only at fa fb fc fn fj
  have hop : op = 6 ∨ op = 7 ∨ op = 8 ∨ op = 9 ∨ op = 10 ∨ op = 11 ∨ op = 12 ∨ op = 13 ∨ op = 14 ∨ op = 15 ∨ op = 16 ∨ op = 18 ∨ op = 19 ∨ op = 20 ∨ op = 21 ∨ op = 22 := by simpa [Ins.known] using hkn
  clear hkn hfit
  rcases hop with rfl | rfl | rfl | rfl | rfl | rfl | rfl | rfl | rfl | rfl | rfl | rfl | rfl | rfl | rfl | rfl
  · simp only [mz.own, Cs.put, Option.some.injEq] at ho
    subst ho
    exact (own6 g on a b c d n P w _ h1 fa fn hat).mono fun e w' ⟨he, hT, k⟩ => own_done h hB h2 h3 he hT k rfl hself ⟨by simp [hwf.rs], by simpa using hwf.ans, hwf.calls, hwf.codes⟩
  · simp only [mz.own, Cs.put, Option.some.injEq] at ho
    subst ho
    exact (own7 g on a b c d n P w _ h1 fa fb hat).mono fun e w' ⟨he, hT, k⟩ => own_done h hB h2 h3 he hT k rfl hself ⟨by simp [hwf.rs], by simpa using hwf.ans, hwf.calls, hwf.codes⟩
  · simp only [mz.own, Cs.put, Option.some.injEq] at ho
    subst ho
    exact (own8 g on a b c d n P w _ h1 fa fb fc hat).mono fun e w' ⟨he, hT, k⟩ => own_done h hB h2 h3 he hT k rfl hself ⟨by simp [hwf.rs], by simpa using hwf.ans, hwf.calls, hwf.codes⟩
  · simp only [mz.own, Cs.put, Option.some.injEq] at ho
    subst ho
    exact (own9 g on a b c d n P w _ h1 fa fb fc hat).mono fun e w' ⟨he, hT, k⟩ => own_done h hB h2 h3 he hT k rfl hself ⟨by simp [hwf.rs], by simpa using hwf.ans, hwf.calls, hwf.codes⟩
  · simp only [mz.own, Cs.put, Option.some.injEq] at ho
    subst ho
    exact (own10 g on a b c d n P w _ h1 fa fb fc hat).mono fun e w' ⟨he, hT, k⟩ => own_done h hB h2 h3 he hT k rfl hself ⟨by simp [hwf.rs], by simpa using hwf.ans, hwf.calls, hwf.codes⟩
  · simp only [mz.own, Cs.put, Option.some.injEq] at ho
    subst ho
    by_cases hz : reg t.rs c = 0
    · rw [if_pos hz]
      exact (own11z g on a b c d n P w _ h1 fa fb fc hat hz).mono fun e w' ⟨he, hT, k⟩ => own_done h hB h2 h3 he hT k rfl hself ⟨by simp [hwf.rs], by simpa using hwf.ans, hwf.calls, hwf.codes⟩
    · rw [if_neg hz]
      exact (own11n g on a b c d n P w _ h1 fa fb fc hat hz).mono fun e w' ⟨he, hT, k⟩ => own_done h hB h2 h3 he hT k rfl hself ⟨by simp [hwf.rs], by simpa using hwf.ans, hwf.calls, hwf.codes⟩
  · simp only [mz.own, Cs.put, Option.some.injEq] at ho
    subst ho
    exact (own12 g on a b c d n P w _ h1 fa fb fc hat).mono fun e w' ⟨he, hT, k⟩ => own_done h hB h2 h3 he hT k rfl hself ⟨by simp [hwf.rs], by simpa using hwf.ans, hwf.calls, hwf.codes⟩
  · simp only [mz.own, Cs.put, Option.some.injEq] at ho
    subst ho
    exact (own13 g on a b c d n P w _ h1 fa fb fc hat).mono fun e w' ⟨he, hT, k⟩ => own_done h hB h2 h3 he hT k rfl hself ⟨by simp [hwf.rs], by simpa using hwf.ans, hwf.calls, hwf.codes⟩
  · simp only [mz.own, Cs.put, Option.some.injEq] at ho
    subst ho
    exact (own14 g on a b c d n P w _ h1 fa fb hat).mono fun e w' ⟨he, hT, k⟩ => own_done h hB h2 h3 he hT k rfl hself ⟨by simp [hwf.rs], by simpa using hwf.ans, hwf.calls, hwf.codes⟩
  · simp only [mz.own, Cs.put, Option.some.injEq] at ho
    subst ho
    exact (own15 g on a b c d n P w _ h1 fa fb hat).mono fun e w' ⟨he, hT, k⟩ => own_done h hB h2 h3 he hT k rfl hself ⟨by simp [hwf.rs], by simpa using hwf.ans, hwf.calls, hwf.codes⟩
  · simp only [mz.own, Cs.put, Option.some.injEq] at ho
    subst ho
    exact (own16 g on a b c d n P w _ h1 fa fb fc hat).mono fun e w' ⟨he, hT, k⟩ => own_done h hB h2 h3 he hT k rfl hself ⟨by simp [hwf.rs], by simpa using hwf.ans, hwf.calls, hwf.codes⟩
  · obtain ⟨A, cap, cs, rfl, hA1, hA2, hA3, hA4, hA5, hA6⟩ := h3.blk (by omega)
    have fj' := fj (by omega) (by omega)
    simp only [mz.own, Cs.go, if_true, Option.some.injEq] at ho
    refine ownT 18 (by omega) g on a b c d n P w _ h1 hat (fun e w' => TInv w' B g t' (Grown w w' F) ∧ Keeps F w w') fun w1 hT1 k1 => ?_
    exact (turn18 g on a b c d n A _ cap P w1 _ hT1 fj' rfl hat').mono fun e w' ⟨he, hT, k⟩ => ⟨he, (own_done h hB h2 h3 he (by rw [← ho]; exact hT) (k1.trans k) (by rw [← ho]) (by rw [← ho]; exact hself) (by rw [← ho]; exact ⟨hwf.rs, by simpa using hwf.ans, hwf.calls, hwf.codes⟩)).2⟩
  · obtain ⟨A, cap, cs, rfl, hA1, hA2, hA3, hA4, hA5, hA6⟩ := h3.blk (by omega)
    have fj' := fj (by omega) (by omega)
    simp only [mz.own, Cs.go, Option.some.injEq, decide_eq_true_eq] at ho
    refine ownT 19 (by omega) g on a b c d n P w _ h1 hat (fun e w' => TInv w' B g t' (Grown w w' F) ∧ Keeps F w w') fun w1 hT1 k1 => ?_
    by_cases hc : reg t.rs a = reg t.rs b
    · exact (turn19y g on a b c d n A _ cap P w1 _ hT1 fa fb fj' rfl hat' hc).mono fun e w' ⟨he, hT, k⟩ => ⟨he, (own_done h hB h2 h3 he (by rw [← ho]; simpa [hc] using hT) (k1.trans k) (by rw [← ho]) (by rw [← ho]; exact hself) (by rw [← ho]; exact ⟨hwf.rs, by simpa using hwf.ans, hwf.calls, hwf.codes⟩)).2⟩
    · exact (turn19n g on a b c d n A _ cap P w1 _ hT1 fa fb rfl hat' hc).mono fun e w' ⟨he, hT, k⟩ => ⟨he, (own_done h hB h2 h3 he (by rw [← ho]; simpa [hc] using hT) (k1.trans k) (by rw [← ho]) (by rw [← ho]; exact hself) (by rw [← ho]; exact ⟨hwf.rs, by simpa using hwf.ans, hwf.calls, hwf.codes⟩)).2⟩
  · obtain ⟨A, cap, cs, rfl, hA1, hA2, hA3, hA4, hA5, hA6⟩ := h3.blk (by omega)
    have fj' := fj (by omega) (by omega)
    simp only [mz.own, Cs.go, Option.some.injEq, decide_eq_true_eq] at ho
    refine ownT 20 (by omega) g on a b c d n P w _ h1 hat (fun e w' => TInv w' B g t' (Grown w w' F) ∧ Keeps F w w') fun w1 hT1 k1 => ?_
    by_cases hc : reg t.rs a < reg t.rs b
    · exact (turn20y g on a b c d n A _ cap P w1 _ hT1 fa fb fj' rfl hat' hc).mono fun e w' ⟨he, hT, k⟩ => ⟨he, (own_done h hB h2 h3 he (by rw [← ho]; simpa [hc] using hT) (k1.trans k) (by rw [← ho]) (by rw [← ho]; exact hself) (by rw [← ho]; exact ⟨hwf.rs, by simpa using hwf.ans, hwf.calls, hwf.codes⟩)).2⟩
    · exact (turn20n g on a b c d n A _ cap P w1 _ hT1 fa fb rfl hat' hc).mono fun e w' ⟨he, hT, k⟩ => ⟨he, (own_done h hB h2 h3 he (by rw [← ho]; simpa [hc] using hT) (k1.trans k) (by rw [← ho]) (by rw [← ho]; exact hself) (by rw [← ho]; exact ⟨hwf.rs, by simpa using hwf.ans, hwf.calls, hwf.codes⟩)).2⟩
  · obtain ⟨A, cap, cs, rfl, hA1, hA2, hA3, hA4, hA5, hA6⟩ := h3.blk (by omega)
    have fj' := fj (by omega) (by omega)
    simp only [mz.own, Cs.go, Option.some.injEq, decide_eq_true_eq] at ho
    refine ownT 21 (by omega) g on a b c d n P w _ h1 hat (fun e w' => TInv w' B g t' (Grown w w' F) ∧ Keeps F w w') fun w1 hT1 k1 => ?_
    by_cases hc : reg t.rs a / 9223372036854775808 = 1
    · exact (turn21y g on a b c d n A _ cap P w1 _ hT1 fa fj' rfl hat' hc).mono fun e w' ⟨he, hT, k⟩ => ⟨he, (own_done h hB h2 h3 he (by rw [← ho]; simpa [hc] using hT) (k1.trans k) (by rw [← ho]) (by rw [← ho]; exact hself) (by rw [← ho]; exact ⟨hwf.rs, by simpa using hwf.ans, hwf.calls, hwf.codes⟩)).2⟩
    · exact (turn21n g on a b c d n A _ cap P w1 _ hT1 fa rfl hat' hc).mono fun e w' ⟨he, hT, k⟩ => ⟨he, (own_done h hB h2 h3 he (by rw [← ho]; simpa [hc] using hT) (k1.trans k) (by rw [← ho]) (by rw [← ho]; exact hself) (by rw [← ho]; exact ⟨hwf.rs, by simpa using hwf.ans, hwf.calls, hwf.codes⟩)).2⟩
  · obtain ⟨A, cap, cs, rfl, hA1, hA2, hA3, hA4, hA5, hA6⟩ := h3.blk (by omega)
    simp only [mz.own, Option.some.injEq] at ho
    have ho' := ho
    have ha1 : t.ans[t.call]? = some (t.ans.getD t.call (false, [])) := getD_of hat'
    have hv1 : tvs[t.call]? = some (tvs.getD t.call (.bool false)) := getD_of (by rw [h3.len]; exact hat')
    have hfa := flat_at _ _ _ _ _ ha1 hv1
    have hcs : cs[t.call * 2 + 1]? = some (tvs.getD t.call (.bool false)) := by
      rw [← hfa.2, ← hA6, List.getElem?_take, if_pos (by omega)]
    have hgA := h3.foot A rfl
    refine ownT 22 (by omega) g on a b c d n P w _ h1 hat (fun e w' => TInv w' B g t' (Grown w w' F) ∧ Keeps F w w') fun w1 hT1 k1 => ?_
    have h31 := h3.keeps k1 (fun b _ hb => hb)
    refine (turn22 g on a b c d n A _ cap P w1 _ hT1 fa rfl hat' _ _ cs _ (Blk.keeps hA2 k1 hgA.2) hgA.2 hcs B (Nat.le_trans hB k1.size) (h31.own _ _ _ hv1 ha1) (by unfold Th.told at htl; omega) (fun k hk => ⟨(h3.feet _ _ k hv1 hk).2, fun e => h3.off _ _ k hv1 hk (by rw [e]; rfl)⟩)).mono fun e w' ⟨he, hT⟩ => ⟨he, ?_⟩
    obtain ⟨tv', q1, q2, q3⟩ := h31.told ha1 hv1 rfl (fun b hb => Nat.lt_of_lt_of_le (h.above b hb).2 k1.size) hA1 hA3 hA4 hA5 hA6 hT (Nat.lt_of_lt_of_le (h.above g h.me).2 k1.size)
    have k1' : Keeps F w w1 := k1.mono fun b _ e => by subst e; exact h.me
    rw [← ho']
    refine ⟨⟨⟨cv, _, tvs.set t.call tv', q2, ?_, ?_⟩, ⟨hwf.rs, by simpa using hwf.ans, hwf.calls, hwf.codes⟩, .inl h.me, fun b hb => ?_⟩, k1'.trans q3⟩
    · exact (h2.keeps k1' (fun b hb e => by have := (h.above b e).1; omega)).keeps q3 (fun b hb e => by have := (h.above b e).1; omega)
    · have := q1.wider (F' := Grown w w' F) (fun b hb => by
        rcases hb with hb | hb
        · exact .inl hb
        · exact .inr ⟨Nat.le_trans k1.size hb.1, hb.2⟩)
      simpa [Th.told] using this
    · rcases hb with hb | hb
      · exact ⟨(h.above b hb).1, Nat.lt_of_lt_of_le (h.above b hb).2 (k1'.trans q3).size⟩
      · exact ⟨Nat.le_trans hB hb.1, hb.2⟩
theorem own_is (B g : Nat) (P : Option Addr) (w : World) (t t' : Th) (F : Nat → Prop) (h : TInv w B g t F) (hB : B ≤ w.heap.size) (hlen : t.ans.length = t.call + 1) (x : Ins) (hx : t.ins = x) (hne : x.op ≠ 23) (ho : t.own = some t') :
    Calls Try.prog 49 #[.pointer (some ⟨g, 0, none⟩), .pointer P, .agg #[.int .i64 (x.op : Int), .int .i64 (x.on : Int), .int .i64 (x.a : Int), .int .i64 (x.b : Int), .int .i64 (x.c : Int), .int .i64 (x.d : Int), .int .u64 (x.n : Int)]] w (OwnPost B g F w t') := by
  subst hx
  exact own_all B g P w t t' F h hB hlen hne ho
end Go.Proofs.Ytgenblefbddilaa.mz
