/-
  bucket: Run and Fits of any arguments, the program's and the document's answer; lists of truths that are written over and grown.
-/
import Derived.Test.YtbiadglhfpapaaaBpTl
import Derived.Test.YtbiadglhfpapaaaBkS
import Derived.Test.YtbiadglhfpapaaaBkKp
import Derived.Test.YtbiadglhfpapaaaBkC
set_option linter.unusedVariables false
namespace Go.Proofs.Ytbiadglhfpapaaa.bp
open Go.RowKit Go.Proofs.Ytbiadglhfpapaaa.oc Go.Proofs.Ytbiadglhfpapaaa.mz Go.Proofs.Ytbiadglhfpapaaa.bk
theorem Asks.take {w : World} {B : Nat} {A : Option Addr} {l : List (Nat × Nat)} (h : Asks w B A l) (k : Nat) : Asks w B A (l.take k) := by
  refine ⟨fun i v hv => h.rd i v ?_, fun p hp => h.sm p (List.mem_of_mem_take hp)⟩
  have e : l = l.take k ++ l.drop k := (List.take_append_drop k l).symm
  have hlt : i < (askc (l.take k)).length := (List.getElem?_eq_some_iff.1 hv).1
  rw [e, askc_app, List.getElem?_append_left hlt]; exact hv
theorem Asks.left {w : World} {B : Nat} {A : Option Addr} {l r : List (Nat × Nat)} (h : Asks w B A (l ++ r)) : Asks w B A l := by
  have := Asks.take h l.length
  rwa [List.take_left] at this
section
variable (w : World) (n d b : Nat)
set_option maxRecDepth 100000 in
set_option maxHeartbeats 2000000 in
theorem fits_no' (A : Option Addr) (m c : Nat) (hm : ¬ May n d b) : Calls Try.prog 26 #[bv n d b, .slice A m c] w fun e w' => e = .returned (.tuple #[.int .i64 0, .int .i64 2]) ∧ ∀ S, Keeps S w w' := by
  have HC := fun w => Lib.hid (check_ w n d b)
  rw [show chk n d b = 2 from by unfold chk; rw [if_neg hm]] at HC
  unfold bv at HC ⊢
  clear hm
  go_enter Try.func26, Try.ntmps26
  go_wp2_with fail
  refine (HC _).out.mono ?_
  rintro e w1 ⟨rfl, k1⟩
  have K1 : Hid (∀ S, Keeps S w w1) := Lib.hid (fun S => (((Keeps.refl S w).alloc _).alloc _).trans (k1 S))
  clear k1
  go_wp2
  try rw [Exit.noGoto_ret]
  go_ret2
  exact ⟨rfl, K1.out⟩
set_option maxRecDepth 100000 in
set_option maxHeartbeats 4000000 in
theorem fits_range' (A : Option Addr) (m c : Nat) (l : List (Nat × Nat)) (hm : May n d b) (ha : Asks w w.heap.size A l) (hl : l.length = m) (hm9 : m ≤ 4096) (ht : ¬ ∀ p ∈ l, p.1 ≤ 1099511627776) : Calls Try.prog 26 #[bv n d b, .slice A m c] w fun e w' => e = .returned (.tuple #[.int .i64 0, .int .i64 5]) ∧ ∀ S, Keeps S w w' := by
  have HC := fun w => Lib.hid (check_ w n d b)
  rw [show chk n d b = 0 from by unfold chk; rw [if_pos hm]] at HC
  have HW := fun w => Lib.hid (wrong_ w n d b (lat l))
  rw [show err n d b (lat l) = 5 from by unfold err; rw [if_pos hm, if_neg (fun h => ht ((lat_le l _).1 h))]] at HW
  have HL := Lib.hid (fun (W : World) (hk : ∀ S, Keeps S w W) => latest_ W A m c l ((ha.keeps (S := fun _ => False) (hk _) (fun _ _ z => z)).base (hk (fun _ => False)).size) hl (by omega))
  unfold bv at HC HW ⊢
  generalize lat l = lt at *
  obtain ⟨w0, hw0⟩ : ∃ x, x = (w.alloc (.cells #[.int .u64 (n : Int), .int .u64 (d : Int), .int .u64 (b : Int)] 24)).alloc (.cells #[.slice A m c] 36) := ⟨_, rfl⟩
  have B2 := (Blk.new w 24 #[.int .u64 (n : Int), .int .u64 (d : Int), .int .u64 (b : Int)]).alloc (.cells #[.slice A m c] 36)
  have B3 := Blk.new (w.alloc (.cells #[.int .u64 (n : Int), .int .u64 (d : Int), .int .u64 (b : Int)] 24)) 36 #[.slice A m c]
  rw [World.size_alloc] at B3
  rw [← hw0] at B2 B3
  have V0 := Lib.hid (show (∀ S, Keeps S w w0) ∧ Blk w0 w.heap.size 24 [.int .u64 (n : Int), .int .u64 (d : Int), .int .u64 (b : Int)] ∧ Blk w0 (w.heap.size + 1) 36 [.slice A m c] from ⟨fun S => by rw [hw0]; exact ((Keeps.refl S w).alloc _).alloc _, B2, B3⟩)
  have m1 : ¬ (4096 : Int) < (m : Int) := by omega
  clear hm ha hl hm9 ht B2 B3
  go_enter Try.func26, Try.ntmps26
  go_wp2_with fail
  rw [← hw0]
  clear hw0
  refine (HC _).out.mono ?_
  rintro e w1 ⟨rfl, k1⟩
  obtain ⟨P3, hP3⟩ : ∃ x, x = w.heap.size + 1 := ⟨_, rfl⟩
  rw [← hP3] at V0 ⊢
  have V1 := Lib.hid (show (∀ S, Keeps S w w1) ∧ Blk w1 w.heap.size 24 [.int .u64 (n : Int), .int .u64 (d : Int), .int .u64 (b : Int)] ∧ Blk w1 P3 36 [.slice A m c] from ⟨fun S => (V0.out.1 S).trans (k1 S), Blk.keeps V0.out.2.1 (k1 (fun _ => False)) (fun z => z), Blk.keeps V0.out.2.2 (k1 (fun _ => False)) (fun z => z)⟩)
  have x0 : w1.cell? ⟨w.heap.size, 0, none⟩ = some (.int .u64 (n : Int)) := by rw [V1.out.2.1.cell]; rfl
  have x1 : w1.cell? ⟨w.heap.size, 1, none⟩ = some (.int .u64 (d : Int)) := by rw [V1.out.2.1.cell]; rfl
  have x2 : w1.cell? ⟨w.heap.size, 2, none⟩ = some (.int .u64 (b : Int)) := by rw [V1.out.2.1.cell]; rfl
  have x3 : w1.cell? ⟨P3, 0, none⟩ = some (.slice A m c) := by rw [V1.out.2.2.cell]; rfl
  clear k1 V0 hP3 HC
  go_wp2_with fail
  go_region_held3 (fun w' => w'.cell? ⟨w.heap.size, 0, none⟩ = some (.int .u64 (n : Int)) ∧ w'.cell? ⟨w.heap.size, 1, none⟩ = some (.int .u64 (d : Int)) ∧ w'.cell? ⟨w.heap.size, 2, none⟩ = some (.int .u64 (b : Int)) ∧ w'.cell? ⟨P3, 0, none⟩ = some (.slice A m c))
    (first | exact ⟨x0, x1, x2, x3⟩ | exact ⟨y0, y1, y2, y3⟩ | exact ⟨z0, z1, z2, z3⟩)
    ((first
      | (go_at_call 40; refine (HL.out _ (fun S => (V1.out.1 S).drew)).mono ?_; rintro e wa ⟨rfl, ka⟩; have y0 := Keeps.cell (ka (fun _ => False)) (show w1.drew.cell? _ = _ from x0) (fun z => z); have y1 := Keeps.cell (ka (fun _ => False)) (show w1.drew.cell? _ = _ from x1) (fun z => z); have y2 := Keeps.cell (ka (fun _ => False)) (show w1.drew.cell? _ = _ from x2) (fun z => z); have y3 := Keeps.cell (ka (fun _ => False)) (show w1.drew.cell? _ = _ from x3) (fun z => z); have KA : Hid (∀ S, Keeps S w1 wa) := Lib.hid (fun S => (Keeps.refl S w1).drew.trans (ka S)); clear ka)
      | (go_at_call 31; refine (HW _).out.mono ?_; rintro e wb ⟨rfl, kb⟩; have z0 := Keeps.cell (kb (fun _ => False)) y0 (fun z => z); have z1 := Keeps.cell (kb (fun _ => False)) y1 (fun z => z); have z2 := Keeps.cell (kb (fun _ => False)) y2 (fun z => z); have z3 := Keeps.cell (kb (fun _ => False)) y3 (fun z => z); have KB : Hid (∀ S, Keeps S w1 wb) := Lib.hid (fun S => (KA.out S).trans (kb S)); clear kb)))
  have K2 : Hid (∀ S, Keeps S w wb) := Lib.hid (fun S => (V1.out.1 S).trans (KB.out S))
  clear x0 x1 x2 x3 y0 y1 y2 y3 z0 z1 z2 z3 KA KB V1 HL HW
  go_wp2
  try rw [Exit.noGoto_ret]
  go_ret2
  exact ⟨rfl, K2.out⟩
end
/-- what a Run answers -/
def RunIs (f : Nat) (n d b : Nat) (l : List (Nat × Nat)) (e : Int) (ls : List Bool) : Prop := ∀ (w : World) (A : Option Addr) (c : Nat), Asks w w.heap.size A l → Calls Try.prog f #[bv n d b, .slice A l.length c] w fun r w' => ∃ v, r = .returned (.tuple #[v, .int .i64 e]) ∧ Bm w w' v ls
theorem run_both (n d b : Nat) (l : List (Nat × Nat)) (hl : l.length ≤ 100000000000000) : ∃ (e : Int) (ls : List Bool), ls.length ≤ l.length ∧ RunIs 22 n d b l e ls ∧ RunIs 23 n d b l e ls := by
  by_cases hm : May n d b
  · by_cases ht : ∀ p ∈ l, p.1 ≤ 1099511627776
    · exact ⟨0, runs n d b 0 l, by rw [runs_len]; exact Nat.le_refl _, fun w A c ha => bp.run_ok w n d b A _ c l hm ha rfl hl ht, fun w A c ha => bk.run_ok w n d b A _ c l hm ha rfl hl ht⟩
    · have he : err n d b (lat l) = 5 := by unfold err; rw [if_pos hm, if_neg (fun h => ht ((lat_le l _).1 h))]
      refine ⟨5, [], Nat.zero_le _, fun w A c ha => (bp.run_err w n d b A _ c l ha rfl hl (by rw [he]; decide)).mono ?_, fun w A c ha => (run_range w n d b A _ c l hm ha rfl hl ht).mono ?_⟩
      · rintro r w' ⟨rfl, k⟩; exact ⟨_, by rw [he], Bm.nil_ k⟩
      · rintro r w' ⟨rfl, k⟩; exact ⟨_, rfl, Bm.nil_ k⟩
  · have he : err n d b (lat l) = 2 := by unfold err; rw [if_neg hm]
    refine ⟨2, [], Nat.zero_le _, fun w A c ha => (bp.run_err w n d b A _ c l ha rfl hl (by rw [he]; decide)).mono ?_, fun w A c ha => (run_no w n d b A _ c hm).mono ?_⟩
    · rintro r w' ⟨rfl, k⟩; exact ⟨_, by rw [he], Bm.nil_ k⟩
    · rintro r w' ⟨rfl, k⟩; exact ⟨_, rfl, Bm.nil_ k⟩
def FitsIs (f : Nat) (n d b : Nat) (l : List (Nat × Nat)) (k : Nat) (e : Int) : Prop := ∀ (w : World) (A : Option Addr) (c : Nat), Asks w w.heap.size A l → Calls Try.prog f #[bv n d b, .slice A l.length c] w fun r w' => r = .returned (.tuple #[.int .i64 (k : Int), .int .i64 e]) ∧ ∀ S, Keeps S w w'
theorem fits_both (n d b : Nat) (l : List (Nat × Nat)) (hl : l.length ≤ 4096) : ∃ (k : Nat) (e : Int), FitsIs 26 n d b l k e ∧ FitsIs 27 n d b l k e := by
  by_cases hm : May n d b
  · by_cases ht : ∀ p ∈ l, p.1 ≤ 1099511627776
    · have hex : ∃ k, IsFits n d b l k := by
        by_cases hf : ∃ j, j < l.length ∧ Full n d b l j
        · have key : ∀ N, (∃ j, j < N ∧ j < l.length ∧ Full n d b l j) → ∃ j, j < l.length ∧ Full n d b l j ∧ ∀ i, i < j → ¬ Full n d b l i := by
            intro N
            induction N with
            | zero => rintro ⟨j, h, _⟩; omega
            | succ N ih =>
              rintro ⟨j, h1, h2, h3⟩
              by_cases hq : ∃ i, i < N ∧ i < l.length ∧ Full n d b l i
              · exact ih hq
              · exact ⟨j, h2, h3, fun i hi hfi => hq ⟨i, by omega, by omega, hfi⟩⟩
          obtain ⟨j, h1, h2⟩ := hf
          obtain ⟨i, h3, h4, h5⟩ := key (j + 1) ⟨j, by omega, h1, h2⟩
          exact ⟨i, by omega, h5, fun _ => h4⟩
        · exact ⟨l.length, Nat.le_refl _, fun j hj h => hf ⟨j, hj, h⟩, fun h => absurd h (Nat.lt_irrefl _)⟩
      obtain ⟨k, hk⟩ := hex
      refine ⟨k, 0, fun w A c ha => (bp.fits_ok w n d b A _ c l hm ha rfl hl ht).mono ?_, fun w A c ha => (bk.fits_ok w n d b A _ c l hm ha rfl hl ht).mono ?_⟩
      · rintro r w' ⟨k2, rfl, h2, kk⟩; exact ⟨by rw [h2.one hk], kk⟩
      · rintro r w' ⟨k2, rfl, h2, kk⟩; exact ⟨by rw [h2.one hk], kk⟩
    · exact ⟨0, 5, fun w A c ha => fits_range' w n d b A _ c l hm ha rfl hl ht, fun w A c ha => fits_range w n d b A _ c l hm ha rfl hl ht⟩
  · exact ⟨0, 2, fun w A c ha => fits_no' w n d b A _ c hm, fun w A c ha => fits_no w n d b A _ c hm⟩
/-- an append that tells where the list lies behind it -/
theorem Bm.wpList_append2 {w wi : World} {v : Value} {l : List Bool} {ops : Array Oper} {rest : List Oper} {o : Oper} {a : Act} {Q : Exit → Act → World → Prop} (hgd : o.guard = none) (s x : Operand)
    (ho : o.op = .call { callee := .builtin .append, args := #[s, x], argTypes := #[38, 38] }) (h : Bm w wi v l) (hs : a.eval s = v)
    (g m c : Nat) (news : List Bool) (hx : a.eval x = .slice (some ⟨g, 0, none⟩) m c) (hm : news.length = m) (hb : Blk wi g 4 (bools news)) (hl : l.length + m ≤ 140737488355327)
    (hk : ∀ v' w', Bm w w' v' (l ++ news) → Keeps (fun b => v.ownBlock = some b) wi w' → (v'.ownBlock = v.ownBlock ∨ v'.ownBlock = some wi.heap.size) → wpList Try.prog ops Q rest (a.put o.dst v') w') : wpList Try.prog ops Q (o :: rest) a wi := by
  obtain ⟨i0, hi0, hz0, hz1, hz2⟩ := info_parts bool_info
  refine wpList_apps hgd s x 38 ho w.heap.size 4 i0 _ 1 1 Try.underlying38 hi0 hz0 hz1 hz2 rfl (by decide) v l.length (bools l) hs h.own ⟨g, 0, none⟩ m c (bools news) hx (by simp [bools, hm]) (fun j u hu => by rw [Addr.add_lit, hb.cell, Nat.zero_add]; exact hu) (fun u hu => by simp only [bools, List.mem_map] at hu; obtain ⟨y, _, rfl⟩ := hu; rfl) (by unfold maxLen; omega) (by omega) (h.keep (fun _ => False)).size ?_
  intro v' w' hown hg hat
  have hlt : ∀ b, v.ownBlock = some b → w.heap.size ≤ b := fun b hb => (h.own.lt b hb).1
  have kk : Keeps (fun b => v.ownBlock = some b) wi w' := Keeps.of_grown hg
  refine hk v' w' ⟨?_, fun S => ?_⟩ kk hat
  · rw [List.length_append, hm, show bools (l ++ news) = bools l ++ bools news from by simp [bools]]; exact hown
  · have k1 := h.keep S
    exact ⟨Nat.le_trans k1.size kk.size, fun b hb hs => by rw [kk.block b (Nat.lt_of_lt_of_le hb k1.size) (fun e => by have := hlt _ e; omega), k1.block b hb hs], k1.same.trans kk.same⟩
end Go.Proofs.Ytbiadglhfpapaaa.bp
