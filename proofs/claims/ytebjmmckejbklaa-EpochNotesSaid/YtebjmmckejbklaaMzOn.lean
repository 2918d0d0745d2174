/-
  on: the thread goes on up to its next operation, or to its end.
-/
import Derived.Test.YtebjmmckejbklaaMzOn2
import Derived.Deep.LoopGhost
import Derived.Deep.Cut
namespace Go.Proofs.Ytebjmmckejbklaa.mz
open Go.RowKit Go.Proofs.Ytebjmmckejbklaa.oc
/-- what a round finds: the thread, with k rounds to come at most -/
def OnRel (B g : Nat) (F : Nat → Prop) (w0 : World) (t' : Th) (k : Nat) (wr : World) : Prop := ∃ t, Th.on k t = some t' ∧ TInv wr B g t (Grown w0 wr F) ∧ Keeps F w0 wr
def OnPost (B g : Nat) (F : Nat → Prop) (w0 : World) (t' : Th) (e : Ending) (wr : World) : Prop := e = .returned (.tuple #[]) ∧ TInv wr B g t' (Grown w0 wr F) ∧ Keeps F w0 wr
theorem ans_info : (Try.prog.info? 91).map (fun i => (i.zero, i.size, i.bytes)) = some (some (.agg #[.bool false, .slice none 0 0]), 2, 32) := by kernel_rfl
set_option maxRecDepth 100000 in
set_option maxHeartbeats 4000000 in
theorem on_all (n B g : Nat) (P : Option Addr) (w : World) (t t' : Th) (F : Nat → Prop) (h : TInv w B g t F) (hB : B ≤ w.heap.size) (ho : Th.on n t = some t') :
    Calls Try.prog 43 #[.pointer (some ⟨g, 0, none⟩), .pointer P] w (OnPost B g F w t') := by
  obtain ⟨i0, hi0, hz0, hz1, hz2⟩ := info_parts ans_info
  have hstart : OnRel B g F w t' n w := ⟨t, ho, h.grown hB, Keeps.refl _ w⟩
  have HS := Lib.hid hstart
  have HB := Lib.hid hB
  have HF := Lib.hid h.above
  clear hstart ho h hB
  go_enter Try.func43, Try.ntmps43
  go_wp2
  go_loopg [4] n (fun k x wr => OnRel B g F w t' k wr)
  case atStart => exact HS.out
  case round =>
    clear HS
    obtain ⟨t, ho, hT, hK⟩ := hrel
    rcases gk with _ | k
    · cases ho
    obtain ⟨cv, v, tvs, h1, h2, h3⟩ := hT.at_
    have hBr : B ≤ wr.heap.size := Nat.le_trans HB.out hK.size
    have q28 : wr.cell? ⟨g, 28, none⟩ = some (.bool t.over) := h1.over
    unfold Th.on at ho
    split at ho
    · rename_i hov
      rw [hov] at q28
      obtain rfl : t = t' := by injection ho
      have HT := Lib.hid hT
      have HK := Lib.hid hK
      clear hT hK ho h1 h2 h3 HB hov
      go_wp2
      go_end0
      exact ⟨rfl, HT.out, HK.out⟩
    · rename_i hov
      have hov : t.over = false := by simpa using hov
      rw [hov] at q28
      have h2' := h2
      obtain ⟨A, cap, rfl, hcs⟩ := h2'
      have q0 : wr.cell? ⟨g, 0, none⟩ = some (.slice A t.calls.length cap) := h1.calls
      have q1 : wr.cell? ⟨g, 1, none⟩ = some (.int .i64 (t.call : Int)) := h1.call
      split at ho
      · rename_i hcl
        have hcl' : decide (t.calls.length ≤ t.call) = true := by simpa using hcl
        have f28 := h1.frozen 28
        obtain rfl : { t with over := true } = t' := by injection ho
        have HT := Lib.hid hT
        have HK := Lib.hid hK
        have HR := Lib.hid hBr
        clear hT hK ho h1 h2 h3 hcs hov hBr
        go_wp2
        go_region
        go_wp2
        go_end0
        have ho := over_done (w' := (wr.setCell ⟨g, 28, none⟩ (.bool true)).drew) HT.out HR.out (((Keeps.refl (· = g) wr).setCell (p := ⟨g, 28, none⟩) (.inl rfl) _).drew) (fun s hs => (hs.setOver true).drew)
        exact ⟨rfl, step_to ho.1 HK.out ho.2 HB.out HF.out⟩
      · rename_i hcl
        have hcl' : decide (t.calls.length ≤ t.call) = false := by simpa using hcl
        have hwf := hT.wf
        obtain ⟨nn, hv⟩ : ∃ A' c', v = .slice A' t.ans.length c' := by
          rcases h3.row.2 with ⟨e, e'⟩ | ⟨gg, cc, cur, e, _⟩
          · exact ⟨none, 0, by rw [e, e']⟩
          · exact ⟨_, _, e⟩
        obtain ⟨nc, rfl⟩ := hv
        have q27 : wr.cell? ⟨g, 27, none⟩ = some (.slice nn t.ans.length nc) := h1.ans
        have f27 := h1.frozen 27
        have hlen : t.ans.length < 1000001 := by have := hwf.calls; rcases hwf.ans with e | e <;> omega
        have HN1 := Lib.hid (new_pair wr (.bool false) (.slice none 0 0) 91)
        have HN2 := Lib.hid pair_one
        have HN3 := Lib.hid (show t.ans.length + 1 ≤ maxLen by unfold maxLen; omega)
        have HN4 := Lib.hid (show (t.ans.length + 1) * 32 ≤ 140737488355328 by omega)
        have HN5 := Lib.hid (show B ≤ (wr.alloc (.cells #[.bool false, .slice none 0 0] 91)).drew.drew.heap.size from by show B ≤ (wr.heap.push _).size; simp; omega)
        have HN6 := Lib.hid (show ∀ w3, (wr.alloc (.cells #[.bool false, .slice none 0 0] 91)).drew.drew.grownBy w3 (Value.slice nn t.ans.length nc).ownBlock → w3.cell? ⟨g, 27, none⟩ = some (.slice nn t.ans.length nc) from fun w3 hg => by
          exact hg.cell (a := ⟨g, 27, none⟩) ((World.cell?_alloc_lt wr _ ⟨g, 27, none⟩ h1.blk.lt).trans q27) (fun e => (h3.foot g e.symm).2 rfl))
        have HN7 := Lib.hid (show ∀ w3, (wr.alloc (.cells #[.bool false, .slice none 0 0] 91)).drew.drew.grownBy w3 (Value.slice nn t.ans.length nc).ownBlock → w3.frozen? ⟨g, 27, none⟩ = false from fun w3 hg =>
          (Blk.grown ((h1.blk.alloc _).drew.drew) hg (fun e => (h3.foot g e.symm).2 rfl)).frozen _)
        by_cases hb : t.ans.length = t.call
        · have hbd : (((t.ans.length : Nat) : Int) == ((t.call : Nat) : Int)) = true := by rw [hb]; exact beq_self_eq_true _
          have HH := Lib.hid hb
          have HT := Lib.hid hT
          have HK := Lib.hid hK
          have HR := Lib.hid hBr
          have HW := Lib.hid hwf
          have H1 := Lib.hid h1
          have H2 := Lib.hid h2
          have H3 := Lib.hid h3
          have HO := Lib.hid ho
          have HC := Lib.hid hcl
          clear hT hK ho h1 h2 h3 hcs hov hBr hb hwf hcl
          go_wp2
          go_region
          go_wp2
          go_region
          go_wp2_with ((at_builtin; refine wpList_apps rfl _ _ 92 rfl B 91 i0 _ 2 32 Try.underlying92 hi0 hz0 hz1 hz2 rfl (by decide) (.slice nn t.ans.length nc) t.ans.length (flat t.ans tvs) rfl (H3.out.row.alloc _).drew.drew ⟨wr.heap.size, 0, none⟩ 1 1 [.bool false, .slice none 0 0] rfl rfl HN1.out HN2.out HN3.out HN4.out HN5.out ?_; intro v' w3 hown' hgrow hat'; obtain ⟨g2, cap2, rfl, hg20, hg21⟩ := hown'.form (Nat.succ_pos _); have HQ1 := Lib.hid hown'; have HQ2 := Lib.hid hgrow; have HQ3 := Lib.hid hat'; have c27 := HN6.out _ hgrow; have d27 := HN7.out _ hgrow; clear hown' hgrow hat'))
          have hp := begun_done HT.out HR.out H1.out H2.out H3.out HH.out (fun S => ((Keeps.refl S wr).alloc _).drew.drew) HQ1.out HQ2.out HQ3.out
          obtain ⟨w4, hw4⟩ : ∃ w4, w4 = w3.setCell ⟨g, 27, none⟩ (.slice (some ⟨g2, 0, none⟩) (t.ans.length + 1) cap2) := ⟨_, rfl⟩
          rw [← hw4]
          rw [← hw4] at hp
          have hp4 := step_to hp.1 HK.out hp.2 HB.out HF.out
          have HT4 := Lib.hid hp4.1
          have HK4 := Lib.hid hp4.2
          have HB4 := Lib.hid (Nat.le_trans HB.out hp4.2.size)
          clear hp hp4 hw4 HQ1 HQ2 HQ3 HN1 HN2 HN3 HN4 HN5 HN6 HN7 H1 H2 H3 HT HK HR c27 d27 q0 q1 q27 q28 f27
          obtain ⟨x, hx⟩ : ∃ x, t.begun.ins = x := ⟨_, rfl⟩
          have HX := Lib.hid hx
          clear hx
          refine (next_is B g _ _ _ HT4.out (by rw [(begun_call t).1, (begun_call t).2.1]; exact Nat.lt_of_not_le HC.out) x HX.out).mono ?_
          rintro e w5 ⟨rfl, hk5⟩
          have HK5 := Lib.hid hk5
          clear hk5
          go_wp2_with fail
          obtain ⟨w6, hw6, ks6, c6⟩ := enter_box w5 #[.int .i64 (x.op : Int), .int .i64 (x.on : Int), .int .i64 (x.a : Int), .int .i64 (x.b : Int), .int .i64 (x.c : Int), .int .i64 (x.d : Int), .int .u64 (x.n : Int)] 119
          rw [← hw6]
          have hp6 := tinv_on HT4.out (fun S => (HK5.out S).trans (ks6 S)) HK4.out HB.out HF.out
          have e0 : w6.cell? ⟨w5.heap.size, 0, none⟩ = some (.int .i64 (x.op : Int)) := c6 0
          have e1 : w6.cell? ⟨w5.heap.size, 1, none⟩ = some (.int .i64 (x.on : Int)) := c6 1
          have e2 : w6.cell? ⟨w5.heap.size, 2, none⟩ = some (.int .i64 (x.a : Int)) := c6 2
          have e3 : w6.cell? ⟨w5.heap.size, 3, none⟩ = some (.int .i64 (x.b : Int)) := c6 3
          have e4 : w6.cell? ⟨w5.heap.size, 4, none⟩ = some (.int .i64 (x.c : Int)) := c6 4
          have e5 : w6.cell? ⟨w5.heap.size, 5, none⟩ = some (.int .i64 (x.d : Int)) := c6 5
          have e6 : w6.cell? ⟨w5.heap.size, 6, none⟩ = some (.int .u64 (x.n : Int)) := c6 6
          have HT6 := Lib.hid hp6.1
          have HK6 := Lib.hid hp6.2
          have HB6 : Hid (B ≤ w6.heap.size) := Lib.hid (Nat.le_trans HB.out hp6.2.size)
          have HO' := HO.out
          rw [HX.out] at HO'
          clear hw6 ks6 c6 hp6 HT4 HK4 HB4 HK5 HO
          by_cases hop : isOp x = true
          · rw [if_pos hop] at HO'
            obtain rfl : t.begun = t' := by injection HO'
            have hop' : 1 ≤ x.op ∧ x.op ≤ 5 := by simpa [isOp] using hop
            refine (told_yes x.op _ hop'.1 hop'.2).mono ?_
            rintro e w7 ⟨rfl, rfl⟩
            clear hop hop' HO'
            go_wp2
            go_end0
            exact ⟨rfl, HT6.out, HK6.out⟩
          · rw [if_neg hop] at HO'
            have hop' : ¬ (1 ≤ x.op ∧ x.op ≤ 5) := by simpa [isOp] using hop
            refine (told_no x.op _ hop').mono ?_
            rintro e w7 ⟨rfl, rfl⟩
            clear hop hop'
            by_cases h23 : x.op = 23
            · rw [if_pos h23] at HO'
              have hd : (((x.op : Nat) : Int) == 23) = true := by rw [h23]; rfl
              obtain ⟨cv6, v6, tvs6, a1, a2, a3⟩ := HT6.out.at_
              have hbl := begun_len2 HW.out
              obtain ⟨A6, cap6, cs6, rfl, hA1, hA2, hA3, hA4, hA5, hA6⟩ := a3.blk (by omega)
              have hm6 : t.begun.call < t.begun.ans.length := by omega
              have q1 : w6.cell? ⟨g, 1, none⟩ = some (.int .i64 (t.begun.call : Int)) := a1.call
              have q2 : w6.cell? ⟨g, 2, none⟩ = some (.int .i64 (t.begun.at_ : Int)) := a1.at_
              have q27 : w6.cell? ⟨g, 27, none⟩ = some (.slice (some ⟨A6, 0, none⟩) t.begun.ans.length cap6) := a1.ans
              have qA : w6.cell? ⟨A6, t.begun.call * 2, none⟩ = some (.bool (t.begun.ans.getD t.begun.call (false, [])).1) := by
                rw [hA2.cell, ← (flat_at _ _ _ _ _ (getD_of hm6) (getD_of (d := .bool false) (by rw [a3.len]; exact hm6))).1, ← hA6, List.getElem?_take, if_pos (by omega)]
              have fA : w6.frozen? ⟨A6, t.begun.call * 2, none⟩ = false := hA2.frozen _
              have f1 := a1.frozen 1
              have f2 := a1.frozen 2
              have hne : A6 ≠ g := (a3.foot A6 rfl).2
              have hsm : t.begun.call < 1000000 := by rw [(begun_call t).1]; have := HC.out; have := HW.out.calls; omega
              have HTH := Lib.hid (show ((((w6.setCell ⟨A6, t.begun.call * 2, none⟩ (.bool true)).setCell ⟨g, 1, none⟩ (.int .i64 ((t.begun.call : Int) + 1))).setCell ⟨g, 2, none⟩ (.int .i64 0))).drew.there g 3 24 from
                (((a1.keeps ((Keeps.refl (· = A6) w6).setCell (p := ⟨A6, t.begun.call * 2, none⟩) (.inl rfl) _) (fun e => hne e.symm)).setCall (t.begun.call + 1)).goto 0).drew.there)
              have A1 := Lib.hid a1
              have A2 := Lib.hid a2
              have A3 := Lib.hid a3
              have HL := Lib.hid hbl
              have HO2 := Lib.hid HO'
              have H23 := Lib.hid h23
              clear a1 a2 a3 hbl hA1 hA2 hA3 hA4 hA5 hA6 HO' h23
              go_wp2
              go_region
              go_upto_region 11 with (fail)
              go_wp2_with ((with_reducible show wpList _ _ _ (_ :: []) _ _); refine wpList_store_mid rfl 112 (.tmp 75) (.tmp 73) rfl g 3 (Array.replicate 24 (.int .u64 0)) ?a1 ?a2 ?a3 ?a4 ?a5 ?_)
              case a1 => rfl
              case a2 => rfl
              case a3 => exact HTH.out
              case a4 => kernel_rfl
              case a5 => kernel_rfl
              have hf := finish_done (w' := ((((w6.setCell ⟨A6, t.begun.call * 2, none⟩ (.bool true)).setCell ⟨g, 1, none⟩ (.int .i64 ((t.begun.call : Int) + 1))).setCell ⟨g, 2, none⟩ (.int .i64 0)).drew.setCells g 3 (List.replicate 24 (.int .u64 0)))) HT6.out HB6.out A1.out A2.out A3.out HL.out rfl
              go_roundg k
              case rel =>
                have e24 : (Array.replicate 24 (Value.int .u64 0)).toList = List.replicate 24 (Value.int .u64 0) := by simp
                rw [e24]
                exact ⟨t.begun.finish, HO2.out, step_to hf.1 HK6.out hf.2 HB.out HF.out⟩
              case measure => omega
            · rw [if_neg h23] at HO'
              have hd : (((x.op : Nat) : Int) == 23) = false := by simpa using (fun e => h23 (Int.ofNat.inj e))
              cases how : t.begun.own with
              | none => rw [how] at HO'; cases HO'
              | some t2 =>
                rw [how] at HO'
                have HO2 := Lib.hid HO'
                have H23 := Lib.hid h23
                have HOW := Lib.hid how
                clear HO' h23 how
                go_wp2_with fail
                refine (own_is B g P _ t.begun t2 _ HT6.out HB6.out (begun_len2 HW.out) x HX.out H23.out HOW.out).mono ?_
                rintro e w7 hpo
                have HPO := Lib.hid hpo
                clear hpo
                obtain ⟨rfl, _⟩ := HPO.out
                go_wp2_with fail
                go_roundg k
                case rel =>
                  exact ⟨t2, HO2.out, step_to HPO.out.2.1 HK6.out HPO.out.2.2 HB.out HF.out⟩
                case measure => omega
        · have hbd : (((t.ans.length : Nat) : Int) == ((t.call : Nat) : Int)) = false := by simpa using (fun e => hb (Int.ofNat.inj e))
          have HH := Lib.hid hb
          have HT := Lib.hid hT
          have HK := Lib.hid hK
          have HR := Lib.hid hBr
          have HW := Lib.hid hwf
          have HO := Lib.hid ho
          have HC := Lib.hid hcl
          clear hT hK ho h1 h2 h3 hcs hov hBr hb hwf hcl HN1 HN2 HN3 HN4 HN5 HN6 HN7
          go_wp2
          go_region
          go_wp2
          go_region
          go_wp2_with fail
          obtain ⟨w4, hw4⟩ : ∃ w4, w4 = wr.drew.drew := ⟨_, rfl⟩
          rw [← hw4]
          have hp4 := tinv_on (w6 := w4) (begun_same HT.out HH.out) (fun S => by rw [hw4]; exact (Keeps.refl S wr).drew.drew) HK.out HB.out HF.out
          have HT4 := Lib.hid hp4.1
          have HK4 := Lib.hid hp4.2
          have HB4 := Lib.hid (Nat.le_trans HB.out hp4.2.size)
          clear hp4 hw4 HT HK HR q0 q1 q27 q28 f27
          obtain ⟨x, hx⟩ : ∃ x, t.begun.ins = x := ⟨_, rfl⟩
          have HX := Lib.hid hx
          clear hx
          refine (next_is B g _ _ _ HT4.out (by rw [(begun_call t).1, (begun_call t).2.1]; exact Nat.lt_of_not_le HC.out) x HX.out).mono ?_
          rintro e w5 ⟨rfl, hk5⟩
          have HK5 := Lib.hid hk5
          clear hk5
          go_wp2_with fail
          obtain ⟨w6, hw6, ks6, c6⟩ := enter_box w5 #[.int .i64 (x.op : Int), .int .i64 (x.on : Int), .int .i64 (x.a : Int), .int .i64 (x.b : Int), .int .i64 (x.c : Int), .int .i64 (x.d : Int), .int .u64 (x.n : Int)] 119
          rw [← hw6]
          have hp6 := tinv_on HT4.out (fun S => (HK5.out S).trans (ks6 S)) HK4.out HB.out HF.out
          have e0 : w6.cell? ⟨w5.heap.size, 0, none⟩ = some (.int .i64 (x.op : Int)) := c6 0
          have e1 : w6.cell? ⟨w5.heap.size, 1, none⟩ = some (.int .i64 (x.on : Int)) := c6 1
          have e2 : w6.cell? ⟨w5.heap.size, 2, none⟩ = some (.int .i64 (x.a : Int)) := c6 2
          have e3 : w6.cell? ⟨w5.heap.size, 3, none⟩ = some (.int .i64 (x.b : Int)) := c6 3
          have e4 : w6.cell? ⟨w5.heap.size, 4, none⟩ = some (.int .i64 (x.c : Int)) := c6 4
          have e5 : w6.cell? ⟨w5.heap.size, 5, none⟩ = some (.int .i64 (x.d : Int)) := c6 5
          have e6 : w6.cell? ⟨w5.heap.size, 6, none⟩ = some (.int .u64 (x.n : Int)) := c6 6
          have HT6 := Lib.hid hp6.1
          have HK6 := Lib.hid hp6.2
          have HB6 : Hid (B ≤ w6.heap.size) := Lib.hid (Nat.le_trans HB.out hp6.2.size)
          have HO' := HO.out
          rw [HX.out] at HO'
          clear hw6 ks6 c6 hp6 HT4 HK4 HB4 HK5 HO
          by_cases hop : isOp x = true
          · rw [if_pos hop] at HO'
            obtain rfl : t.begun = t' := by injection HO'
            have hop' : 1 ≤ x.op ∧ x.op ≤ 5 := by simpa [isOp] using hop
            refine (told_yes x.op _ hop'.1 hop'.2).mono ?_
            rintro e w7 ⟨rfl, rfl⟩
            clear hop hop' HO'
            go_wp2
            go_end0
            exact ⟨rfl, HT6.out, HK6.out⟩
          · rw [if_neg hop] at HO'
            have hop' : ¬ (1 ≤ x.op ∧ x.op ≤ 5) := by simpa [isOp] using hop
            refine (told_no x.op _ hop').mono ?_
            rintro e w7 ⟨rfl, rfl⟩
            clear hop hop'
            by_cases h23 : x.op = 23
            · rw [if_pos h23] at HO'
              have hd : (((x.op : Nat) : Int) == 23) = true := by rw [h23]; rfl
              obtain ⟨cv6, v6, tvs6, a1, a2, a3⟩ := HT6.out.at_
              have hbl := begun_len2 HW.out
              obtain ⟨A6, cap6, cs6, rfl, hA1, hA2, hA3, hA4, hA5, hA6⟩ := a3.blk (by omega)
              have hm6 : t.begun.call < t.begun.ans.length := by omega
              have q1 : w6.cell? ⟨g, 1, none⟩ = some (.int .i64 (t.begun.call : Int)) := a1.call
              have q2 : w6.cell? ⟨g, 2, none⟩ = some (.int .i64 (t.begun.at_ : Int)) := a1.at_
              have q27 : w6.cell? ⟨g, 27, none⟩ = some (.slice (some ⟨A6, 0, none⟩) t.begun.ans.length cap6) := a1.ans
              have qA : w6.cell? ⟨A6, t.begun.call * 2, none⟩ = some (.bool (t.begun.ans.getD t.begun.call (false, [])).1) := by
                rw [hA2.cell, ← (flat_at _ _ _ _ _ (getD_of hm6) (getD_of (d := .bool false) (by rw [a3.len]; exact hm6))).1, ← hA6, List.getElem?_take, if_pos (by omega)]
              have fA : w6.frozen? ⟨A6, t.begun.call * 2, none⟩ = false := hA2.frozen _
              have f1 := a1.frozen 1
              have f2 := a1.frozen 2
              have hne : A6 ≠ g := (a3.foot A6 rfl).2
              have hsm : t.begun.call < 1000000 := by rw [(begun_call t).1]; have := HC.out; have := HW.out.calls; omega
              have HTH := Lib.hid (show ((((w6.setCell ⟨A6, t.begun.call * 2, none⟩ (.bool true)).setCell ⟨g, 1, none⟩ (.int .i64 ((t.begun.call : Int) + 1))).setCell ⟨g, 2, none⟩ (.int .i64 0))).drew.there g 3 24 from
                (((a1.keeps ((Keeps.refl (· = A6) w6).setCell (p := ⟨A6, t.begun.call * 2, none⟩) (.inl rfl) _) (fun e => hne e.symm)).setCall (t.begun.call + 1)).goto 0).drew.there)
              have A1 := Lib.hid a1
              have A2 := Lib.hid a2
              have A3 := Lib.hid a3
              have HL := Lib.hid hbl
              have HO2 := Lib.hid HO'
              have H23 := Lib.hid h23
              clear a1 a2 a3 hbl hA1 hA2 hA3 hA4 hA5 hA6 HO' h23
              go_wp2
              go_region
              go_upto_region 11 with (fail)
              go_wp2_with ((with_reducible show wpList _ _ _ (_ :: []) _ _); refine wpList_store_mid rfl 112 (.tmp 75) (.tmp 73) rfl g 3 (Array.replicate 24 (.int .u64 0)) ?a1 ?a2 ?a3 ?a4 ?a5 ?_)
              case a1 => rfl
              case a2 => rfl
              case a3 => exact HTH.out
              case a4 => kernel_rfl
              case a5 => kernel_rfl
              have hf := finish_done (w' := ((((w6.setCell ⟨A6, t.begun.call * 2, none⟩ (.bool true)).setCell ⟨g, 1, none⟩ (.int .i64 ((t.begun.call : Int) + 1))).setCell ⟨g, 2, none⟩ (.int .i64 0)).drew.setCells g 3 (List.replicate 24 (.int .u64 0)))) HT6.out HB6.out A1.out A2.out A3.out HL.out rfl
              go_roundg k
              case rel =>
                have e24 : (Array.replicate 24 (Value.int .u64 0)).toList = List.replicate 24 (Value.int .u64 0) := by simp
                rw [e24]
                exact ⟨t.begun.finish, HO2.out, step_to hf.1 HK6.out hf.2 HB.out HF.out⟩
              case measure => omega
            · rw [if_neg h23] at HO'
              have hd : (((x.op : Nat) : Int) == 23) = false := by simpa using (fun e => h23 (Int.ofNat.inj e))
              cases how : t.begun.own with
              | none => rw [how] at HO'; cases HO'
              | some t2 =>
                rw [how] at HO'
                have HO2 := Lib.hid HO'
                have H23 := Lib.hid h23
                have HOW := Lib.hid how
                clear HO' h23 how
                go_wp2_with fail
                refine (own_is B g P _ t.begun t2 _ HT6.out HB6.out (begun_len2 HW.out) x HX.out H23.out HOW.out).mono ?_
                rintro e w7 hpo
                have HPO := Lib.hid hpo
                clear hpo
                obtain ⟨rfl, _⟩ := HPO.out
                go_wp2_with fail
                go_roundg k
                case rel =>
                  exact ⟨t2, HO2.out, step_to HPO.out.2.1 HK6.out HPO.out.2.2 HB.out HF.out⟩
                case measure => omega
end Go.Proofs.Ytebjmmckejbklaa.mz
