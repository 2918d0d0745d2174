/-
  PacketBack: for every input the law returns true and every argument reads afterwards as it read before. No condition but the form's own reach.
-/
import Derived.Test.YtidengmcbppcoaaPlJ
import Derived.Test.YtidengmcbppcoaaOcOpen
import Derived.Test.YtidengmcbppcoaaRows
import Derived.Test.YtidengmcbppcoaaPlM
import Derived.ShutString
import Derived.ChangeOld
set_option linter.unusedVariables false
set_option linter.unusedSimpArgs false
namespace Go.Proofs.Ytidengmcbppcoaa.pk
open Go.RowKit Go.Proofs.Ytidengmcbppcoaa.oc Go.Proofs.Ytidengmcbppcoaa.mz Go.Proofs.Ytidengmcbppcoaa.pf Go.Proofs.Ytidengmcbppcoaa.wh Go.Proofs.Ytidengmcbppcoaa.qk Go.Proofs.Ytidengmcbppcoaa.bys
theorem may_less {h : Hd} : May (less h) ↔ May h := ⟨fun m => ⟨m.a, m.b, m.v, m.i, m.j, m.f, m.p⟩, fun m => ⟨m.a, m.b, m.v, m.i, m.j, m.f, m.p⟩⟩
theorem chk_less {h : Hd} (hc : chkE h = 0) : chkE (less h) = 0 := by
  have h1 := chk_may hc
  have h2 := chk_ok hc
  unfold chkE
  rw [if_neg (fun z => z (may_less.2 h1)), if_neg ?_]
  show ¬ 2048 < fsz h + mids h.pr + h.dat.length
  omega
theorem be_sm (k v : Nat) : Small (be k v) := be_small k v
theorem fill_small {l : List Nat} (hl : Small l) (p s : Nat) (hs : s < 65536) : Small (fillp l p s) := fun x hx => by
  unfold fillp at hx
  rcases List.mem_or_eq_of_mem_set hx with q | q
  · rcases List.mem_or_eq_of_mem_set q with q | q
    · exact hl x q
    · omega
  · omega
theorem make_small {h : Hd} (hw : h.Wf) : Small (make h) := by
  rw [make_eq]
  refine Small.append ?_ ?_
  · unfold front
    split
    · unfold six
      refine ((((be_small _ _).append (be_small _ _)).append ?_).append hw.s.sm).append hw.d.sm
      intro x hx
      simp at hx
      rcases hx with rfl | rfl
      · exact hw.p
      · exact hw.t
    · exact fill_small (four0_small h hw _) _ _ (by have := csum_le (four0 h (bod h).length); omega)
  · unfold bod
    split
    · exact (mid_small hw).append hw.b
    · exact fill_small ((mid_small hw).append hw.b) _ _ (sumv_lt _ _)
theorem make_length {h : Hd} (hw : h.Wf) (hc : chkE h = 0) : (make h).length ≤ 2048 ∧ 20 ≤ (make h).length := by
  have h2 := chk_ok hc
  rw [make_eq, List.length_append, front_length h hw, bod_len]
  have : 20 ≤ fsz h := by unfold fsz; split <;> omega
  omega
theorem read_made {h : Hd} (hw : h.Wf) (hc : chkE h = 0) : rdd (make h) = (h, (make h).length, 0) := by
  have := read_make hw hc []
  rwa [List.append_nil] at this
theorem old_made {h : Hd} (hw : h.Wf) (hc : chkE h = 0) (ht : h.ttl ≠ 0) : old (make h) = (make (less h), 0) := by
  unfold old
  rw [read_made hw hc]
  dsimp only
  rw [if_neg (fun z => z rfl), if_neg ht, chk_less hc, show mk (less h) = make (less h) from if_pos (chk_less hc)]
theorem old_last {h : Hd} (hw : h.Wf) (hc : chkE h = 0) (ht : h.ttl = 0) : old (make h) = ([], 3) := by
  unfold old
  rw [read_made hw hc]
  dsimp only
  rw [if_neg (fun z => z rfl), if_pos ht]
section
variable (w : World)
theorem rfit_ (h : Hd) (A : Option Addr) (n c : Nat) (hw : h.Wf) (hl : h.dat.length = n) (hn : n ≤ 140737488355328) (hr : Rd w w.heap.size A (by_ h.dat)) :
    Calls Try.prog 22 #[hvv h (.slice A n c)] w fun e w' => ∃ v, e = .returned (hvv (fit h) v) ∧ By w w' v (fit h).dat := by
  cases hv : h.src.v6 with
  | true =>
    rcases p_cases h.pr with e | e | ⟨h6, h7⟩
    · exact rfit_t6 w h A n c hw hl hn hr hv e
    · exact rfit_t17 w h A n c hw hl hn hr hv e
    · exact rfit_tn w h A n c hw hl hn hr hv h6 h7
  | false =>
    rcases p_cases h.pr with e | e | ⟨h6, h7⟩
    · exact rfit_f6 w h A n c hw hl hn hr hv e
    · exact rfit_f17 w h A n c hw hl hn hr hv e
    · exact rfit_fn w h A n c hw hl hn hr hv h6 h7
end
end Go.Proofs.Ytidengmcbppcoaa.pk
set_option linter.unusedVariables false
set_option linter.unusedSimpArgs false
namespace Go.Proofs.Ytidengmcbppcoaa.pk
open Go.RowKit Go.Proofs.Ytidengmcbppcoaa.oc Go.Proofs.Ytidengmcbppcoaa.mz Go.Proofs.Ytidengmcbppcoaa.pf Go.Proofs.Ytidengmcbppcoaa.wh Go.Proofs.Ytidengmcbppcoaa.qk Go.Proofs.Ytidengmcbppcoaa.bys
theorem bad3 {a b : Hd} {m n : Nat} {x y : Int} (e : (a, m, x) = (b, n, y)) (h : x ≠ y) : False := h (congrArg (fun z : Hd × Nat × Int => z.2.2) e)
theorem getD_take {l : List Nat} {i k : Nat} (h : k < i) : (l.take i).getD k 0 = l.getD k 0 := by
  rw [List.getD_eq_getElem?_getD, List.getD_eq_getElem?_getD, List.getElem?_take_of_lt h]
theorem num2_take {l : List Nat} {i p : Nat} (h : p + 2 ≤ i) : num2 (l.take i) p = num2 l p := by
  unfold num2
  rw [List.drop_take, List.take_take, Nat.min_eq_left (by omega)]
theorem front_nums {h : Hd} (hw : h.Wf) (hc : chkE h = 0) (h4 : h.src.v6 = false) : (make h).getD 0 0 = 69 ∧ num2 (make h) 6 = 16384 ∧ num2 (make h) 2 = (make h).length ∧ 20 ≤ (make h).length := by
  have e := (front_four_back hw hc h4 []).1
  rw [List.append_nil] at e
  have hl := read_made hw hc
  have hlen := make_length hw hc
  unfold rdF at e
  by_cases z0 : (make h).length = 0
  · rw [if_pos z0] at e; exact (bad3 e (by decide)).elim
  · rw [if_neg z0] at e
    by_cases z4 : (make h).getD 0 0 / 16 = 4
    · rw [if_pos z4] at e
      unfold rd4 at e
      by_cases y1 : (make h).length < 20
      · rw [if_pos y1] at e; exact (bad3 e (by decide)).elim
      · rw [if_neg y1] at e
        by_cases y2 : (make h).getD 0 0 ≠ 69
        · rw [if_pos y2] at e; exact (bad3 e (by decide)).elim
        · rw [if_neg y2] at e
          by_cases y3 : num2 (make h) 6 ≠ 16384
          · rw [if_pos y3] at e; exact (bad3 e (by decide)).elim
          · rw [if_neg y3] at e
            refine ⟨Classical.not_not.1 y2, Classical.not_not.1 y3, ?_, hlen.2⟩
            have hb : (make h).length = 20 + (bod h).length := by
              rw [make_eq, List.length_append, front_length h hw]
              unfold fsz
              rw [if_neg (by rw [h4]; decide)]
            by_cases y4 : sizeE (make h).length (num2 (make h) 2) 20 ≠ 0
            · rw [if_pos y4] at e
              have := congrArg (fun x : Hd × Nat × Int => x.2.2) e
              exact absurd this y4
            · rw [if_neg y4] at e
              by_cases y5 : num2 (make h) 10 ≠ csum ((make h).take 10 ++ ((make h).drop 12).take 8)
              · rw [if_pos y5] at e; exact (bad3 e (by decide)).elim
              · rw [if_neg y5] at e
                have := congrArg (fun x : Hd × Nat × Int => x.2.1) e
                dsimp only at this
                omega
    · rw [if_neg z4] at e
      by_cases z6 : (make h).getD 0 0 / 16 = 6
      · rw [if_pos z6] at e
        unfold rd6 at e
        by_cases y1 : (make h).length < 40
        · rw [if_pos y1] at e; exact (bad3 e (by decide)).elim
        · rw [if_neg y1] at e
          by_cases y4 : sizeE (make h).length (40 + num2 (make h) 4) 40 ≠ 0
          · rw [if_pos y4] at e
            have := congrArg (fun x : Hd × Nat × Int => x.2.2) e
            exact absurd this y4
          · rw [if_neg y4] at e
            have := congrArg (fun x : Hd × Nat × Int => x.1.src.v6) e
            dsimp only [hd6, hfr, ad6] at this
            rw [h4] at this
            cases this
      · rw [if_neg z6] at e; exact (bad3 e (by decide)).elim
theorem front_nums6 {h : Hd} (hw : h.Wf) (hc : chkE h = 0) (h6 : h.src.v6 = true) : (make h).getD 0 0 / 16 = 6 ∧ 40 + num2 (make h) 4 = (make h).length ∧ 40 ≤ (make h).length := by
  have e := (front_six_back hw hc h6 []).1
  rw [List.append_nil] at e
  have hb : (make h).length = 40 + (bod h).length := by
    rw [make_eq, List.length_append, front_length h hw]
    unfold fsz
    rw [if_pos h6]
  unfold rdF at e
  by_cases z0 : (make h).length = 0
  · rw [if_pos z0] at e; exact (bad3 e (by decide)).elim
  · rw [if_neg z0] at e
    by_cases z4 : (make h).getD 0 0 / 16 = 4
    · rw [if_pos z4] at e
      exfalso
      have hv := congrArg (fun x : Hd × Nat × Int => x.1.src.v6) e
      have h5 := congrArg (fun x : Hd × Nat × Int => x.2.2) e
      unfold rd4 at hv h5
      by_cases y1 : (make h).length < 20
      · rw [if_pos y1] at h5; cases h5
      · rw [if_neg y1] at hv h5
        by_cases y2 : (make h).getD 0 0 ≠ 69
        · rw [if_pos y2] at h5; cases h5
        · rw [if_neg y2] at hv h5
          by_cases y3 : num2 (make h) 6 ≠ 16384
          · rw [if_pos y3] at h5; cases h5
          · rw [if_neg y3] at hv h5
            by_cases y4 : sizeE (make h).length (num2 (make h) 2) 20 ≠ 0
            · rw [if_pos y4] at h5; exact y4 h5
            · rw [if_neg y4] at hv h5
              by_cases y5 : num2 (make h) 10 ≠ csum ((make h).take 10 ++ ((make h).drop 12).take 8)
              · rw [if_pos y5] at h5; cases h5
              · rw [if_neg y5] at hv
                dsimp only [hd4, hfr, ad4] at hv
                rw [h6] at hv
                cases hv
    · rw [if_neg z4] at e
      by_cases z6 : (make h).getD 0 0 / 16 = 6
      · rw [if_pos z6] at e
        refine ⟨z6, ?_, by omega⟩
        have h5 := congrArg (fun x : Hd × Nat × Int => x.2.2) e
        have hn := congrArg (fun x : Hd × Nat × Int => x.2.1) e
        unfold rd6 at h5 hn
        rw [if_neg (by omega)] at h5 hn
        by_cases y4 : sizeE (make h).length (40 + num2 (make h) 4) 40 ≠ 0
        · rw [if_pos y4] at h5; exact absurd h5 y4
        · rw [if_neg y4] at hn
          dsimp only at hn
          omega
      · rw [if_neg z6] at e; exact (bad3 e (by decide)).elim
/-- a packet that is cut off anywhere is short -/
theorem cut_short {h : Hd} (hw : h.Wf) (hc : chkE h = 0) {i : Nat} (hi : i < (make h).length) : rdd ((make h).take i) = (hz, 0, 160) := by
  have hl : ((make h).take i).length = i := by rw [List.length_take]; omega
  have hlen := make_length hw hc
  have key : rdF ((make h).take i) = (hz, 0, 160) := by
    unfold rdF
    by_cases z0 : i = 0
    · rw [if_pos (by omega)]
    · rw [if_neg (by omega), getD_take (by omega)]
      cases hv : h.src.v6 with
      | false =>
        obtain ⟨g0, g6, g2, g20⟩ := front_nums hw hc hv
        rw [g0, if_pos (by decide)]
        unfold rd4
        by_cases y1 : i < 20
        · rw [if_pos (by omega)]
        · rw [if_neg (by omega), getD_take (by omega), g0, if_neg (by decide), num2_take (by omega), g6, if_neg (by decide), num2_take (by omega), g2, hl]
          have es : sizeE i (make h).length 20 = 160 := by unfold sizeE; rw [if_neg (by omega), if_pos (by omega)]
          rw [es, if_pos (by decide)]
      | true =>
        obtain ⟨g0, g4, g40⟩ := front_nums6 hw hc hv
        rw [g0, if_neg (by decide), if_pos (by decide)]
        unfold rd6
        by_cases y1 : i < 40
        · rw [if_pos (by omega)]
        · rw [if_neg (by omega), num2_take (by omega), g4, hl]
          have es : sizeE i (make h).length 40 = 160 := by unfold sizeE; rw [if_neg (by omega), if_pos (by omega)]
          rw [es, if_pos (by decide)]
  unfold rdd
  rw [key]
  rw [if_pos (by decide)]
end Go.Proofs.Ytidengmcbppcoaa.pk
set_option linter.unusedVariables false
set_option linter.unusedSimpArgs false
namespace Go.Proofs.Ytidengmcbppcoaa.pk
open Go.RowKit Go.Proofs.Ytidengmcbppcoaa.oc Go.Proofs.Ytidengmcbppcoaa.mz Go.Proofs.Ytidengmcbppcoaa.pf Go.Proofs.Ytidengmcbppcoaa.wh Go.Proofs.Ytidengmcbppcoaa.qk Go.Proofs.Ytidengmcbppcoaa.bys
theorem below_b {w w1 : World} (k : ∀ S, Keeps S w w1) : Below w.heap.size w w1 := ⟨(k (fun _ => False)).same.1, (k (fun _ => False)).same.2, (k (fun _ => False)).same.3, (k (fun _ => False)).size, fun b hb => (k (fun _ => False)).block b hb (fun z => z)⟩
theorem rd_puts {w w1 : World} {B G : Nat} {A : Option Addr} {xs : List Value} (h : Rd w B A xs) (k : Keeps (· = G) w w1) (hG : B ≤ G) : Rd w1 B A xs := rd_put h k hG
section
variable (w : World)
set_option maxRecDepth 100000 in
set_option maxHeartbeats 4000000 in
theorem walk_packetBack (h : Hd) (hw : h.Wf) (A : Option Addr) (n c : Nat) (hl : h.dat.length = n) (hc : n ≤ c) (hz_ : c ≤ 140737488351232) (hr : Rd w w.heap.size A (by_ h.dat)) (A2 : Option Addr) (n2 c2 : Nat) (l2 : List Nat) (hb2 : IsNums .u8 256 w A2 n2 c2 l2) (hz2 : c2 ≤ 140737488351232) :
    Calls Try.prog 7 #[hvv h (.slice A n c), .slice A2 n2 c2] w fun e w' => e = .returned (.bool true) ∧ Below w.heap.size w w' := by
  suffices hh : Calls Try.prog 7 #[hvv h (.slice A n c), .slice A2 n2 c2] w fun e w' => e = .returned (.bool true) ∧ ∀ S, Keeps S w w' from hh.mono fun e w' ⟨h1, h2⟩ => ⟨h1, below_b h2⟩
  obtain ⟨q1, q2, q3, q4⟩ := hb2.bytes
  obtain ⟨w1, hw1, k1, b1, s1⟩ := box1 w (hcs h (.slice A n c)) 29
  have HWF := Lib.hid hw
  have HR := Lib.hid hr
  have HL := Lib.hid hl
  have HQ := Lib.hid (And.intro q1 (And.intro q2 (And.intro q3 q4)))
  have HW1 := Lib.hid hw1
  have HB1 := Lib.hid b1
  have K1 := Lib.hid k1
  have HSC := Lib.hid (hd_sz hw (.slice A n c))
  have hn2 : n2 ≤ 140737488351232 := by omega
  have hn1 : n ≤ 140737488351232 := by omega
  unfold hvv
  clear hw1 k1 b1 s1 hw hl hr q1 q2 q3 q4 hb2
  generalize hC : hcs h (.slice A n c) = C at *
  have HC := Lib.hid hC
  clear hC
  go_enter Try.func7, Try.ntmps7
  go_wp2_with fail
  try rw [← HW1.out]
  refine (works_ w1).mono ?_
  rintro e w2 ⟨rfl, k2⟩
  have G2 := Lib.hid (Blk.keeps HB1.out (k2 (fun _ => False)) (fun z => z))
  have KK2 : Hid (∀ S, Keeps S w w2) := Lib.hid (fun S => (K1.out S).trans (k2 S))
  have HFI := Lib.hid (rfit_ w2 h A n c HWF.out HL.out (by omega) ((rd_old HR.out (KK2.out _)).more (KK2.out (fun _ => False)).size))
  have HFC := Lib.hid (fit_chk HWF.out)
  have HFW := Lib.hid (fit_wf HWF.out)
  have hfd : (fit h).dat.length ≤ 2048 := by show (h.dat.take _).length ≤ 2048; rw [List.length_take]; omega
  obtain ⟨hk, hhk⟩ : ∃ hk, hk = fit h := ⟨_, rfl⟩
  rw [← hhk] at HFI HFC HFW hfd
  have HFD := Lib.hid hfd
  unfold hvv at HFI
  rw [HC.out] at HFI
  clear hhk hfd k2
  go_wp2_with ((with_reducible show wpList _ _ _ (⟨some 14, _, _, _, _, _⟩ :: _) _ _); refine wpList_load_mid rfl 29 _ rfl w.heap.size 0 rfl (C) _ (Blk.range G2.out) Try.underlying29 rfl HSC.out ?_)
  --@F
  refine HFI.out.mono ?_
  rintro e w4 ⟨v4, rfl, y4⟩
  obtain ⟨A4, c4, rfl, r4⟩ := y4.rd
  obtain ⟨m4, hm4⟩ : ∃ m4, hk.dat.length = m4 := ⟨_, rfl⟩
  rw [hm4] at y4 ⊢
  have s2 : w.heap.size < w2.heap.size := G2.out.lt
  have g4 := Blk.keeps G2.out (y4.keep (fun _ => False)) (fun z => z)
  have hcl : C.length = 43 := (Option.some.inj (HSC.out.symm.trans hd_info))
  obtain ⟨t5, b5, k5⟩ := p_store (cs := hcs hk (.slice A4 m4 c4)) g4 (by rw [hcs_len HFW.out, hcl])
  obtain ⟨w5, hw5⟩ : ∃ y, y = w4.setCells w.heap.size 0 (hcs hk (.slice A4 m4 c4)) := ⟨_, rfl⟩
  rw [← hw5] at b5 k5
  have kk5 : ∀ S, Keeps S w w5 := keeps_own (fun S => (KK2.out S).trans (y4.keep S)) k5 (Nat.le_refl _)
  have OV : Hid (w5.ownsRow w2.heap.size 5 1 (.slice A4 m4 c4) m4 (by_ hk.dat)) := Lib.hid (by
    have h0 := y4.own
    rw [hm4] at h0
    exact owns_keeps h0 k5 (fun b hb e => by have := (y4.own.lt b hb).1; omega))
  have HS4 := Lib.hid (hd_sz HFW.out (.slice A4 m4 c4))
  have HSO := Lib.hid (all_oneCell_toArray (hcs_one (h := hk) (v := .slice A4 m4 c4) rfl))
  have hmk := make_ w5 hk A4 m4 c4 HFW.out hm4 (by have := HFD.out; omega) (Rd.own OV.out)
  rw [HFC.out, show mk hk = make hk from if_pos HFC.out] at hmk
  have HMK := Lib.hid hmk
  have HT5 := Lib.hid t5
  have HB5 := Lib.hid b5
  have HW5 := Lib.hid hw5
  have KK5 := Lib.hid kk5
  have HM4 := Lib.hid hm4
  unfold hvv at HMK
  clear y4 r4 g4 t5 b5 k5 hw5 kk5 hmk hm4 hcl s2
  go_wp2_with (first
    | ((with_reducible show wpList _ _ _ (⟨none, .store _ (.tmp 2) _, _, _, _, _⟩ :: _) _ _); refine' wpList_store_mid rfl 29 _ _ rfl w.heap.size 0 (hcs hk (.slice A4 m4 c4)).toArray ?hx rfl ?ht HS4.out HSO.out ?_; (case hx => rfl); (case ht => exact HT5.out); rw [← HW5.out])
    | ((with_reducible show wpList _ _ _ (⟨some 17, _, _, _, _, _⟩ :: _) _ _); refine wpList_load_mid rfl 29 _ rfl w.heap.size 0 rfl (hcs hk (.slice A4 m4 c4)) _ (Blk.range HB5.out) Try.underlying29 rfl HS4.out ?_))
  --@M
  refine HMK.out.mono ?_
  rintro e w6 ⟨v6, rfl, y6⟩
  have hlen := make_length HFW.out HFC.out
  have sm := make_small HFW.out
  obtain ⟨L, hL⟩ : ∃ L, L = (make hk).length := ⟨_, rfl⟩
  rw [← hL] at hlen
  obtain ⟨g, cb, rfl, hg, hgl⟩ := y6.form (by omega)
  rw [← hL] at y6 ⊢
  have cap6 := by_cap y6 hL.symm
  have cap69 := by_cap9 y6
  have r6 := by_rd0 y6
  have KK6 : Hid (∀ S, Keeps S w w6) := Lib.hid (fun S => (KK5.out S).trans (y6.keep S))
  have RB : Hid (∀ u, Keeps (fun _ => False) w6 u → Rd u (g + 1) (some ⟨g, 0, none⟩) (by_ (make hk))) := Lib.hid (fun u hu => rd_old r6 hu)
  have HRD := Lib.hid (read_ w6 (some ⟨g, 0, none⟩) L cb (g + 1) (make hk) hL.symm (by omega) cap6 cap69 sm r6 hgl)
  rw [read_made HFW.out HFC.out, ← hL] at HRD
  unfold RA at HRD
  have HG6 := Lib.hid (Blk.keeps HB5.out (y6.keep (fun _ => False)) (fun z => z))
  have HGL := Lib.hid hgl
  have OV6 := Lib.hid (owns_keeps OV.out (y6.keep (fun _ => False)) (fun _ _ z => z))
  have HLL := Lib.hid hL
  have HSM := Lib.hid sm
  have CAP := Lib.hid (And.intro cap6 cap69)
  have HLN := Lib.hid hlen
  have S56 := Lib.hid (show w.heap.size < w5.heap.size ∧ w5.heap.size ≤ g from ⟨HB5.out.lt, hg⟩)
  clear y6 cap6 cap69 r6 hg hgl sm hL
  go_wp2_with fail
  --@R1
  refine HRD.out.mono ?_
  rintro e w7 ⟨v7, rfl, y7⟩
  dsimp only at y7 ⊢
  obtain ⟨A7, c7, rfl, r7⟩ := y7.rd
  rw [HM4.out] at y7 ⊢
  obtain ⟨wz, hwz, kz, bz, sz⟩ := box1 w7 zhd 29
  dsimp only [zhd] at hwz
  obtain ⟨tz, bq, kq⟩ := p_store bz (cs := hcs hk (.slice A7 m4 c7)) (by rw [hcs_len HFW.out]; rfl)
  obtain ⟨w8, hw8⟩ : ∃ y, y = wz.setCells w7.heap.size 0 (hcs hk (.slice A7 m4 c7)) := ⟨_, rfl⟩
  rw [← hw8] at bq kq
  have k78 : ∀ S, Keeps S w7 w8 := keeps_own kz kq (Nat.le_refl _)
  have k68 : ∀ S, Keeps S w6 w8 := fun S => (y7.keep S).trans (k78 S)
  have HTZ := Lib.hid tz
  have HWZ := Lib.hid hwz
  have HW8 := Lib.hid hw8
  have HQ8 := Lib.hid bq
  have HG8 := Lib.hid (Blk.keeps HG6.out (k68 (fun _ => False)) (fun z => z))
  have HS7 := Lib.hid (hd_sz HFW.out (.slice A7 m4 c7))
  have HSP := Lib.hid (all_oneCell_toArray (hcs_one (h := hk) (v := .slice A7 m4 c7) rfl))
  have OV8 := Lib.hid (owns_keeps OV6.out (k68 (fun _ => False)) (fun _ _ z => z))
  have K68 := Lib.hid k68
  have S67 : Hid (w6.heap.size ≤ w7.heap.size) := Lib.hid (y7.keep (fun _ => False)).size
  have hsm := psame2_ w8 hk hk HFW.out HFW.out A4 A7 m4 m4 c4 c7 HM4.out HM4.out (Rd.own OV8.out) ((rd_old r7 (k78 _)).more (k78 (fun _ => False)).size)
  rw [same_yes rfl] at hsm
  have HSS := Lib.hid hsm
  have dl : ((L : Int) != (L : Int)) = false := bne_self_eq_false _
  unfold hvv at HSS
  clear hwz kz bz sz tz bq kq hw8 k78 k68 y7 r7 hsm
  go_wp2_with (first
    | ((with_reducible show wpList _ _ _ (⟨none, .store _ (.tmp 7) _, _, _, _, _⟩ :: _) _ _); (try with_reducible rw [← HWZ.out]); refine' wpList_store_mid rfl 29 _ _ rfl w7.heap.size 0 (hcs hk (.slice A7 m4 c7)).toArray ?hx rfl ?ht HS7.out HSP.out ?_; (case hx => rfl); (case ht => exact HTZ.out); rw [← HW8.out])
    | ((with_reducible show wpList _ _ _ (⟨some 38, _, _, _, _, _⟩ :: _) _ _); refine wpList_load_want (by kernel_rfl) 29 _ rfl w.heap.size 0 rfl (hcs hk (.slice A4 m4 c4)) _ (Blk.range HG8.out) Try.underlying29 rfl HS4.out ?_)
    | ((with_reducible show wpList _ _ _ (⟨some 39, _, _, _, _, _⟩ :: _) _ _); refine wpList_load_want (by kernel_rfl) 29 _ rfl w7.heap.size 0 rfl (hcs hk (.slice A7 m4 c7)) _ (Blk.range HQ8.out) Try.underlying29 rfl HS7.out ?_)
    | ((with_reducible show Calls _ 11 _ _ _); refine HSS.out.mono ?_; rintro e w9 ⟨rfl, k9⟩; have K9 := Lib.hid k9; clear k9; have RB9 := Lib.hid (RB.out w9 ((K68.out _).trans (K9.out _))); have R29 := Lib.hid (rd_old HQ.out.2.2.2 ((KK6.out _).trans ((K68.out _).trans (K9.out _)))))
    | ((with_reducible show wpList _ _ _ (⟨some 45, _, _, _, _, _⟩ :: _) _ _); refine By.wpList_append rfl _ _ rfl (By.nil_ (fun S => Keeps.refl S w9)) rfl (some ⟨g, 0, none⟩) L cb _ (make hk) rfl HLL.out.symm RB9.out (by simp; omega) ?_; intro v10 w10 y10 k10; have Y10 := Lib.hid y10; have R20 := Lib.hid (rd_old R29.out (y10.keep _)); clear y10 k10)
    | ((with_reducible show wpList _ _ _ (⟨some 47, _, _, _, _, _⟩ :: _) _ _); refine By.wpList_append rfl _ _ rfl Y10.out rfl A2 n2 c2 _ l2 rfl HQ.out.1 R20.out (by have := HLL.out; simp; omega) ?_; intro v11 w11 y11 k11; have Y11 := Lib.hid y11; clear y11 k11))
  --@A
  obtain ⟨M, hM⟩ : ∃ M, M = (make hk ++ l2).length := ⟨_, rfl⟩
  have hM2 : M = L + n2 := by rw [hM, List.length_append, ← HLL.out, HQ.out.1]
  have y11 := Y11.out
  rw [List.nil_append] at y11
  obtain ⟨g11, c11, rfl, hg11, hgl11⟩ := y11.form (by omega)
  rw [← hM] at y11 ⊢
  have hrm := read_ w11 (some ⟨g11, 0, none⟩) M c11 (g11 + 1) (make hk ++ l2) hM.symm (by omega) (by_cap y11 hM.symm) (by_cap9 y11) (HSM.out.append HQ.out.2.2.1) (by_rd0 y11) hgl11
  rw [read_make HFW.out HFC.out l2, ← HLL.out] at hrm
  unfold RA at hrm
  have HRM := Lib.hid hrm
  have K811 : Hid (∀ S, Keeps S w8 w11) := Lib.hid (fun S => (K9.out S).trans (y11.keep S))
  clear hM hM2 y11 hg11 hgl11 hrm
  go_wp2_with fail
  --@R2
  refine HRM.out.mono ?_
  rintro e w12 ⟨v12, rfl, y12⟩
  dsimp only at y12 ⊢
  obtain ⟨A12, c12, rfl, r12⟩ := y12.rd
  rw [HM4.out] at y12 ⊢
  have k812 : ∀ S, Keeps S w8 w12 := fun S => (K811.out S).trans (y12.keep S)
  have q12 := Blk.keeps HQ8.out (k812 (fun _ => False)) (fun z => z)
  obtain ⟨tz, bq, kq⟩ := p_store q12 (cs := hcs hk (.slice A12 m4 c12)) (by rw [hcs_len HFW.out, hcs_len HFW.out])
  obtain ⟨w13, hw13⟩ : ∃ y, y = w12.setCells w7.heap.size 0 (hcs hk (.slice A12 m4 c12)) := ⟨_, rfl⟩
  rw [← hw13] at bq kq
  have HT13 := Lib.hid tz
  have HW13 := Lib.hid hw13
  have HQ13 := Lib.hid bq
  have s67 := S67.out
  have s78 : w7.heap.size < w8.heap.size := HQ8.out.lt
  have s811 := (K811.out (fun _ => False)).size
  have s56 := S56.out
  have hgl := HGL.out
  have HG13 := Lib.hid (Blk.keeps (Blk.keeps HG8.out (k812 (fun _ => False)) (fun z => z)) kq (by omega))
  have HS12 := Lib.hid (hd_sz HFW.out (.slice A12 m4 c12))
  have HSP2 := Lib.hid (all_oneCell_toArray (hcs_one (h := hk) (v := .slice A12 m4 c12) rfl))
  have OV13 := owns_keeps (owns_keeps OV8.out (k812 (fun _ => False)) (fun _ _ z => z)) kq (fun b hb e => by have := (OV6.out.lt b hb).2; omega)
  have O13 : w13.ownsRow w11.heap.size 5 1 (.slice A12 m4 c12) m4 (by_ hk.dat) := by
    have h0 := y12.own
    rw [HM4.out] at h0
    exact owns_keeps h0 kq (fun b hb e => by have := (y12.own.lt b hb).1; omega)
  have K813 : Hid (Keeps (· = w7.heap.size) w8 w13) := Lib.hid ((k812 _).trans kq)
  have hsm := psame2_ w13 hk hk HFW.out HFW.out A4 A12 m4 m4 c4 c12 HM4.out HM4.out (Rd.own OV13) (Rd.own O13)
  rw [same_yes rfl] at hsm
  have HSS2 := Lib.hid hsm
  have HO13 := Lib.hid O13
  unfold hvv at HSS2
  clear tz bq kq hw13 s67 s78 s811 s56 hgl OV13 O13 hsm k812 q12 y12 r12
  go_wp2_with (first
    | ((with_reducible show wpList _ _ _ (⟨none, .store _ (.tmp 7) _, _, _, _, _⟩ :: _) _ _); refine' wpList_store_mid rfl 29 _ _ rfl w7.heap.size 0 (hcs hk (.slice A12 m4 c12)).toArray ?hx rfl ?ht HS12.out HSP2.out ?_; (case hx => rfl); (case ht => exact HT13.out); rw [← HW13.out])
    | ((with_reducible show wpList _ _ _ (⟨some 63, _, _, _, _, _⟩ :: _) _ _); refine wpList_load_want (by kernel_rfl) 29 _ rfl w.heap.size 0 rfl (hcs hk (.slice A4 m4 c4)) _ (Blk.range HG13.out) Try.underlying29 rfl HS4.out ?_)
    | ((with_reducible show wpList _ _ _ (⟨some 64, _, _, _, _, _⟩ :: _) _ _); refine wpList_load_want (by kernel_rfl) 29 _ rfl w7.heap.size 0 rfl (hcs hk (.slice A12 m4 c12)) _ (Blk.range HQ13.out) Try.underlying29 rfl HS12.out ?_))
  --@S2
  refine HSS2.out.mono ?_
  rintro e w14 ⟨rfl, k14⟩
  have HQ14 := Lib.hid (Blk.keeps HQ13.out (k14 (fun _ => False)) (fun z => z))
  have hmk2 := make_ w14 hk A12 m4 c12 HFW.out HM4.out (by have := HFD.out; have := HM4.out; omega) (Rd.own (owns_keeps HO13.out (k14 (fun _ => False)) (fun _ _ z => z)))
  rw [HFC.out, show mk hk = make hk from if_pos HFC.out] at hmk2
  have HMK2 := Lib.hid hmk2
  have K814 : Hid (Keeps (· = w7.heap.size) w8 w14) := Lib.hid (K813.out.trans (k14 _))
  unfold hvv at HMK2
  clear hmk2 k14
  go_wp2_with (first
    | ((with_reducible show wpList _ _ _ (⟨some 69, _, _, _, _, _⟩ :: _) _ _); refine wpList_load_mid rfl 29 _ rfl w7.heap.size 0 rfl (hcs hk (.slice A12 m4 c12)) _ (Blk.range HQ14.out) Try.underlying29 rfl HS12.out ?_))
  --@M2
  refine HMK2.out.mono ?_
  rintro e w15 ⟨v15, rfl, y15⟩
  obtain ⟨g15, c15, rfl, hg15, hgl15⟩ := y15.form (by have := HLL.out; omega)
  rw [← HLL.out] at y15 ⊢
  have K815 : Hid (Keeps (· = w7.heap.size) w8 w15) := Lib.hid (K814.out.trans (y15.keep _))
  have KB15 : Hid (Keeps (· = w7.heap.size) w6 w15) := Lib.hid ((K68.out _).trans K815.out)
  have HQ15 := Lib.hid (Blk.keeps HQ14.out (y15.keep (fun _ => False)) (fun z => z))
  have rb15 : Rd w15 (g + 1) (some ⟨g, 0, none⟩) (by_ (make hk)) := rd_put (RB.out w6 (Keeps.refl _ w6)) KB15.out (by have := HGL.out; have := S67.out; omega)
  have HSB := Lib.hid (same_ w15 (some ⟨g15, 0, none⟩) (some ⟨g, 0, none⟩) (make hk) (make hk) L L c15 cb _ _ HLL.out.symm HLL.out.symm (by omega) (by_rd0 y15) rb15)
  rw [decide_eq_true (rfl : make hk = make hk)] at HSB
  clear y15 hg15 hgl15 rb15
  go_wp2_with fail
  --@B
  refine HSB.out.mono ?_
  rintro e w16 ⟨rfl, d, rfl⟩
  have KD := Lib.hid (keeps_drewN (Keeps.refl (· = w7.heap.size) w15) d)
  have KD0 := Lib.hid (keeps_drewN (Keeps.refl (fun _ => False) w15) d)
  go_wp2_with fail
  --@L
  go_loopw [6, 8, 11] (fun e n i wr => ∃ k : Nat, k ≤ L ∧ i = .int .i64 k ∧ Hid (∃ cs : List Value, cs.length = 43 ∧ Blk wr w7.heap.size 29 cs) ∧ Hid (Keeps (· = w7.heap.size) w15 wr)) (fun _ _ i _ => L - (intOf i).toNat)
  case atStart => exact ⟨0, by omega, rfl, Lib.hid ⟨_, hcs_len HFW.out (.slice A12 m4 c12), Blk.keeps HQ15.out KD0.out (fun z => z)⟩, KD⟩
  case round =>
    obtain ⟨k, hkL, rfl, hbq, hkp⟩ := hrel
    by_cases hlt : k < L
    · obtain ⟨cs, hcs, hbq⟩ := hbq.out
      have dlt : (k : Int) < (L : Int) := by omega
      have rbr : Rd wr (g + 1) (some ⟨g, 0, none⟩) (by_ (make hk)) := rd_put (rd_put (RB.out w6 (Keeps.refl _ w6)) KB15.out (by have := HGL.out; have := S67.out; omega)) hkp.out (by have := HGL.out; have := S67.out; omega)
      have hrc := read_ wr (some ⟨g, 0, none⟩) k cb (g + 1) ((make hk).take k) (by rw [List.length_take]; have := HLL.out; omega) (by omega) (by have := CAP.out.1; omega) CAP.out.2 (HSM.out.take k) (rd_take rbr k) (by have h1 := hkp.out.size; have h2 := KB15.out.size; have := HGL.out; omega)
      rw [cut_short HFW.out HFC.out (by have := HLL.out; omega)] at hrc
      unfold RA at hrc
      have HRC := Lib.hid hrc
      have qk : ∀ u, (Instr.slice 27 (.slice (some ⟨g, 0, none⟩) L cb) none (some (.int .i64 (k : Int))) none).run Try.prog u = .ok (.slice (some ⟨g, 0, none⟩) k cb) u := fun u => cut_h (some ⟨g, 0, none⟩) L cb k (by have := CAP.out.1; omega) u
      have HBQ := Lib.hid (And.intro hcs hbq)
      clear rbr hrc hcs hbq
      go_wp2_with fail
      --@R3
      refine HRC.out.mono ?_
      rintro e w17 ⟨v17, rfl, y17⟩
      dsimp only at y17 ⊢
      obtain ⟨A17, c17, rfl, r17⟩ := y17.rd
      rw [show hz.dat.length = 0 from rfl]
      obtain ⟨tz, bq, kq⟩ := p_store (Blk.keeps HBQ.out.2 (y17.keep (fun _ => False)) (fun z => z)) (cs := hcs hz (.slice A17 0 c17)) (by rw [HBQ.out.1]; rfl)
      obtain ⟨w18, hw18⟩ : ∃ y, y = w17.setCells w7.heap.size 0 (hcs hz (.slice A17 0 c17)) := ⟨_, rfl⟩
      rw [← hw18] at bq kq
      have HT18 := Lib.hid tz
      have HW18 := Lib.hid hw18
      have HB18 := Lib.hid bq
      have K18 : Hid (Keeps (· = w7.heap.size) w15 w18) := Lib.hid ((hkp.out.trans (y17.keep _)).trans kq)
      have HSZ8 : Hid ((Try.prog.info? 29).map (·.size) = some (hcs hz (.slice A17 0 c17)).length) := Lib.hid zhd_info
      have HSO8 := Lib.hid (all_oneCell_toArray (hcs_one (h := hz) (v := .slice A17 0 c17) rfl))
      have hs3 := psame2_ w18 hz hz hz_wf hz_wf A17 none 0 0 c17 0 rfl rfl Rd.nil_ Rd.nil_
      rw [same_yes rfl] at hs3
      have hs4 : Calls Try.prog 11 #[.agg (hcs hz (.slice A17 0 c17)).toArray, .agg zhd.toArray] w18 fun e w' => e = .returned (.bool true) ∧ ∀ S, Keeps S w18 w' := hs3
      dsimp only [zhd] at hs4
      have HS5 := Lib.hid hs4
      clear tz bq kq hw18 hs3 hs4 y17 r17
      go_wp2_with (first
        | ((with_reducible show wpList _ _ _ (⟨none, .store _ (.tmp 7) _, _, _, _, _⟩ :: _) _ _); refine' wpList_store_mid rfl 29 _ _ rfl w7.heap.size 0 (hcs hz (.slice A17 0 c17)).toArray ?hx rfl ?ht HSZ8.out HSO8.out ?_; (case hx => rfl); (case ht => exact HT18.out); rw [← HW18.out])
        | ((with_reducible show wpList _ _ _ (⟨some 102, _, _, _, _, _⟩ :: _) _ _); refine wpList_load_want (by kernel_rfl) 29 _ rfl w7.heap.size 0 rfl (hcs hz (.slice A17 0 c17)) _ (Blk.range HB18.out) Try.underlying29 rfl HSZ8.out ?_)
        | ((with_reducible show Calls _ 11 _ _ _); refine HS5.out.mono ?_; rintro e w19 ⟨rfl, k19⟩; have K19 := Lib.hid k19; clear k19))
      --@S3
      have HN : Hid (∃ cs : List Value, cs.length = 43 ∧ Blk w19 w7.heap.size 29 cs) := Lib.hid ⟨_, hcs_len hz_wf (.slice A17 0 c17), Blk.keeps HB18.out (K19.out (fun _ => False)) (fun z => z)⟩
      have KN : Hid (Keeps (· = w7.heap.size) w15 w19) := Lib.hid (K18.out.trans (K19.out _))
      go_roundw
      case rel => exact ⟨k + 1, by omega, by go_num, HN, KN⟩
      case measure => simp [intOf]; omega
    · have dlt : ¬ (k : Int) < (L : Int) := by omega
      have HKF : Hid (∀ S, Keeps S w wr) := Lib.hid (keeps_own KK6.out (KB15.out.trans hkp.out) (by have h1 := (KK6.out (fun _ => False)).size; have := S67.out; omega))
      go_wp2
      try rw [Exit.noGoto_ret]
      go_ret
      exact ⟨rfl, HKF.out⟩
end
end Go.Proofs.Ytidengmcbppcoaa.pk
namespace Go.Proofs.Ytidengmcbppcoaa.packetBack
open Go.Proofs.Ytidengmcbppcoaa.pk Go.ChangeShapes Go.WideShapes Go.ChangeAt Go.RowKit Go.Proofs.Ytidengmcbppcoaa.oc
open Go.ChangeMaps (open_string shut_string)
set_option linter.unusedVariables false

theorem own : ownKnob Try.prog.godebug = none := by kernel_rfl
theorem laidOut : laidOutB Try.prog = true := by kernel_rfl

set_option maxRecDepth 100000 in
theorem lifted (os : Os) (started : os.Started) (H : Type) (enc : TypeId × Value → H) :
    ReturnsInHanded {} Try.checked os 7 .any (Rows.packetBackSpec.pre6 enc Try.prog Try.f7 Rows.packetBackRow.domain false) (Rows.packetBackSpec.post enc Try.prog Try.f7 false true false false) := by
  refine returnsInHanded_of_change_sized (C := Try.checked) own started (by kernel_rfl) Try.func7
    (ChangeSpec.witness6 (enc := enc) (C := Try.checked) false ⟨#[], #[.agg #[.bool false, .int .u8 0, .int .u8 0, .int .u8 0, .int .u8 0, .int .u8 0, .int .u8 0, .int .u8 0, .int .u8 0, .int .u8 0, .int .u8 0, .int .u8 0, .int .u8 0, .int .u8 0, .int .u8 0, .int .u8 0, .int .u8 0, .bool false, .int .u8 0, .int .u8 0, .int .u8 0, .int .u8 0, .int .u8 0, .int .u8 0, .int .u8 0, .int .u8 0, .int .u8 0, .int .u8 0, .int .u8 0, .int .u8 0, .int .u8 0, .int .u8 0, .int .u8 0, .int .u8 0, .int .u8 0, .int .u16 0, .int .u16 0, .int .u8 0, .int .u8 0, .int .u32 0, .int .u8 0, .int .u32 0, .slice none 0 0], .slice none 0 0], []⟩ 8 (by kernel_rfl) (by kernel_rfl) (by kernel_rfl) (by kernel_rfl)) ?_
  intro W base args ds gs before hval0 hW hcnd hsz0 _
  have hval : ∀ (j : Nat) t v, Try.f7.params[j]? = some t → args[j]? = some v → Value.okWide Try.prog W .any base t v := hval0
  have hsz : (DataW.weightsEach Try.prog (Try.f7.params.toList ++ Rows.packetBackSpec.plain.varTypes Try.prog) (ds ++ gs)).all (· ≤ reachBytes) = true := hsz0
  have hW' := hW
  obtain ⟨p, q, hA0, hV, rfl, hfz, hnd⟩ := hW
  have hA : DataW.TrodAll enc Try.prog W 0 (fun _ => true) true Try.f7.params.toList args.toList ds p := hA0
  rw [Try.params7] at hA hval hsz
  obtain ⟨v0, vs0, d0, ds0, p0, q0, hargs, rfl, rfl, h0, r0⟩ := trodAll_cons hA
  obtain ⟨v1, vs1, d1, ds1, p1, q1, rfl, rfl, rfl, h1, r1⟩ := trodAll_cons r0
  obtain ⟨rfl, rfl, rfl⟩ := trodAll_nil r1
  obtain rfl : args = #[v0, v1] := by cases args; simp_all
  obtain ⟨rfl, rfl⟩ := trodVars_none hV
  have k0 := h0
  have lt0 : ∀ x ∈ p0, x.block < W.heap.size := by obtain ⟨m, hm⟩ := k0; exact DataW.trod_lt m _ _ _ hm
  obtain ⟨x0, A0, n0, c0, w0, rfl, l0, m0, g0, z00⟩ := open_phd (hval 0 29 v0 rfl rfl) h0
  have z0 := z00 _ _ 0 hsz rfl rfl
  have y0 : n0 ≤ 140737488351232 := Nat.le_trans m0 z0
  obtain ⟨a1, len1, cap1, rfl⟩ := okWide_slice Try.underlying27 (hval 1 27 v1 rfl rfl)
  have k1 := h1
  have lt1 : ∀ x ∈ p1, x.block < W.heap.size := by obtain ⟨m, hm⟩ := k1; exact DataW.trod_lt m _ _ _ hm
  obtain ⟨l1, w1, e1⟩ := open_nums wf_u8 Try.underlying27 Try.underlying5 (by kernel_rfl) h1
  have z1 := reach_nums hsz (j := 1) rfl rfl Try.underlying27 (b := 1) (by kernel_rfl) (by decide) e1
  clear hA0 hval0
  refine (walk_packetBack W x0 w0 A0 n0 c0 l0 m0 z0 g0 a1 len1 cap1 l1 w1 z1).mono fun e W' ⟨he, bel⟩ => ?_
  subst he
  exact ⟨_, rfl, _, _, _, [], _, [], hW', trodAll_mk1 (shut_bool Try.underlying4 _), (trodAll_cons_mk (Below.trod laidOut (by kernel_rfl) (of_decide_eq_true (by kernel_rfl)) k0 bel lt0) (trodAll_cons_mk (Below.trod laidOut (by kernel_rfl) (of_decide_eq_true (by kernel_rfl)) k1 bel lt1) trodAll_mk0)), rfl, bel.frame _, fun h => by cases h⟩

theorem over : Rows.packetBackRow.holds Try.pinned (OpenSpec.ofChange Rows.packetBackSpec) :=
  OpenClaim.holds_of_wide 7 Try.f7 rfl rfl rfl rfl rfl rfl rfl ⟨rfl, rfl, rfl, rfl, rfl⟩ rfl rfl rfl rfl rfl (by kernel_rfl) Try.func7 (by kernel_rfl)
    (of_decide_eq_true (by kernel_rfl)) (by unfold Func.isWrapper; first | (rw [if_pos (by decide +kernel)]; kernel_rfl) | (rw [if_neg (by decide +kernel)]; exact ⟨rfl, rfl⟩))
    (fun os started H enc _ => lifted os started H enc)

theorem proved : Rows.PacketBackSaid := over
#print axioms proved
end Go.Proofs.Ytidengmcbppcoaa.packetBack
