/-
  A header's fields written one by one: those that readRest doesn't write.
-/
import Derived.Test.YtidengmcbppcoaaRows
import Derived.Test.YtidengmcbppcoaaPkZ
import Derived.WalkLawsBesides
import Derived.WalkSpells
import Derived.Outline
import Derived.Lib.Hide
import Derived.Deep.QuietTactic
import Derived.BigQuiet
import Derived.Test.YtidengmcbppcoaaOcFlat
import Derived.Test.YtidengmcbppcoaaOcOpen
import Derived.Laws.BitsAllLaws
set_option linter.unusedVariables false
set_option linter.unusedSimpArgs false
namespace Go.Proofs.Ytidengmcbppcoaa.pk
open Go.RowKit Go.Proofs.Ytidengmcbppcoaa.oc
theorem take_eq {l m : List Nat} {k : Nat} (hl : k < l.length) (hm : k < m.length) (h : l.take k = m.take k) (e : l.getD k 0 = m.getD k 0) : l.take (k + 1) = m.take (k + 1) := by
  rw [take_snoc (getq hl), take_snoc (getq hm), h, e]
section
variable (w : World)
set_option maxRecDepth 100000 in
set_option maxHeartbeats 1000000 in
theorem same_len (A A' : Option Addr) (n n' c c' : Nat) (h : n ≠ n') : Calls Try.prog 20 #[.slice A n c, .slice A' n' c'] w fun e w' => e = .returned (.bool false) ∧ ∃ d, w.drewN d = w' := by
  have d1 : ((n : Int) != (n' : Int)) = true := bne_iff_ne.2 (by omega)
  have d2 : ((n : Int) == (n' : Int)) = false := beq_eq_false_iff_ne.2 (by omega)
  have d3 : ¬ n = n' := h
  clear h
  go_enter Try.func20, Try.ntmps20
  go_wp2
  try rw [Exit.noGoto_ret]
  go_ret
  exact ⟨rfl, 0, rfl⟩
set_option maxRecDepth 100000 in
set_option maxHeartbeats 1000000 in
theorem same_n (A A' : Option Addr) (l m : List Nat) (n c c' B B' : Nat) (hl : l.length = n) (hm : m.length = n) (hn : n ≤ 140737488355328) (hr : Rd w B A (by_ l)) (hr' : Rd w B' A' (by_ m)) :
    Calls Try.prog 20 #[.slice A n c, .slice A' n c'] w fun e w' => e = .returned (.bool (decide (l = m))) ∧ ∃ d, w.drewN d = w' := by
  have HL := Lib.hid (And.intro hl hm)
  obtain ⟨Z, hZ⟩ : ∃ Z, Z = decide (l = m) := ⟨_, rfl⟩
  rw [← hZ]
  have HZ := Lib.hid hZ
  clear hl hm hZ
  go_enter Try.func20, Try.ntmps20
  go_wp2
  go_loopw [5] (fun i wr => ∃ k d : Nat, k ≤ n ∧ i = .int .i64 k ∧ w.drewN d = wr ∧ l.take k = m.take k) (fun i _ => n - (intOf i).toNat)
  case atStart => exact ⟨0, 0, Nat.zero_le _, rfl, rfl, by simp⟩
  case round =>
    obtain ⟨k, d, hk, rfl, rfl, ht⟩ := hrel
    by_cases hlt : k < n
    · have hx := getq (bs := l) (k := k) (by rw [HL.out.1]; exact hlt)
      have hy := getq (bs := m) (k := k) (by rw [HL.out.2]; exact hlt)
      obtain ⟨b, o, rfl, hb, hc⟩ := hr.byte hx
      obtain ⟨b', o', rfl, hb', hc'⟩ := hr'.byte hy
      have HT := Lib.hid (fun e => take_eq (by rw [HL.out.1]; exact hlt) (by rw [HL.out.2]; exact hlt) ht e)
      have HXY := Lib.hid (And.intro hx hy)
      have hlt' : (k : Int) < (n : Int) := by omega
      have h0 : (0 : Int) ≤ (k : Int) := by omega
      clear hx hy ht
      generalize l.getD k 0 = x at *
      generalize m.getD k 0 = y at *
      by_cases hq : x = y
      · have HT2 := Lib.hid (HT.out hq)
        clear HT
        subst hq
        go_wp2
        go_quiet (fail)
        go_wp2
        go_roundw
        case rel => exact ⟨k + 1, d + nq, by omega, by go_num, rfl, HT2.out⟩
        case measure => simp [intOf]; omega
      · have d1 : ((x : Int) != (y : Int)) = true := bne_iff_ne.2 (by omega)
        have d2 : ((x : Int) == (y : Int)) = false := beq_eq_false_iff_ne.2 (by omega)
        have d3 : ¬ x = y := hq
        have e : Z = false := by
          rw [HZ.out]
          refine decide_eq_false fun q => hq ?_
          have := HXY.out.1
          rw [q, HXY.out.2] at this
          injection this with this
          exact this.symm
        clear HZ HT HXY hq
        subst e
        go_wp2
        go_quiet (fail)
        go_wp2
        try rw [Exit.noGoto_ret]
        try simp only [Exit.inBlock, Exit.then]
        go_ret
        exact ⟨rfl, d + nq, by rw [World.drewN_drewN]⟩
    · have e : Z = true := by
        rw [HZ.out]
        rw [List.take_of_length_le (by rw [HL.out.1]; omega), List.take_of_length_le (by rw [HL.out.2]; omega)] at ht
        exact decide_eq_true ht
      clear HZ ht
      subst e
      go_wp2
      go_ret
      exact ⟨rfl, d, rfl⟩
theorem same_ (A A' : Option Addr) (l m : List Nat) (n n' c c' B B' : Nat) (hl : l.length = n) (hm : m.length = n') (hn : n ≤ 140737488355328) (hr : Rd w B A (by_ l)) (hr' : Rd w B' A' (by_ m)) :
    Calls Try.prog 20 #[.slice A n c, .slice A' n' c'] w fun e w' => e = .returned (.bool (decide (l = m))) ∧ ∃ d, w.drewN d = w' := by
  by_cases h : n = n'
  · subst h
    exact same_n w A A' l m n c c' B B' hl hm hn hr hr'
  · rw [decide_eq_false (fun e => h (by rw [← hl, ← hm, e]))]
    exact same_len w A A' n n' c c' h
end
end Go.Proofs.Ytidengmcbppcoaa.pk
set_option linter.unusedVariables false
set_option linter.unusedSimpArgs false
namespace Go.Proofs.Ytidengmcbppcoaa.pk
open Go.RowKit Go.Proofs.Ytidengmcbppcoaa.oc Go.Proofs.Ytidengmcbppcoaa.mz Go.Proofs.Ytidengmcbppcoaa.pf Go.Proofs.Ytidengmcbppcoaa.wh Go.Proofs.Ytidengmcbppcoaa.qk Go.Proofs.Ytidengmcbppcoaa.bys
def zA : List Nat := [0, 0, 0, 0, 0, 0, 0, 0, 0, 0, 0, 0, 0, 0, 0, 0]
def pA1 : List Nat := [10, 0, 0, 1, 0, 0, 0, 0, 0, 0, 0, 0, 0, 0, 0, 0]
def pA2 : List Nat := [10, 0, 0, 2, 0, 0, 0, 0, 0, 0, 0, 0, 0, 0, 0, 0]
def hp0 : Hd := ⟨⟨false, zA⟩, ⟨false, zA⟩, 17, 7, 53, 64, 0, 0, 0, 0, [1]⟩
def hp1 : Hd := ⟨⟨false, pA1⟩, ⟨false, zA⟩, 17, 7, 53, 64, 0, 0, 0, 0, [1]⟩
/-- the header of the examples -/
def hp : Hd := ⟨⟨false, pA1⟩, ⟨false, pA2⟩, 17, 7, 53, 64, 0, 0, 0, 0, [1]⟩
/-- its packet -/
def wireL : List Nat := [69, 0, 0, 29, 0, 0, 64, 0, 64, 17, 38, 206, 10, 0, 0, 1, 10, 0, 0, 2, 0, 7, 0, 53, 0, 9, 234, 157, 1]
theorem hp_wf : hp.Wf := ⟨⟨rfl, fun x hx => by simp [hp, pA1] at hx; omega⟩, ⟨rfl, fun x hx => by simp [hp, pA2] at hx; omega⟩, by decide, by decide, by decide, by decide, by decide, by decide, by decide, by decide, fun x hx => by simp [hp] at hx; omega⟩
theorem wire_small : Small wireL := fun x hx => by simp [wireL] at hx; omega
theorem hp_make : make hp = wireL := by decide +kernel
theorem hp_chk : chkE hp = 0 := by
  have hm : May hp := by
    constructor <;> first | decide | (intro _; decide) | (intro i h1 h2; exact (by decide +kernel : ∀ i : Fin 16, wid hp.src / 8 ≤ i.val → byt hp.src i.val = 0) ⟨i, h2⟩ h1) | (intro i h1 h2; exact (by decide +kernel : ∀ i : Fin 16, wid hp.dst / 8 ≤ i.val → byt hp.dst i.val = 0) ⟨i, h2⟩ h1)
  unfold chkE
  rw [if_neg (fun h => h hm)]
  decide
theorem wire_read : rdd wireL = (hp, 29, 0) := by
  show _ = _
  kernel_rfl
theorem hp0_built (g : Nat) : Try.prog.built 29 [(2, .int .u8 17), (3, .int .u16 7), (4, .int .u16 53), (5, .int .u8 64), (10, .slice (some ⟨g, 0, none⟩) 1 1)] = some (hcs hp0 (.slice (some ⟨g, 0, none⟩) 1 1)).toArray := by
  show _ = _
  kernel_rfl
theorem pA1_built : Try.prog.built 22 [(0, .int .u8 10), (1, .int .u8 0), (2, .int .u8 0), (3, .int .u8 1)] = some (b8s pA1).toArray := by
  show _ = _
  kernel_rfl
theorem pA2_built : Try.prog.built 22 [(0, .int .u8 10), (1, .int .u8 0), (2, .int .u8 0), (3, .int .u8 2)] = some (b8s pA2).toArray := by
  show _ = _
  kernel_rfl
theorem by_cap9 {w wi : World} {g n c : Nat} {l : List Nat} (h : By w wi (.slice (some ⟨g, 0, none⟩) n c) l) : c ≤ 9223372036854775807 := by
  rcases h.own.2 with ⟨e, _⟩ | ⟨g', cap, cur, e, _, _, h1, h2, h3, h4⟩
  · cases e
  · injection e with _ e1 e2
    subst e2
    unfold maxLen at h2
    omega
section
variable (w : World)
set_option maxRecDepth 100000 in
set_option maxHeartbeats 1500000 in
theorem wire_ : Calls Try.prog 28 #[] w fun e w' => ∃ v, e = .returned v ∧ By w w' v wireL := by
  obtain ⟨w1, hw1, k1, b1, s1⟩ := box1 w (by_ wireL) 5
  have Y : Hid (By w w1 (.slice (some ⟨w.heap.size, 0, none⟩) 29 29) wireL) := Lib.hid (By.of_blk b1 rfl (Nat.le_refl _) (by omega) k1)
  dsimp only [wireL, by_, List.map] at hw1
  have HW := Lib.hid hw1
  clear hw1 k1 b1 s1
  go_enter Try.func28, Try.ntmps28
  go_wp2
  try rw [Exit.noGoto_ret]
  go_ret
  exact ⟨_, rfl, by rw [HW.out] at Y; exact Y.out⟩
set_option maxRecDepth 100000 in
set_option maxHeartbeats 1500000 in
theorem plain_ : Calls Try.prog 29 #[] w fun e w' => ∃ A c, e = .returned (hvv hp (.slice A 1 c)) ∧ By w w' (.slice A 1 c) [1] := by
  obtain ⟨w1, hw1, k1, b1, s1⟩ := box1 w zhd 29
  obtain ⟨w2, hw2, k2, b2, s2⟩ := box1 w1 (by_ [1]) 5
  obtain ⟨w3, hw3, k3, b3, s3⟩ := box1 w2 zhd 29
  obtain ⟨v, hv⟩ : ∃ v, v = Value.slice (some ⟨w1.heap.size, 0, none⟩) 1 1 := ⟨_, rfl⟩
  obtain ⟨t4, b4, k4⟩ := p_store b3 (cs := hcs hp0 v) rfl
  obtain ⟨w4, hw4⟩ : ∃ w4, w4 = w3.setCells w2.heap.size 0 (hcs hp0 v) := ⟨_, rfl⟩
  rw [← hw4] at b4 k4
  obtain ⟨t5, b5, k5⟩ := p_mid b4 1 (b8s pA1) (Nat.le_of_ble_eq_true rfl)
  obtain ⟨w5, hw5⟩ : ∃ w5, w5 = w4.setCells w2.heap.size 1 (b8s pA1) := ⟨_, rfl⟩
  rw [← hw5] at b5 k5
  have e5 : (hcs hp0 v).take 1 ++ b8s pA1 ++ (hcs hp0 v).drop (1 + (b8s pA1).length) = hcs hp1 v := rfl
  rw [e5] at b5
  obtain ⟨t6, b6, k6⟩ := p_mid b5 18 (b8s pA2) (Nat.le_of_ble_eq_true rfl)
  obtain ⟨w6, hw6⟩ : ∃ w6, w6 = w5.setCells w2.heap.size 18 (b8s pA2) := ⟨_, rfl⟩
  rw [← hw6] at b6 k6
  have e6 : (hcs hp1 v).take 18 ++ b8s pA2 ++ (hcs hp1 v).drop (18 + (b8s pA2).length) = hcs hp v := rfl
  rw [e6] at b6
  have kA : Keeps (· = w2.heap.size) w3 w6 := (k4.trans k5).trans k6
  have k13 : ∀ S, Keeps S w1 w3 := fun S => (k2 S).trans (k3 S)
  have z6 : Blk w6 w.heap.size 29 zhd := Blk.keeps (Blk.keeps b1 (k13 (fun _ => False)) (fun z => z)) kA (by omega)
  obtain ⟨t7, b7, k7⟩ := p_store z6 (cs := hcs hp v) rfl
  have r6 : Blk w6 w1.heap.size 5 (by_ [1]) := Blk.keeps (Blk.keeps b2 (k3 (fun _ => False)) (fun z => z)) kA (by omega)
  have r7 := Blk.keeps r6 k7 (by omega)
  have kk : ∀ S, Keeps S w _ := keeps_own (keeps_own (fun S => (k1 S).trans (k13 S)) kA (by omega)) k7 (Nat.le_refl _)
  have Y := Lib.hid (By.of_blk (w := w) (n := 1) r7 rfl (by omega) (by omega) kk)
  have HSZ := Lib.hid (show (Try.prog.info? 29).map (·.size) = some (hcs hp v).length from zhd_info)
  have HSZ0 := Lib.hid (show (Try.prog.info? 29).map (·.size) = some (hcs hp0 v).length from zhd_info)
  have HSO := Lib.hid (all_oneCell_toArray (hcs_one (h := hp) (v := v) (by rw [hv]; rfl)))
  have HSO0 := Lib.hid (all_oneCell_toArray (hcs_one (h := hp0) (v := v) (by rw [hv]; rfl)))
  have HA : Hid ((Try.prog.info? 22).map (·.size) = some (b8s pA1).toArray.size) := Lib.hid (by kernel_rfl)
  have HA2 : Hid ((Try.prog.info? 22).map (·.size) = some (b8s pA2).toArray.size) := Lib.hid (by kernel_rfl)
  have HAO := Lib.hid (all_oneCell_toArray (b8_one pA1))
  have HAO2 := Lib.hid (all_oneCell_toArray (b8_one pA2))
  have HB0 := Lib.hid (show Try.prog.built 29 [(2, .int .u8 17), (3, .int .u16 7), (4, .int .u16 53), (5, .int .u8 64), (10, v)] = some (hcs hp0 v).toArray from by rw [hv]; exact hp0_built _)
  have HB1 := Lib.hid pA1_built
  have HB2 := Lib.hid pA2_built
  have HB6 := Lib.hid b6
  have HB7 := Lib.hid b7
  have HT4 := Lib.hid t4
  have HT5 := Lib.hid t5
  have HT6 := Lib.hid t6
  have HT7 := Lib.hid t7
  dsimp only [zhd] at hw1 hw3
  replace hw2 : w2 = w1.alloc (.cells #[.int .u8 1] 5) := hw2
  have HW := Lib.hid hw1
  have HW2 := Lib.hid hw2
  have HW3 := Lib.hid hw3
  have HW4 := Lib.hid hw4
  have HW5 := Lib.hid hw5
  have HW6 := Lib.hid hw6
  have HS1 := Lib.hid s1
  rw [s1] at hv
  have HV := Lib.hid hv
  clear hw1 k1 b1 s1 hw2 k2 b2 s2 hw3 k3 b3 s3 t4 b4 k4 hw4 t5 b5 k5 hw5 e5 t6 b6 k6 hw6 e6 kA k13 z6 t7 b7 k7 r6 r7 kk hv
  unfold hvv
  generalize hC : hcs hp v = C at *
  generalize hcs hp0 v = C0 at *
  generalize b8s pA1 = CA at *
  generalize b8s pA2 = CB at *
  go_enter Try.func29, Try.ntmps29
  go_wp2_with (first
    | ((with_reducible show wpList _ _ _ (⟨some 3, _, _, _, _, _⟩ :: _) _ _); (try rw [← HV.out]); (try rw [← HW.out]); (try rw [← HW2.out]); refine p_build rfl 29 _ rfl _ rfl _ HB0.out ?_)
    | ((with_reducible show wpList _ _ _ (⟨none, .store _ (.tmp 1) _, _, _, _, _⟩ :: _) _ _); (try rw [← HW3.out]); refine' wpList_store_mid rfl 29 _ _ rfl w2.heap.size 0 (C0).toArray ?hx rfl ?ht HSZ0.out HSO0.out ?_; (case hx => rfl); (case ht => exact HT4.out); (try rw [← HW4.out]))
    | ((with_reducible show wpList _ _ _ (⟨some 4, _, _, _, _, _⟩ :: _) _ _); refine p_build rfl 22 _ rfl _ rfl _ HB1.out ?_)
    | ((with_reducible show wpList _ _ _ (⟨none, .store _ (.tmp 6) _, _, _, _, _⟩ :: _) _ _); refine' wpList_store_mid rfl 22 _ _ rfl w2.heap.size 1 (CA).toArray ?hx rfl ?ht HA.out HAO.out ?_; (case hx => rfl); (case ht => exact HT5.out); (try rw [← HW5.out]))
    | ((with_reducible show wpList _ _ _ (⟨some 7, _, _, _, _, _⟩ :: _) _ _); refine p_build rfl 22 _ rfl _ rfl _ HB2.out ?_)
    | ((with_reducible show wpList _ _ _ (⟨none, .store _ (.tmp 9) _, _, _, _, _⟩ :: _) _ _); refine' wpList_store_mid rfl 22 _ _ rfl w2.heap.size 18 (CB).toArray ?hx rfl ?ht HA2.out HAO2.out ?_; (case hx => rfl); (case ht => exact HT6.out); (try rw [← HW6.out]))
    | ((with_reducible show wpList _ _ _ (⟨some 10, _, _, _, _, _⟩ :: _) _ _); refine wpList_load_mid rfl 29 _ rfl w2.heap.size 0 rfl C _ (Blk.range HB6.out) Try.underlying29 rfl HSZ.out ?_)
    | ((with_reducible show wpList _ _ _ (⟨none, .store _ (.tmp 0) _, _, _, _, _⟩ :: _) _ _); refine' wpList_store_mid rfl 29 _ _ rfl w.heap.size 0 (C).toArray ?hx rfl ?ht HSZ.out HSO.out ?_; (case hx => rfl); (case ht => exact HT7.out)))
  --@R
  try rw [Exit.noGoto_ret]
  refine bodyPost_ret (results_cell_row (p := 0) (ty := 29) (by kernel_rfl) _ _ w.heap.size _ _ _ _ (by rfl) HB7.out Try.underlying29 rfl (by rw [List.size_toArray]; exact HSZ.out)) rfl ?_
  refine ⟨some ⟨w1.heap.size, 0, none⟩, 1, ?_, Y.out⟩
  rw [← hC, HV.out, HS1.out]
end
end Go.Proofs.Ytidengmcbppcoaa.pk
set_option linter.unusedVariables false
set_option linter.unusedSimpArgs false
namespace Go.Proofs.Ytidengmcbppcoaa.pk
open Go.RowKit Go.Proofs.Ytidengmcbppcoaa.oc Go.Proofs.Ytidengmcbppcoaa.mz Go.Proofs.Ytidengmcbppcoaa.pf Go.Proofs.Ytidengmcbppcoaa.wh Go.Proofs.Ytidengmcbppcoaa.qk Go.Proofs.Ytidengmcbppcoaa.bys
theorem keeps_drewN {w w1 : World} {S : Nat → Prop} (k : Keeps S w w1) (d : Nat) : Keeps S w (w1.drewN d) := ⟨k.size, k.block, k.same.1, k.same.2, k.same.3⟩
section
variable (w : World)
set_option maxRecDepth 100000 in
set_option maxHeartbeats 2000000 in
theorem works_ : Calls Try.prog 13 #[] w fun e w' => e = .returned (.bool true) ∧ ∀ S, Keeps S w w' := by
  go_enter Try.func13, Try.ntmps13
  go_wp2_with fail
  refine (plain_ w).mono ?_
  rintro e w1 ⟨A, c, rfl, y1⟩
  obtain ⟨A', c', hA, r1⟩ := y1.rd
  injection hA with e1 e2 e3
  clear e2
  subst e1; subst e3
  have HMK := Lib.hid (make_sum w1 hp A 1 c hp_wf rfl (by omega) r1 hp_chk (.inr rfl))
  have K1 := Lib.hid y1.keep
  clear y1 r1
  go_wp2_with fail
  refine HMK.out.mono ?_
  rintro e w2 ⟨v, rfl, y2⟩
  rw [hp_make] at y2
  obtain ⟨g, c2, rfl, hg, hlt⟩ := y2.form (by decide)
  rw [show wireL.length = 29 from rfl] at y2 ⊢
  have r2 := by_rd0 y2
  have K2 : Hid (∀ S, Keeps S w w2) := Lib.hid (fun S => (K1.out S).trans (y2.keep S))
  have hcap : 29 ≤ c2 := by_cap y2 rfl
  have hc9 : c2 ≤ 9223372036854775807 := by_cap9 y2
  have HRD := Lib.hid (read_ w2 (some ⟨g, 0, none⟩) 29 c2 (g + 1) wireL rfl (by omega) hcap hc9 wire_small r2 (by omega))
  rw [wire_read] at HRD
  unfold RA at HRD
  have HR2 := Lib.hid r2
  have HG := Lib.hid hlt
  clear y2 hg r2 HMK hcap hc9 hlt
  go_wp2_with fail
  refine HRD.out.mono ?_
  rintro e w3 ⟨v3, rfl, y3⟩
  obtain ⟨A3, c3, rfl, r3⟩ := y3.rd
  dsimp only [hp] at y3 r3 ⊢
  rw [show ([1] : List Nat).length = 1 from rfl]
  obtain ⟨wz, hwz, kz, bz, sz⟩ := box1 w3 zhd 29
  dsimp only [zhd] at hwz
  obtain ⟨t4, b4, k4⟩ := p_store bz (cs := hcs hp (.slice A3 1 c3)) rfl
  obtain ⟨w4, hw4⟩ : ∃ w4, w4 = wz.setCells w3.heap.size 0 (hcs hp (.slice A3 1 c3)) := ⟨_, rfl⟩
  rw [← hw4] at b4 k4
  have kk34 : ∀ S, Keeps S w3 w4 := keeps_own kz k4 (Nat.le_refl _)
  have HK4 : Hid (∀ S, Keeps S w w4) := Lib.hid (fun S => ((K2.out S).trans (y3.keep S)).trans (kk34 S))
  have HR4 : Hid (∀ wq, Keeps (fun _ => False) w4 wq → Rd wq (g + 1) (some ⟨g, 0, none⟩) (by_ wireL) ∧ Rd wq wq.heap.size A3 (by_ [1])) := Lib.hid (fun wq kq => ⟨rd_old HR2.out (((y3.keep _).trans (kk34 _)).trans kq), (rd_old r3 ((kk34 _).trans kq)).more ((kk34 (fun _ => False)).trans kq).size⟩)
  have HC4 : Hid (∀ wq, Keeps (fun _ => False) w4 wq → wq.rangeAt w3.heap.size 0 (hcs hp (.slice A3 1 c3)) ∧ wq.cell? ⟨w3.heap.size, 36, none⟩ = some (.int .u16 53)) := Lib.hid (fun wq kq => by
    have b := Blk.keeps b4 kq (fun z => z)
    exact ⟨Blk.range b, (HF.of_blk hp_wf b).dp⟩)
  have HSZ : Hid ((Try.prog.info? 29).map (·.size) = some (hcs hp (.slice A3 1 c3)).length) := Lib.hid zhd_info
  have HSO := Lib.hid (all_oneCell_toArray (hcs_one (h := hp) (v := .slice A3 1 c3) rfl))
  have HT4 := Lib.hid t4
  have HWZ := Lib.hid hwz
  have HW4 := Lib.hid hw4
  clear hwz kz bz sz t4 b4 k4 hw4 kk34 y3 r3 HRD
  have HHV : Hid (∀ v, Value.agg (hcs hp v).toArray = hvv hp v) := Lib.hid (fun _ => rfl)
  have HPL := fun u => Lib.hid (plain_ u)
  have HPS := fun u (A2 : Option Addr) (cc : Nat) (hu : Rd u u.heap.size A3 (by_ [1])) (hu2 : Rd u u.heap.size A2 (by_ [1])) => Lib.hid (psame_ u hp hp hp_wf hp_wf A3 A2 1 1 c3 cc rfl rfl hu hu2 (.inl (by decide)) (.inl (by decide)))
  rw [same_yes (rfl : hp = hp)] at HPS
  unfold hvv at HPL HPS
  go_wp2_with ((try with_reducible rw [← HWZ.out]); ((with_reducible show wpList _ _ _ (⟨none, .store _ (.tmp 3) _, _, _, _, _⟩ :: _) _ _); refine' wpList_store_mid rfl 29 _ _ rfl w3.heap.size 0 (hcs hp (.slice A3 1 c3)).toArray ?hx rfl ?ht HSZ.out HSO.out ?_; (case hx => rfl); (case ht => exact HT4.out)); rw [← HW4.out])
  --@3
  refine wp_region_held_drew (S := fun w' => w'.rangeAt w3.heap.size 0 (hcs hp (.slice A3 1 c3)) ∧ w'.cell? ⟨w3.heap.size, 36, none⟩ = some (.int .u16 53)) (by kernel_rfl) (HC4.out _ ((Keeps.refl _ w4).drew)) (fun hHeld => ?_)
  refine wpAnyH_take (i := 0) (v := ?_) rfl (by kernel_rfl) (by kernel_rfl) (by kernel_rfl) (fun _ _ _ h => h) (Or.inl ⟨by kernel_rfl, ?_⟩) (by assumption) ?_
  rotate_left
  · (intro w hSw; (try dsimp only at hSw); go_simp) <;> (try (with_reducible rfl))
  try simp only [Act.put, Array.getInternal_eq_getElem, List.getElem_toArray, List.getElem_cons_zero, List.getElem_cons_succ, List.setIfInBounds_toArray, List.set_cons_zero, List.set_cons_succ]
  refine wpAnyH_take (i := 1) (v := ?_) rfl (by kernel_rfl) (by kernel_rfl) (by kernel_rfl) (fun _ _ _ h => h) (Or.inl ⟨by kernel_rfl, ?_⟩) (by assumption) ?_
  rotate_left
  · (intro w hSw; (try dsimp only at hSw); go_simp) <;> (try (with_reducible rfl))
  try simp only [Act.put, Array.getInternal_eq_getElem, List.getElem_toArray, List.getElem_cons_zero, List.getElem_cons_succ, List.setIfInBounds_toArray, List.set_cons_zero, List.set_cons_succ]
  refine wpAnyH_take (i := 2) (v := ?_) rfl (by kernel_rfl) (by kernel_rfl) (by kernel_rfl) (fun _ _ _ h => h) (Or.inl ⟨by kernel_rfl, ?_⟩) (by assumption) ?_
  rotate_left
  · (intro w hSw; (try dsimp only at hSw); go_simp) <;> (try (with_reducible rfl))
  try simp only [Act.put, Array.getInternal_eq_getElem, List.getElem_toArray, List.getElem_cons_zero, List.getElem_cons_succ, List.setIfInBounds_toArray, List.set_cons_zero, List.set_cons_succ]
  refine wpAnyH_take (i := 3) (v := ?_) rfl (by kernel_rfl) (by kernel_rfl) (by kernel_rfl) (fun _ _ _ h => h) (Or.inl ⟨by kernel_rfl, ?_⟩) (by assumption) ?_
  rotate_left
  · (intro w hSw; (try dsimp only at hSw); go_simp) <;> (try (with_reducible rfl))
  try simp only [Act.put, Array.getInternal_eq_getElem, List.getElem_toArray, List.getElem_cons_zero, List.getElem_cons_succ, List.setIfInBounds_toArray, List.set_cons_zero, List.set_cons_succ]
  refine wpAnyH_take (i := 4) (v := ?_) rfl (by kernel_rfl) (by kernel_rfl) (by kernel_rfl) (fun _ _ _ h => h) (Or.inl ⟨by kernel_rfl, ?_⟩) (by assumption) ?_
  rotate_left
  · (intro w hSw; (try dsimp only at hSw); go_simp) <;> (try (with_reducible rfl))
  try simp only [Act.put, Array.getInternal_eq_getElem, List.getElem_toArray, List.getElem_cons_zero, List.getElem_cons_succ, List.setIfInBounds_toArray, List.set_cons_zero, List.set_cons_succ]
  refine wpAnyH_take (i := 5) (v := ?_) rfl (by kernel_rfl) (by kernel_rfl) (by kernel_rfl) (fun _ _ _ h => h) (Or.inl ⟨by kernel_rfl, ?_⟩) (by assumption) ?_
  rotate_left
  · (intro w hSw; (try dsimp only at hSw); go_simp) <;> (try (with_reducible rfl))
  try simp only [Act.put, Array.getInternal_eq_getElem, List.getElem_toArray, List.getElem_cons_zero, List.getElem_cons_succ, List.setIfInBounds_toArray, List.set_cons_zero, List.set_cons_succ]
  refine wpAnyH_take (i := 6) (v := ?_) rfl (by kernel_rfl) (by kernel_rfl) (by kernel_rfl) (fun _ _ _ h => h) (Or.inl ⟨by kernel_rfl, ?_⟩) (by assumption) ?_
  rotate_left
  · (intro w hSw; (try dsimp only at hSw); go_simp) <;> (try (with_reducible rfl))
  try simp only [Act.put, Array.getInternal_eq_getElem, List.getElem_toArray, List.getElem_cons_zero, List.getElem_cons_succ, List.setIfInBounds_toArray, List.set_cons_zero, List.set_cons_succ]
  refine wpAnyH_take (i := 7) (v := ?_) rfl (by kernel_rfl) (by kernel_rfl) (by kernel_rfl) (fun _ _ _ h => h) (Or.inl ⟨by kernel_rfl, ?_⟩) (by assumption) ?_
  rotate_left
  · (intro w hSw; (try dsimp only at hSw); go_simp) <;> (try (with_reducible rfl))
  try simp only [Act.put, Array.getInternal_eq_getElem, List.getElem_toArray, List.getElem_cons_zero, List.getElem_cons_succ, List.setIfInBounds_toArray, List.set_cons_zero, List.set_cons_succ]
  refine wpAnyH_take (i := 8) (v := ?_) rfl (by kernel_rfl) (by kernel_rfl) (by kernel_rfl) (fun _ _ _ h => h) (Or.inl ⟨by kernel_rfl, ?_⟩) (by assumption) ?_
  rotate_left
  · (intro w hSw; (try dsimp only at hSw); go_simp) <;> (try (with_reducible rfl))
  try simp only [Act.put, Array.getInternal_eq_getElem, List.getElem_toArray, List.getElem_cons_zero, List.getElem_cons_succ, List.setIfInBounds_toArray, List.set_cons_zero, List.set_cons_succ]
  refine wpAnyH_take (i := 9) (v := ?_) rfl (by kernel_rfl) (by kernel_rfl) (by kernel_rfl) (fun _ _ _ h => h) (Or.inl ⟨by kernel_rfl, ?_⟩) (by assumption) ?_
  rotate_left
  · (intro w hSw; (try dsimp only at hSw); go_simp) <;> (try (with_reducible rfl))
  try simp only [Act.put, Array.getInternal_eq_getElem, List.getElem_toArray, List.getElem_cons_zero, List.getElem_cons_succ, List.setIfInBounds_toArray, List.set_cons_zero, List.set_cons_succ]
  refine wpAnyH_take (i := 10) (v := ?_) rfl (by kernel_rfl) (by kernel_rfl) (by kernel_rfl) (fun _ _ _ h => h) (Or.inl ⟨by kernel_rfl, ?_⟩) (by assumption) ?_
  rotate_left
  · (intro w hSw; (try dsimp only at hSw); go_simp) <;> (try (with_reducible rfl))
  try simp only [Act.put, Array.getInternal_eq_getElem, List.getElem_toArray, List.getElem_cons_zero, List.getElem_cons_succ, List.setIfInBounds_toArray, List.set_cons_zero, List.set_cons_succ]
  refine wpAnyH_take (i := 11) (v := ?_) rfl (by kernel_rfl) (by kernel_rfl) (by kernel_rfl) (fun _ _ _ h => h) (Or.inl ⟨by kernel_rfl, ?_⟩) (by assumption) ?_
  rotate_left
  · (intro w hSw; (try dsimp only at hSw); go_simp) <;> (try (with_reducible rfl))
  try simp only [Act.put, Array.getInternal_eq_getElem, List.getElem_toArray, List.getElem_cons_zero, List.getElem_cons_succ, List.setIfInBounds_toArray, List.set_cons_zero, List.set_cons_succ]
  refine wpAnyH_ready (rs := [12]) (by kernel_rfl) (by simp) ?_
  refine AllReadyH.cons rfl (fun K hK => ?_) AllReadyH.nil
  (rw [if_pos (by kernel_rfl)]; go_simp; go_at_call 28; refine ((wire_ _)).mono ?_; rintro e wa ⟨vw, rfl, ya⟩; have KA := Lib.hid (((Keeps.refl (fun _ => False) w4).drew).trans (ya.keep _)); obtain ⟨Aw, cw, rfl, rw_⟩ := ya.rd; have RW := Lib.hid rw_; clear rw_ ya; rw [show wireL.length = 29 from rfl])
  refine hK.out _ _ (HC4.out _ KA.out) (fun hHeld => ?_)
  clear hK K
  try simp only [Act.put, Array.getInternal_eq_getElem, List.getElem_toArray, List.getElem_cons_zero, List.getElem_cons_succ, List.setIfInBounds_toArray, List.set_cons_zero, List.set_cons_succ]
  refine wpAnyH_ready (rs := [13]) (by kernel_rfl) (by simp) ?_
  refine AllReadyH.cons rfl (fun K hK => ?_) AllReadyH.nil
  (rw [if_pos (by kernel_rfl)]; go_simp; go_at_call 20; refine ((same_ _ (some ⟨g, 0, none⟩) Aw wireL wireL 29 29 c2 cw _ _ rfl rfl (by omega) (HR4.out _ KA.out).1 RW.out)).mono ?_; rintro e wb ⟨rfl, d, rfl⟩; rw [decide_eq_true (rfl : wireL = wireL)]; have KB := Lib.hid (keeps_drewN KA.out d))
  refine hK.out _ _ (HC4.out _ KB.out) (fun hHeld => ?_)
  clear hK K
  try simp only [Act.put, Array.getInternal_eq_getElem, List.getElem_toArray, List.getElem_cons_zero, List.getElem_cons_succ, List.setIfInBounds_toArray, List.set_cons_zero, List.set_cons_succ]
  refine wpAnyH_take (i := 14) (v := ?_) rfl (by kernel_rfl) (by kernel_rfl) (by kernel_rfl) (fun _ _ _ h => h) (Or.inl ⟨by kernel_rfl, ?_⟩) (by assumption) ?_
  rotate_left
  · (intro w hSw; (try dsimp only at hSw); go_simp) <;> (try (with_reducible rfl))
  try simp only [Act.put, Array.getInternal_eq_getElem, List.getElem_toArray, List.getElem_cons_zero, List.getElem_cons_succ, List.setIfInBounds_toArray, List.set_cons_zero, List.set_cons_succ]
  refine wpAnyH_take (i := 15) (v := ?_) rfl (by kernel_rfl) (by kernel_rfl) (by kernel_rfl) (fun _ _ _ h => h) (Or.inl ⟨by kernel_rfl, ?_⟩) (by assumption) ?_
  rotate_left
  · (intro w hSw; (try dsimp only at hSw); go_simp) <;> (try (with_reducible rfl))
  try simp only [Act.put, Array.getInternal_eq_getElem, List.getElem_toArray, List.getElem_cons_zero, List.getElem_cons_succ, List.setIfInBounds_toArray, List.set_cons_zero, List.set_cons_succ]
  refine' wpAnyH_take (i := 16) (v := _) rfl (by kernel_rfl) (by kernel_rfl) (by kernel_rfl) (fun _ _ _ h => h) (yieldsIf_load_mid (by kernel_rfl) _ _ rfl _ _ rfl _ _ (fun w hSw => hSw.1) Try.underlying29 rfl HSZ.out) (by assumption) ?_
  try simp only [Act.put, Array.getInternal_eq_getElem, List.getElem_toArray, List.getElem_cons_zero, List.getElem_cons_succ, List.setIfInBounds_toArray, List.set_cons_zero, List.set_cons_succ]
  refine wpAnyH_ready (rs := [17]) (by kernel_rfl) (by simp) ?_
  refine AllReadyH.cons rfl (fun K hK => ?_) AllReadyH.nil
  (rw [if_pos (by kernel_rfl)]; go_simp; go_at_call 29; refine ((HPL _).out).mono ?_; rintro e wc ⟨A5, c5, rfl, yc⟩; have KC := Lib.hid (KB.out.trans (yc.keep _)); obtain ⟨A6, c6, h6, r6⟩ := yc.rd; injection h6 with e1 e2 e3; clear e2; subst e1; subst e3; have R6 := Lib.hid r6; clear r6 yc)
  refine hK.out _ _ (HC4.out _ KC.out) (fun hHeld => ?_)
  clear hK K
  try simp only [Act.put, Array.getInternal_eq_getElem, List.getElem_toArray, List.getElem_cons_zero, List.getElem_cons_succ, List.setIfInBounds_toArray, List.set_cons_zero, List.set_cons_succ]
  refine wpAnyH_ready (rs := [18]) (by kernel_rfl) (by simp) ?_
  refine AllReadyH.cons rfl (fun K hK => ?_) AllReadyH.nil
  (rw [if_pos (by kernel_rfl)]; go_simp; go_at_call 11; refine ((HPS _ A5 c5 (HR4.out _ KC.out).2 R6.out).out).mono ?_; rintro e wd ⟨rfl, kd⟩; have KE := Lib.hid (KC.out.trans (kd _)); clear kd)
  refine hK.out _ _ (HC4.out _ KE.out) (fun hHeld => ?_)
  clear hK K
  try simp only [Act.put, Array.getInternal_eq_getElem, List.getElem_toArray, List.getElem_cons_zero, List.getElem_cons_succ, List.setIfInBounds_toArray, List.set_cons_zero, List.set_cons_succ]
  refine wpAnyH_take (i := 19) (v := ?_) rfl (by kernel_rfl) (by kernel_rfl) (by kernel_rfl) (fun _ _ _ h => h) (Or.inl ⟨by kernel_rfl, ?_⟩) (by assumption) ?_
  rotate_left
  · (intro w hSw; (try dsimp only at hSw); go_simp) <;> (try (with_reducible rfl))
  try simp only [Act.put, Array.getInternal_eq_getElem, List.getElem_toArray, List.getElem_cons_zero, List.getElem_cons_succ, List.setIfInBounds_toArray, List.set_cons_zero, List.set_cons_succ]
  refine wpAnyH_take (i := 20) (v := ?_) rfl (by kernel_rfl) (by kernel_rfl) (by kernel_rfl) (fun _ _ _ h => h) (Or.inl ⟨by kernel_rfl, ?_⟩) (by assumption) ?_
  rotate_left
  · (intro w hSw; (try dsimp only at hSw); go_simp) <;> (try (with_reducible rfl))
  try simp only [Act.put, Array.getInternal_eq_getElem, List.getElem_toArray, List.getElem_cons_zero, List.getElem_cons_succ, List.setIfInBounds_toArray, List.set_cons_zero, List.set_cons_succ]
  refine wpAnyH_take (i := 21) (v := ?_) rfl (by kernel_rfl) (by kernel_rfl) (by kernel_rfl) (fun _ _ _ h => h) (Or.inl ⟨by kernel_rfl, ?_⟩) (by assumption) ?_
  rotate_left
  · (intro w hSw; (try dsimp only at hSw); go_simp) <;> (try (with_reducible rfl))
  try simp only [Act.put, Array.getInternal_eq_getElem, List.getElem_toArray, List.getElem_cons_zero, List.getElem_cons_succ, List.setIfInBounds_toArray, List.set_cons_zero, List.set_cons_succ]
  refine wpAnyH_take (i := 22) (v := ?_) rfl (by kernel_rfl) (by kernel_rfl) (by kernel_rfl) (fun _ _ _ h => h) (Or.inl ⟨by kernel_rfl, ?_⟩) (by assumption) ?_
  rotate_left
  · (intro w hSw; have hcell := hSw.2; go_simp) <;> (try (with_reducible rfl))
  try simp only [Act.put, Array.getInternal_eq_getElem, List.getElem_toArray, List.getElem_cons_zero, List.getElem_cons_succ, List.setIfInBounds_toArray, List.set_cons_zero, List.set_cons_succ]
  refine wpAnyH_take (i := 23) (v := ?_) rfl (by kernel_rfl) (by kernel_rfl) (by kernel_rfl) (fun _ _ _ h => h) (Or.inl ⟨by kernel_rfl, ?_⟩) (by assumption) ?_
  rotate_left
  · (intro w hSw; (try dsimp only at hSw); go_simp) <;> (try (with_reducible rfl))
  try simp only [Act.put, Array.getInternal_eq_getElem, List.getElem_toArray, List.getElem_cons_zero, List.getElem_cons_succ, List.setIfInBounds_toArray, List.set_cons_zero, List.set_cons_succ]
  refine wpAnyH_take (i := 24) (v := ?_) rfl (by kernel_rfl) (by kernel_rfl) (by kernel_rfl) (fun _ _ _ h => h) (Or.inl ⟨by kernel_rfl, ?_⟩) (by assumption) ?_
  rotate_left
  · (intro w hSw; (try dsimp only at hSw); go_simp) <;> (try (with_reducible rfl))
  try simp only [Act.put, Array.getInternal_eq_getElem, List.getElem_toArray, List.getElem_cons_zero, List.getElem_cons_succ, List.setIfInBounds_toArray, List.set_cons_zero, List.set_cons_succ]
  refine wpAnyH_take (i := 25) (v := ?_) rfl (by kernel_rfl) (by kernel_rfl) (by kernel_rfl) (fun _ _ _ h => h) (Or.inl ⟨by kernel_rfl, ?_⟩) (by assumption) ?_
  rotate_left
  · (intro w hSw; (try dsimp only at hSw); go_simp) <;> (try (with_reducible rfl))
  try simp only [Act.put, Array.getInternal_eq_getElem, List.getElem_toArray, List.getElem_cons_zero, List.getElem_cons_succ, List.setIfInBounds_toArray, List.set_cons_zero, List.set_cons_succ]
  refine wpAnyH_done ?_ ?_ _
  · kernel_rfl
  go_wp2_with fail
  try rw [Exit.noGoto_ret]
  go_ret
  exact ⟨rfl, fun S => (HK4.out S).trans (KE.out.mono (fun _ _ z => z.elim))⟩
end
end Go.Proofs.Ytidengmcbppcoaa.pk
set_option linter.unusedVariables false
set_option linter.unusedSimpArgs false
namespace Go.Proofs.Ytidengmcbppcoaa.pk
open Go.RowKit Go.Proofs.Ytidengmcbppcoaa.oc Go.Proofs.Ytidengmcbppcoaa.mz Go.Proofs.Ytidengmcbppcoaa.pf Go.Proofs.Ytidengmcbppcoaa.wh Go.Proofs.Ytidengmcbppcoaa.qk Go.Proofs.Ytidengmcbppcoaa.bys
section
variable (w : World)
theorem conv2 (A : Option Addr) (l : List Nat) (n c B : Nat) (hn : l.length = n) (hr : Rd w B A (by_ l)) : (convert 27 9 (.slice A n c)).run Try.prog w = .ok (.string (strOfNums (nint l))) w := by
  by_cases h0 : 0 < n
  · exact conv_bytes w A l n c B hn hr (.inl h0)
  · obtain rfl : n = 0 := by omega
    obtain rfl : l = [] := List.eq_nil_of_length_eq_zero hn
    cases A with
    | none => exact conv_bytes w none [] 0 c B hn hr (.inr (.inl rfl))
    | some a =>
      have hl : (loadCells a 0).run Try.prog w = .ok #[] w := by
        have := run_loadCells_list (P := Try.prog) w a [] (fun j v hj => by simp at hj)
        simpa using this
      rw [run_convert_bytes_string w 27 9 5 _ 0 c Try.underlying27 Try.underlying5 Try.underlying9, run_bytesToString w a 0 c [] hl]
      rfl
set_option maxRecDepth 100000 in
set_option maxHeartbeats 1000000 in
theorem equal2_ (A A' : Option Addr) (l m : List Nat) (n n' c c' B B' : Nat) (hl : l.length = n) (hm : m.length = n') (sl : Small l) (sm : Small m) (hr : Rd w B A (by_ l)) (hr' : Rd w B' A' (by_ m)) :
    Calls Try.prog 30 #[.slice A n c, .slice A' n' c'] w fun e w' => e = .returned (.bool (decide (l = m))) ∧ w' = w := by
  have e1 := conv2 w A l n c B hl hr
  have e2 := conv2 w A' m n' c' B' hm hr'
  have e3 := nums_eq sl sm
  generalize strOfNums (nint l) = s at *
  generalize strOfNums (nint m) = t at *
  generalize decide (l = m) = r at *
  clear hl hm sl sm hr hr'
  go_enter Try.func30, Try.ntmps30
  go_wp2
  try rw [Exit.noGoto_ret]
  go_ret
  exact ⟨by first | rfl | (rw [← e3]; rfl), rfl⟩
set_option maxRecDepth 100000 in
set_option maxHeartbeats 1500000 in
theorem psame_11 (a b : Hd) (ha : a.Wf) (hb : b.Wf) (A A2 : Option Addr) (n n2 c c2 : Nat) (hl : a.dat.length = n) (hl2 : b.dat.length = n2) (hr : Rd w w.heap.size A (by_ a.dat)) (hr2 : Rd w w.heap.size A2 (by_ b.dat)) (h0 : a.src = b.src) (h1 : a.dst = b.dst) (h2 : a.pr = b.pr) (h3 : a.sp = b.sp) (h4 : a.dp = b.dp) (h5 : a.ttl = b.ttl) (h6 : a.cls = b.cls) (h7 : a.id = b.id) (h8 : a.fl = b.fl) (h9 : a.seq = b.seq) :
    Calls Try.prog 11 #[hvv a (.slice A n c), hvv b (.slice A2 n2 c2)] w fun e w' => e = .returned (.bool (decide (a.dat = b.dat))) ∧ ∀ S, Keeps S w w' := by
  obtain ⟨w1, hw1, k1, ba, bb, s1⟩ := box2 w (hcs a (.slice A n c)) (hcs b (.slice A2 n2 c2)) 29 29
  have fa := HF.of_blk ha ba
  have fb := HF.of_blk hb bb
  have q0 := fun W => addr_eql a.src b.src ha.s hb.s W
  rw [decide_eq_true h0] at q0
  have q1 := fun W => addr_eql a.dst b.dst ha.d hb.d W
  rw [decide_eq_true h1] at q1
  have t_pr : ((a.pr : Int) == (b.pr : Int)) = true := beq_iff_eq.2 (by omega)
  have n_pr : ((a.pr : Int) != (b.pr : Int)) = false := by rw [bne_eq_false_iff_eq]; omega
  have t_sp : ((a.sp : Int) == (b.sp : Int)) = true := beq_iff_eq.2 (by omega)
  have n_sp : ((a.sp : Int) != (b.sp : Int)) = false := by rw [bne_eq_false_iff_eq]; omega
  have t_dp : ((a.dp : Int) == (b.dp : Int)) = true := beq_iff_eq.2 (by omega)
  have n_dp : ((a.dp : Int) != (b.dp : Int)) = false := by rw [bne_eq_false_iff_eq]; omega
  have t_ttl : ((a.ttl : Int) == (b.ttl : Int)) = true := beq_iff_eq.2 (by omega)
  have n_ttl : ((a.ttl : Int) != (b.ttl : Int)) = false := by rw [bne_eq_false_iff_eq]; omega
  have t_cls : ((a.cls : Int) == (b.cls : Int)) = true := beq_iff_eq.2 (by omega)
  have n_cls : ((a.cls : Int) != (b.cls : Int)) = false := by rw [bne_eq_false_iff_eq]; omega
  have t_id : ((a.id : Int) == (b.id : Int)) = true := beq_iff_eq.2 (by omega)
  have n_id : ((a.id : Int) != (b.id : Int)) = false := by rw [bne_eq_false_iff_eq]; omega
  have t_fl : ((a.fl : Int) == (b.fl : Int)) = true := beq_iff_eq.2 (by omega)
  have n_fl : ((a.fl : Int) != (b.fl : Int)) = false := by rw [bne_eq_false_iff_eq]; omega
  have t_seq : ((a.seq : Int) == (b.seq : Int)) = true := beq_iff_eq.2 (by omega)
  have n_seq : ((a.seq : Int) != (b.seq : Int)) = false := by rw [bne_eq_false_iff_eq]; omega
  have xa34 := fa.pr
  have xb34 := fb.pr
  have xa35 := fa.sp
  have xb35 := fb.sp
  have xa36 := fa.dp
  have xb36 := fb.dp
  have xa37 := fa.ttl
  have xb37 := fb.ttl
  have xa38 := fa.cls
  have xb38 := fb.cls
  have xa39 := fa.id
  have xb39 := fb.id
  have xa40 := fa.fl
  have xb40 := fb.fl
  have xa41 := fa.seq
  have xb41 := fb.seq
  have xa42 := fa.dat
  have xb42 := fb.dat
  have HEQ := Lib.hid (equal2_ w1 A A2 a.dat b.dat n n2 c c2 _ _ hl hl2 ha.b hb.b (rd_old hr (k1 _)) (rd_old hr2 (k1 _)))
  have HZ := Lib.hid (And.intro (ad_sz ha.s) (And.intro (ad_sz hb.s) (And.intro (ad_sz ha.d) (ad_sz hb.d))))
  have HFA0 := Lib.hid fa
  have HFB0 := Lib.hid fb
  have HFA : Hid (SD w1 w.heap.size (adc a.src) (adc a.dst)) := Lib.hid ⟨fa.src, fa.dst⟩
  have HFB : Hid (SD w1 (w.heap.size + 1) (adc b.src) (adc b.dst)) := Lib.hid ⟨fb.src, fb.dst⟩
  have K1 := Lib.hid k1
  have HW := Lib.hid hw1
  unfold av at q0 q1
  unfold hvv
  clear hw1 k1 ba bb s1 fa fb ha hb hr hr2 hl hl2 h0 h1 h2 h3 h4 h5 h6 h7 h8 h9 HFA0 HFB0
  generalize hcs a (.slice A n c) = CA at *
  generalize hcs b (.slice A2 n2 c2) = CB at *
  generalize adc a.src = SA at *
  generalize adc b.src = SB at *
  generalize adc a.dst = DA at *
  generalize adc b.dst = DB at *
  go_enter Try.func11, Try.ntmps11
  dsimp only [List.append_eq, List.cons_append, List.nil_append]
  go_wp2_with (first
    | go_skip
    | ((try with_reducible rw [← HW.out]); refine wpList_load_mid rfl 24 _ rfl w.heap.size 0 rfl SA _ HFA.out.src Try.underlying24 rfl HZ.out.1 ?_)
    | (refine wpList_load_mid rfl 24 _ rfl (w.heap.size + 1) 0 rfl SB _ HFB.out.src Try.underlying24 rfl HZ.out.2.1 ?_)
    | (refine wpList_load_want (by kernel_rfl) 24 _ rfl w.heap.size 17 rfl DA _ HFA.out.dst Try.underlying24 rfl HZ.out.2.2.1 ?_)
    | (refine wpList_load_want (by kernel_rfl) 24 _ rfl (w.heap.size + 1) 17 rfl DB _ HFB.out.dst Try.underlying24 rfl HZ.out.2.2.2 ?_)
    | (go_at_call 30; refine HEQ.out.mono ?_; rintro e w9 ⟨rfl, rfl⟩))
  try rw [Exit.noGoto_ret]
  go_ret
  exact ⟨rfl, K1.out⟩
theorem psame2_ (a b : Hd) (ha : a.Wf) (hb : b.Wf) (A A2 : Option Addr) (n n2 c c2 : Nat) (hl : a.dat.length = n) (hl2 : b.dat.length = n2) (hr : Rd w w.heap.size A (by_ a.dat)) (hr2 : Rd w w.heap.size A2 (by_ b.dat)) :
    Calls Try.prog 11 #[hvv a (.slice A n c), hvv b (.slice A2 n2 c2)] w fun e w' => e = .returned (.bool (sameH a b)) ∧ ∀ S, Keeps S w w' := by
  by_cases h0 : a.src = b.src
  case neg => rw [same_no (fun e => h0 (by rw [e]))]; exact psame_0 w a b ha hb A A2 n n2 c c2 hl hl2 hr hr2 h0
  by_cases h1 : a.dst = b.dst
  case neg => rw [same_no (fun e => h1 (by rw [e]))]; exact psame_1 w a b ha hb A A2 n n2 c c2 hl hl2 hr hr2 h0 h1
  by_cases h2 : a.pr = b.pr
  case neg => rw [same_no (fun e => h2 (by rw [e]))]; exact psame_2 w a b ha hb A A2 n n2 c c2 hl hl2 hr hr2 h0 h1 h2
  by_cases h3 : a.sp = b.sp
  case neg => rw [same_no (fun e => h3 (by rw [e]))]; exact psame_3 w a b ha hb A A2 n n2 c c2 hl hl2 hr hr2 h0 h1 h2 h3
  by_cases h4 : a.dp = b.dp
  case neg => rw [same_no (fun e => h4 (by rw [e]))]; exact psame_4 w a b ha hb A A2 n n2 c c2 hl hl2 hr hr2 h0 h1 h2 h3 h4
  by_cases h5 : a.ttl = b.ttl
  case neg => rw [same_no (fun e => h5 (by rw [e]))]; exact psame_5 w a b ha hb A A2 n n2 c c2 hl hl2 hr hr2 h0 h1 h2 h3 h4 h5
  by_cases h6 : a.cls = b.cls
  case neg => rw [same_no (fun e => h6 (by rw [e]))]; exact psame_6 w a b ha hb A A2 n n2 c c2 hl hl2 hr hr2 h0 h1 h2 h3 h4 h5 h6
  by_cases h7 : a.id = b.id
  case neg => rw [same_no (fun e => h7 (by rw [e]))]; exact psame_7 w a b ha hb A A2 n n2 c c2 hl hl2 hr hr2 h0 h1 h2 h3 h4 h5 h6 h7
  by_cases h8 : a.fl = b.fl
  case neg => rw [same_no (fun e => h8 (by rw [e]))]; exact psame_8 w a b ha hb A A2 n n2 c c2 hl hl2 hr hr2 h0 h1 h2 h3 h4 h5 h6 h7 h8
  by_cases h9 : a.seq = b.seq
  case neg => rw [same_no (fun e => h9 (by rw [e]))]; exact psame_9 w a b ha hb A A2 n n2 c c2 hl hl2 hr hr2 h0 h1 h2 h3 h4 h5 h6 h7 h8 h9
  have e : sameH a b = decide (a.dat = b.dat) := by
    by_cases h : a.dat = b.dat
    · rw [same_yes (Hd.eq_of h0 h1 h2 h3 h4 h5 h6 h7 h8 h9 h), decide_eq_true h]
    · rw [same_no (fun e => h (by rw [e])), decide_eq_false h]
  rw [e]
  exact psame_11 w a b ha hb A A2 n n2 c c2 hl hl2 hr hr2 h0 h1 h2 h3 h4 h5 h6 h7 h8 h9
end
end Go.Proofs.Ytidengmcbppcoaa.pk
set_option linter.unusedVariables false
set_option maxRecDepth 100000
namespace Go.Proofs.Ytidengmcbppcoaa.pk
open Go Go.RowKit Go.WideShapes Go.ChangeShapes Go.ChangeAt Go.Lib Go.Proofs.Ytidengmcbppcoaa.pf Go.Proofs.Ytidengmcbppcoaa.oc
theorem wf_u32 (z : Int) (h : (Lit.int .u32 z).wf = true) : 0 ≤ z ∧ z < ((4294967296 : Nat) : Int) := by
  have : 0 ≤ z ∧ z ≤ 4294967295 := by simpa [Lit.wf, IntKind.min, IntKind.max, IntKind.signed, IntKind.bits] using h
  omega
section
theorem fit_left {a b : List flat.K} {x : List Value} (h : flat.Fit (a ++ b) x 0) : flat.Fit a (x.take a.length) 0 := fun j k hj => by
  have hl := (List.getElem?_eq_some_iff.1 hj).1
  obtain ⟨v, hv, hk⟩ := h j k (by rw [List.getElem?_append_left hl]; exact hj)
  rw [Nat.zero_add] at hv ⊢
  exact ⟨v, by rw [List.getElem?_take_of_lt hl]; exact hv, hk⟩
theorem fit_right {a b : List flat.K} {x : List Value} (h : flat.Fit (a ++ b) x 0) : flat.Fit b (x.drop a.length) 0 := fun j k hj => by
  obtain ⟨v, hv, hk⟩ := h (a.length + j) k (by rw [List.getElem?_append_right (by omega), Nat.add_sub_cancel_left]; exact hj)
  rw [Nat.zero_add] at hv ⊢
  exact ⟨v, by rw [List.getElem?_drop]; exact hv, hk⟩
theorem fit_u8 {n : Nat} {x : List Value} (hl : x.length = n) (h : flat.Fit (List.replicate n (.int .u8)) x 0) : ∃ l : List Nat, l.length = n ∧ x = b8s l ∧ ∀ y ∈ l, y < 256 := by
  have each : ∀ j, j < n → ∃ y : Nat, x[j]? = some (.int .u8 (y : Int)) ∧ y < 256 := fun j hj => by
    obtain ⟨v, hv, z, rfl, hw⟩ := h j (.int .u8) (by simp [hj])
    obtain ⟨h1, h2⟩ := wf_u8 z hw
    obtain ⟨y, rfl⟩ := Int.eq_ofNat_of_zero_le h1
    rw [Nat.zero_add] at hv
    exact ⟨y, hv, by omega⟩
  obtain ⟨f, hf⟩ := Go.Deep.choose_lt each
  refine ⟨(List.range n).map f, by simp, ?_, fun y hy => ?_⟩
  · apply List.ext_getElem?
    intro j
    by_cases hj : j < n
    · rw [(hf j hj).1]; simp [b8s, hj]
    · rw [List.getElem?_eq_none (by omega)]; simp [b8s, hj]
  · simp only [List.mem_map, List.mem_range] at hy
    obtain ⟨j, hj, rfl⟩ := hy
    exact (hf j hj).2
def adK : List flat.K := .bool :: List.replicate 16 (.int .u8)
def hK : List flat.K := [.int .u8, .int .u16, .int .u16, .int .u8, .int .u8, .int .u32, .int .u8, .int .u32]
theorem fit_ad {x : List Value} (hl : x.length = 17) (h : flat.Fit adK x 0) : ∃ a : Ad, a.Wf ∧ x = adc a := by
  obtain ⟨v, hv, b, rfl⟩ := h 0 .bool rfl
  match x, hl, hv with
  | y :: r, hl, hv =>
    simp at hv
    subst hv
    obtain ⟨l, h1, h2, h3⟩ := fit_u8 (n := 16) (x := r) (by simpa using hl) (fun j k hj => by
      obtain ⟨v, hv, hk⟩ := h (j + 1) k (by simpa [adK] using hj)
      rw [Nat.zero_add, List.getElem?_cons_succ] at hv
      exact ⟨v, by rw [Nat.zero_add]; exact hv, hk⟩)
    exact ⟨⟨b, l⟩, ⟨h1, h3⟩, by rw [h2]; rfl⟩
theorem fit_eight {x : List Value} (hl : x.length = 8) (h : flat.Fit hK x 0) : ∃ p0 p1 p2 p3 p4 p5 p6 p7 : Nat, p0 < 256 ∧ p1 < 65536 ∧ p2 < 65536 ∧ p3 < 256 ∧ p4 < 256 ∧ p5 < 4294967296 ∧ p6 < 256 ∧ p7 < 4294967296 ∧ x = [.int .u8 (p0 : Int), .int .u16 (p1 : Int), .int .u16 (p2 : Int), .int .u8 (p3 : Int), .int .u8 (p4 : Int), .int .u32 (p5 : Int), .int .u8 (p6 : Int), .int .u32 (p7 : Int)] := by
  obtain ⟨v0, h0, z0, rfl, w0⟩ := h 0 (.int .u8) rfl
  obtain ⟨v1, h1, z1, rfl, w1⟩ := h 1 (.int .u16) rfl
  obtain ⟨v2, h2, z2, rfl, w2⟩ := h 2 (.int .u16) rfl
  obtain ⟨v3, h3, z3, rfl, w3⟩ := h 3 (.int .u8) rfl
  obtain ⟨v4, h4, z4, rfl, w4⟩ := h 4 (.int .u8) rfl
  obtain ⟨v5, h5, z5, rfl, w5⟩ := h 5 (.int .u32) rfl
  obtain ⟨v6, h6, z6, rfl, w6⟩ := h 6 (.int .u8) rfl
  obtain ⟨v7, h7, z7, rfl, w7⟩ := h 7 (.int .u32) rfl
  obtain ⟨a0, b0⟩ := wf_u8 z0 w0
  obtain ⟨a1, b1⟩ := wf_u16 z1 w1
  obtain ⟨a2, b2⟩ := wf_u16 z2 w2
  obtain ⟨a3, b3⟩ := wf_u8 z3 w3
  obtain ⟨a4, b4⟩ := wf_u8 z4 w4
  obtain ⟨a5, b5⟩ := wf_u32 z5 w5
  obtain ⟨a6, b6⟩ := wf_u8 z6 w6
  obtain ⟨a7, b7⟩ := wf_u32 z7 w7
  obtain ⟨p0, rfl⟩ := Int.eq_ofNat_of_zero_le a0
  obtain ⟨p1, rfl⟩ := Int.eq_ofNat_of_zero_le a1
  obtain ⟨p2, rfl⟩ := Int.eq_ofNat_of_zero_le a2
  obtain ⟨p3, rfl⟩ := Int.eq_ofNat_of_zero_le a3
  obtain ⟨p4, rfl⟩ := Int.eq_ofNat_of_zero_le a4
  obtain ⟨p5, rfl⟩ := Int.eq_ofNat_of_zero_le a5
  obtain ⟨p6, rfl⟩ := Int.eq_ofNat_of_zero_le a6
  obtain ⟨p7, rfl⟩ := Int.eq_ofNat_of_zero_le a7
  match x, hl with
  | [x0, x1, x2, x3, x4, x5, x6, x7], _ =>
    simp at h0 h1 h2 h3 h4 h5 h6 h7
    exact ⟨p0, p1, p2, p3, p4, p5, p6, p7, by omega, by omega, by omega, by omega, by omega, by omega, by omega, by omega, by rw [h0, h1, h2, h3, h4, h5, h6, h7]⟩
end
section
variable {H : Type} {enc : TypeId × Value → H} {W : World}
theorem fit_most {t : TypeId} {fs : Array Field} (hu : Try.prog.underlying t = some (.struct fs)) (j : Nat) {ks : List flat.K} (hk : flat.kindsF Try.prog (flat.kinds Try.prog 4) (fs.toList.take j) 0 = some ks) {fuel : Nat} {cs : List Value} {y : DataW H × List MemPlace} (hf : DataW.trod enc Try.prog W 0 (fun _ => true) true fuel t cs = some y) :
    flat.Fit ks cs 0 ∧ cs.length = Try.prog.cellsOf t ∧ ∀ (i : Nat) (f : Field), fs[i]? = some f → ∃ m y, DataW.trod enc Try.prog W 0 (fun _ => true) true m f.type ((cs.drop f.offset).take (Try.prog.cellsOf f.type)) = some y := by
  obtain ⟨xs, m, rfl, _, hlen, hxl, hel⟩ := DataW.trod_struct hu hf
  have hone : ∀ f ∈ fs.toList, ∃ y, DataW.trod enc Try.prog W 0 (fun _ => true) true m f.type ((cs.drop f.offset).take (Try.prog.cellsOf f.type)) = some y := fun f hf => by
    obtain ⟨i, hi, rfl⟩ := List.getElem_of_mem hf
    have hi' : i < fs.size := by simpa using hi
    have := hel i fs[i] (Array.getElem?_eq_getElem hi')
    rw [List.getElem?_eq_getElem (by omega)] at this
    exact ⟨_, by simpa using this⟩
  refine ⟨flat.fields_fit (flat.kinds Try.prog 4) m cs (fs.toList.take j) 0 ks hk (fun f hf l' _ _ => hone f (List.mem_of_mem_take hf)) (fun t l' cs' y hg hy _ => (flat.kinds_fit 4 t l' m cs' y hg hy).2) (fun f hf => ?_), hlen, fun i f hif => ?_⟩
  · obtain ⟨y, hy⟩ := hone f (List.mem_of_mem_take hf)
    obtain ⟨l', hl', hc'⟩ : ∃ l', flat.kinds Try.prog 4 f.type = some l' ∧ Try.prog.cellsOf f.type = l'.length := flat.kinds_fit.kindsF_each hk f hf
    rw [(flat.kinds_fit 4 f.type l' m _ y hl' hy).1, hc']
  · obtain ⟨y, hy⟩ := hone f (List.mem_iff_getElem?.2 ⟨i, by simpa using hif⟩)
    exact ⟨m, y, hy⟩
theorem hdr_last {fs : Array Field} (hu : Try.prog.underlying 29 = some (.struct fs)) : ∃ f : Field, fs[10]? = some f ∧ f.type = 27 ∧ f.offset = 42 ∧ Try.prog.cellsOf f.type = 1 := by
  have e := hu.symm.trans Try.underlying29
  injection e with e
  injection e with e
  subst e
  exact ⟨_, rfl, rfl, rfl, by kernel_rfl⟩
theorem cellsOf_hd : Try.prog.cellsOf 29 = 43 := by kernel_rfl
/-- a header that came in -/
theorem open_phd {r : Reach} {b0 : Nat} {v : Value} {d : DataW H} {p : List MemPlace} (hv' : Value.okWide Try.prog W r b0 29 v) (h : DataW.Trod enc Try.prog W 0 (fun _ => true) true 29 v d p) :
    ∃ (k : Hd) (A : Option Addr) (n c : Nat), k.Wf ∧ v = hvv k (.slice A n c) ∧ k.dat.length = n ∧ n ≤ c ∧ Rd W W.heap.size A (by_ k.dat) ∧
      ∀ (ts : List TypeId) (ds : List (DataW H)) (j : Nat), (DataW.weightsEach Try.prog ts ds).all (· ≤ reachBytes) = true → ts[j]? = some 29 → ds[j]? = some d → c ≤ 140737488351232 := by
  obtain ⟨cs, rfl, hsz⟩ := okWide_struct Try.underlying29 hv'
  obtain ⟨fuel, hf⟩ := h
  obtain ⟨h1, h2, h3⟩ := fit_most Try.underlying29 10 (ks := adK ++ (adK ++ hK)) (by kernel_rfl) hf
  have hlen : cs.toList.length = 43 := h2.trans cellsOf_hd
  obtain ⟨f, e1, e2, e3, e4⟩ := hdr_last Try.underlying29
  obtain ⟨xs, m, hfu, hx, _, hxl, hel⟩ := DataW.trod_struct Try.underlying29 hf
  have hy := hel 10 f e1
  rw [e4, e3, e2] at hy
  have hx10 : 10 < xs.length := by
    have := (Array.getElem?_eq_some_iff.1 e1).1
    omega
  rw [List.getElem?_eq_getElem hx10] at hy
  obtain ⟨A, n, c, hl⟩ : ∃ A n c, (cs.toList.drop 42).take 1 = [Value.slice A n c] := by
    rcases Go.Deep.open_slice Try.underlying27 hy with ⟨hcs, _⟩ | ⟨a, len, cap, m, k, D, Pl, hcs, _⟩
    · exact ⟨_, _, _, hcs⟩
    · exact ⟨_, _, _, hcs⟩
  rw [show (Value.agg cs).cells.toList = cs.toList from rfl, hl] at hy
  obtain ⟨dat, hnum, hd⟩ := open_nums (k := .u8) (m := 256) (d := (xs[10]).1) (p := (xs[10]).2) wf_u8 Try.underlying27 Try.underlying5 (by kernel_rfl) ⟨m, hy⟩
  obtain ⟨a1, a2, a3, a4⟩ := hnum.bytes
  obtain ⟨s, hs, es⟩ := fit_ad (x := cs.toList.take 17) (by rw [List.length_take, hlen]; rfl) (fit_left h1)
  have hr := fit_right h1
  obtain ⟨t, ht, et⟩ := fit_ad (x := (cs.toList.drop 17).take 17) (by rw [List.length_take, List.length_drop, hlen]; rfl) (fit_left hr)
  have hr2 := fit_right hr
  have h8 : ((cs.toList.drop 17).drop 17).length = 9 := by rw [List.length_drop, List.length_drop, hlen]
  obtain ⟨p0, p1, p2, p3, p4, p5, p6, p7, q0, q1, q2, q3, q4, q5, q6, q7, ei⟩ := fit_eight (x := ((cs.toList.drop 17).drop 17).take 8) (by rw [List.length_take, h8]; rfl) (fun j k hj => by
    obtain ⟨v, hv, hk⟩ := hr2 j k hj
    have hj8 : j < 8 := (List.getElem?_eq_some_iff.1 hj).1
    rw [Nat.zero_add] at hv ⊢
    exact ⟨v, by rw [List.getElem?_take_of_lt hj8]; exact hv, hk⟩)
  have el : ((cs.toList.drop 17).drop 17).drop 8 = [Value.slice A n c] := by
    rw [List.drop_drop, List.drop_drop, ← hl]
    exact (List.take_of_length_le (by rw [List.length_drop, hlen]; decide)).symm
  refine ⟨⟨s, t, p0, p1, p2, p3, p4, p5, p6, p7, dat⟩, A, n, c, ⟨hs, ht, q0, q1, q2, q3, q4, q5, q6, q7, a3⟩, ?_, a1, a2, a4, fun ts ds j hw htj hdj => ?_⟩
  · unfold hvv hcs
    have e : cs.toList = adc s ++ (adc t ++ [Value.int .u8 (p0 : Int), .int .u16 (p1 : Int), .int .u16 (p2 : Int), .int .u8 (p3 : Int), .int .u8 (p4 : Int), .int .u32 (p5 : Int), .int .u8 (p6 : Int), .int .u32 (p7 : Int), .slice A n c]) := by
      rw [← List.take_append_drop 17 cs.toList, es]
      congr 1
      rw [← List.take_append_drop 17 (cs.toList.drop 17), et]
      congr 1
      rw [← List.take_append_drop 8 ((cs.toList.drop 17).drop 17), ei, el]
      rfl
    rw [← e]
  · have hd' : d = .agg (xs.map (·.1)) := congrArg (·.1) hx
    have hw2 : (DataW.weights Try.prog 29 d).all (· ≤ reachBytes) = true := List.all_eq_true.2 fun n hn => List.all_eq_true.1 hw n (DataW.weights_mem_each htj hdj n hn)
    subst hd'
    simp only [DataW.weights, Try.underlying29] at hw2
    refine reach_nums (n := n) (b := 1) hw2 (j := 10) (t := 27) (d := (xs[10]).1) ?_ ?_ Try.underlying27 (by kernel_rfl) (Nat.le_refl _) hd
    · first | rfl | (rw [List.getElem?_map]; simp [e2])
    · rw [List.getElem?_map, List.getElem?_eq_getElem hx10]; rfl
end
end Go.Proofs.Ytidengmcbppcoaa.pk
set_option linter.unusedVariables false
set_option linter.unusedSimpArgs false
namespace Go.Proofs.Ytidengmcbppcoaa.pk
open Go.RowKit Go.Proofs.Ytidengmcbppcoaa.oc Go.Proofs.Ytidengmcbppcoaa.mz Go.Proofs.Ytidengmcbppcoaa.pf Go.Proofs.Ytidengmcbppcoaa.wh Go.Proofs.Ytidengmcbppcoaa.qk Go.Proofs.Ytidengmcbppcoaa.bys
theorem st_pr {w : World} {G : Nat} {T : TypeId} {h : Hd} {v : Value} (b : Blk w G T (hcs h v)) (h1 : h.src.Wf) (h2 : h.dst.Wf) (x : Nat) : Blk (w.setCell ⟨G, 34, none⟩ (.int .u8 (x : Int))) G T (hcs {h with pr := x} v) := by
  have := Blk.put b 34 (.int .u8 (x : Int))
  rw [hcs_parts h, show 34 = 34 + 0 from rfl, set_behind (ad_len34 h1 h2)] at this
  unfold hcs
  rw [List.append_assoc] at this
  exact this
theorem st_ttl {w : World} {G : Nat} {T : TypeId} {h : Hd} {v : Value} (b : Blk w G T (hcs h v)) (h1 : h.src.Wf) (h2 : h.dst.Wf) (x : Nat) : Blk (w.setCell ⟨G, 37, none⟩ (.int .u8 (x : Int))) G T (hcs {h with ttl := x} v) := by
  have := Blk.put b 37 (.int .u8 (x : Int))
  rw [hcs_parts h, show 37 = 34 + 3 from rfl, set_behind (ad_len34 h1 h2)] at this
  unfold hcs
  rw [List.append_assoc] at this
  exact this
theorem st_cls {w : World} {G : Nat} {T : TypeId} {h : Hd} {v : Value} (b : Blk w G T (hcs h v)) (h1 : h.src.Wf) (h2 : h.dst.Wf) (x : Nat) : Blk (w.setCell ⟨G, 38, none⟩ (.int .u8 (x : Int))) G T (hcs {h with cls := x} v) := by
  have := Blk.put b 38 (.int .u8 (x : Int))
  rw [hcs_parts h, show 38 = 34 + 4 from rfl, set_behind (ad_len34 h1 h2)] at this
  unfold hcs
  rw [List.append_assoc] at this
  exact this
theorem st_id {w : World} {G : Nat} {T : TypeId} {h : Hd} {v : Value} (b : Blk w G T (hcs h v)) (h1 : h.src.Wf) (h2 : h.dst.Wf) (x : Nat) : Blk (w.setCell ⟨G, 39, none⟩ (.int .u32 (x : Int))) G T (hcs {h with id := x} v) := by
  have := Blk.put b 39 (.int .u32 (x : Int))
  rw [hcs_parts h, show 39 = 34 + 5 from rfl, set_behind (ad_len34 h1 h2)] at this
  unfold hcs
  rw [List.append_assoc] at this
  exact this
/-- the last byte of Src, with another bit -/
def tw15 (a : Ad) : Ad := ⟨a.v6, a.B.set 15 (a.B.getD 15 0 ^^^ 1)⟩
theorem xor1_ne (x : Nat) : x ^^^ 1 ≠ x := fun h => by
  have : x ^^^ 1 ^^^ x = x ^^^ x := by rw [h]
  rw [Nat.xor_comm x 1, Nat.xor_assoc, Nat.xor_self] at this
  cases this
theorem tw15_wf {a : Ad} (h : a.Wf) : (tw15 a).Wf := ⟨by simp [tw15, h.len], fun x hx => by
  rcases List.mem_or_eq_of_mem_set hx with q | q
  · exact h.sm x q
  · rw [q]
    have h1 : a.B.getD 15 0 < 2 ^ 8 := getD_lt h.sm 15
    exact Nat.xor_lt_two_pow h1 (by decide)⟩
theorem tw15_ne {a : Ad} (h : a.Wf) : a ≠ tw15 a := fun e => by
  have e2 : a.B = a.B.set 15 (a.B.getD 15 0 ^^^ 1) := congrArg Ad.B e
  have e3 : a.B.getD 15 0 = (a.B.set 15 (a.B.getD 15 0 ^^^ 1)).getD 15 0 := by rw [← e2]
  rw [List.getD_eq_getElem?_getD, List.getD_eq_getElem?_getD, List.getElem?_set_self (by rw [h.len]; decide)] at e3
  exact xor1_ne _ e3.symm
theorem st_b15 {w : World} {G : Nat} {T : TypeId} {h : Hd} {v : Value} (b : Blk w G T (hcs h v)) (h1 : h.src.Wf) : Blk (w.setCell ⟨G, 16, none⟩ (.int .u8 ((h.src.B.getD 15 0 ^^^ 1 : Nat) : Int))) G T (hcs {h with src := tw15 h.src} v) := by
  have := Blk.put b 16 (.int .u8 ((h.src.B.getD 15 0 ^^^ 1 : Nat) : Int))
  have e : (hcs h v).set 16 (.int .u8 ((h.src.B.getD 15 0 ^^^ 1 : Nat) : Int)) = hcs {h with src := tw15 h.src} v := by
    unfold hcs
    rw [List.set_append_left _ _ (by rw [adc_len h1]; decide)]
    congr 1
    simp [adc, tw15, b8s, List.map_set]
  rw [e] at this
  exact this
theorem st_dv6 {w : World} {G : Nat} {T : TypeId} {h : Hd} {v : Value} (b : Blk w G T (hcs h v)) (h1 : h.src.Wf) (x : Bool) : Blk (w.setCell ⟨G, 17, none⟩ (.bool x)) G T (hcs {h with dst := ⟨x, h.dst.B⟩} v) := by
  have := Blk.put b 17 (.bool x)
  have e : (hcs h v).set 17 (.bool x) = hcs {h with dst := ⟨x, h.dst.B⟩} v := by
    unfold hcs
    rw [List.set_append_right _ _ (by rw [adc_len h1]; decide), adc_len h1]
    rfl
  rw [e] at this
  exact this
theorem c_b15 {w : World} {G : Nat} {T : TypeId} {h : Hd} {v : Value} (b : Blk w G T (hcs h v)) (h1 : h.src.Wf) : w.cell? ⟨G, 16, none⟩ = some (.int .u8 ((h.src.B.getD 15 0 : Nat) : Int)) := by
  rw [b.cell]
  unfold hcs
  rw [List.getElem?_append_left (by rw [adc_len h1]; decide)]
  have hl : 15 < h.src.B.length := by rw [h1.len]; decide
  simp [adc, b8s, List.getD_eq_getElem?_getD, List.getElem?_eq_getElem hl]
theorem c_dv6 {w : World} {G : Nat} {T : TypeId} {h : Hd} {v : Value} (b : Blk w G T (hcs h v)) (h1 : h.src.Wf) : w.cell? ⟨G, 17, none⟩ = some (.bool h.dst.v6) := by
  rw [b.cell]
  unfold hcs
  rw [List.getElem?_append_right (by rw [adc_len h1]; decide), adc_len h1]
  rfl
theorem tmod11 (n : Int) : -11 < Int.tmod n 11 ∧ Int.tmod n 11 < 11 := by
  rcases Int.le_total 0 n with h | h
  · rw [Int.tmod_eq_emod_of_nonneg h]; omega
  · have e : Int.tmod n 11 = -(Int.tmod (-n) 11) := by rw [Int.neg_tmod]; omega
    rw [e, Int.tmod_eq_emod_of_nonneg (by omega)]; omega
end Go.Proofs.Ytidengmcbppcoaa.pk
