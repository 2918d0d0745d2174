/-
  The law package's right, width and within.
-/
import Derived.Test.YtgcdhfpbmcfedaaGreatDoorZPiO
set_option linter.unusedVariables false
set_option linter.unusedSimpArgs false
namespace Go.Proofs.YtgcdhfpbmcfedaaGreatDoor.pf
open Go.RowKit Go.Proofs.YtgcdhfpbmcfedaaGreatDoor.oc Go.Proofs.YtgcdhfpbmcfedaaGreatDoor.mz Go.Proofs.YtgcdhfpbmcfedaaGreatDoor.wh Go.Proofs.YtgcdhfpbmcfedaaGreatDoor.qk
theorem old_over {w a b : World} {B : Nat} (k : Old w a) (hB : w.heap.size ≤ B) (h : Keeps (· = B) a b) : Old w b := glue_all hB (fun S => k.all S) h _
/-- an address's bytes, those from the fourth to the m-th 0 -/
def zup (B : List Nat) (m : Nat) : List Nat := B.mapIdx fun j x => if 4 ≤ j ∧ j < m then 0 else x
def rightA (a : Ad) : Ad := if a.v6 = true then a else ⟨false, zup a.B 16⟩
theorem zup_len (B : List Nat) (m : Nat) : (zup B m).length = B.length := by simp [zup]
theorem zup_lt {B : List Nat} (h : ∀ x ∈ B, x < 256) (m : Nat) : ∀ x ∈ zup B m, x < 256 := fun x hx => by
  obtain ⟨j, hj, rfl⟩ := List.mem_mapIdx.1 hx
  split
  · decide
  · exact h _ (List.getElem_mem _)
theorem zup_four (B : List Nat) : zup B 4 = B := by
  refine List.ext_getElem? fun j => ?_
  unfold zup
  rw [List.getElem?_mapIdx]
  cases B[j]? with
  | none => rfl
  | some x => simp only [Option.map_some]; rw [if_neg (by omega)]
theorem zup_next (B : List Nat) (m : Nat) (h : 4 ≤ m) : (zup B m).set m 0 = zup B (m + 1) := by
  refine List.ext_getElem? fun j => ?_
  rw [List.getElem?_set]
  unfold zup
  rw [List.getElem?_mapIdx, List.getElem?_mapIdx, List.length_mapIdx]
  by_cases e : m = j
  · subst e
    rw [if_pos rfl]
    split
    · rename_i hl
      rw [List.getElem?_eq_getElem hl]
      simp only [Option.map_some]
      rw [if_pos (by omega)]
    · rename_i hl
      rw [List.getElem?_eq_none (by omega)]; rfl
  · rw [if_neg e]
    cases B[j]? with
    | none => rfl
    | some x =>
      simp only [Option.map_some]
      by_cases c : 4 ≤ j ∧ j < m
      · rw [if_pos c, if_pos (by omega)]
      · rw [if_neg c, if_neg (by omega)]
theorem rightA_wf {a : Ad} (h : a.Wf) : (rightA a).Wf := by
  unfold rightA
  split
  · exact h
  · exact ⟨by rw [zup_len, h.len], zup_lt h.sm 16⟩
theorem rightA_ok {a : Ad} (h : a.Wf) : okA (rightA a) := by
  unfold rightA
  split
  · rename_i hv
    intro i h1 h2
    have : wid a = 128 := by unfold wid; rw [if_pos hv]
    omega
  · intro i h1 h2
    have h1 : 32 / 8 ≤ i := h1
    show (zup a.B 16)[i]?.getD 0 = 0
    unfold zup
    rw [List.getElem?_mapIdx]
    cases a.B[i]? with
    | none => rfl
    | some x => simp only [Option.map_some, Option.getD_some]; rw [if_pos (by omega)]
section
variable (w : World)
set_option maxRecDepth 100000 in
set_option maxHeartbeats 1000000 in
theorem lwidth_ (a : Ad) : Calls Tryz.prog 13 #[av a] w fun e w' => e = .returned (.int .i64 (wid a : Int)) ∧ ∀ S, Keeps S w w' := by
  have b1 := Blk.new w 24 (adc a).toArray
  have x0 := ad_v6 b1
  have hc := wid_cases a
  unfold av
  generalize (adc a).toArray = C at *
  clear b1
  rcases hc with ⟨h, e⟩ | ⟨h, e⟩
  all_goals
    rw [h] at x0
    rw [e]
    clear h e
    go_enter Tryz.func13, Tryz.ntmps13
    go_wp2
    try rw [Exit.noGoto_ret]
    go_ret
    exact ⟨rfl, fun S => (Keeps.refl S w).alloc _⟩
set_option maxRecDepth 100000 in
set_option maxHeartbeats 1000000 in
theorem within_ (i n : Int) (hi : -9223372036854775808 ≤ i ∧ i ≤ 9223372036854775807) (h0 : 0 ≤ n) (h1 : n ≤ 128) : Calls Tryz.prog 12 #[.int .i64 i, .int .i64 n] w fun e w' => e = .returned (.int .i64 (i % (n + 1))) ∧ ∀ S, Keeps S w w' := by
  have hw1 : wrap64 (n + 1) = n + 1 := by unfold wrap64; omega
  have hne : ¬ (n + 1 = 0) := by omega
  have hne2 : ((n + 1) == 0) = false := by simpa using hne
  obtain ⟨r, hr⟩ : ∃ r, r = i.tmod (n + 1) := ⟨_, rfl⟩
  have hb : -(n + 1) < r ∧ r < n + 1 := by
    have a1 := Int.tmod_lt_of_pos i (show 0 < n + 1 by omega)
    have a2 := Int.lt_tmod_of_pos i (show 0 < n + 1 by omega)
    omega
  have he : i % (n + 1) = if r < 0 then r + (n + 1) else r := by
    have q := Int.tmod_def i (n + 1)
    have e := Int.emod_add_mul_ediv i (n + 1)
    have b0 := Int.emod_nonneg i (show n + 1 ≠ 0 by omega)
    have b1 := Int.emod_lt_of_pos i (show 0 < n + 1 by omega)
    have hs : (i % (n + 1) - r) % (n + 1) = 0 := by
      rw [hr, q, show i % (n + 1) - (i - (n + 1) * i.tdiv (n + 1)) = (n + 1) * (i.tdiv (n + 1) - i / (n + 1)) from by rw [Int.mul_sub]; omega]
      exact Int.mul_emod_right _ _
    obtain ⟨c, hc⟩ := Int.dvd_of_emod_eq_zero hs
    have hc1 : c = 0 ∨ c = 1 := by
      have : -1 < c ∧ c < 2 := by
        constructor
        · refine Decidable.byContradiction fun z => ?_
          have : (n + 1) * c ≤ (n + 1) * (-1) := Int.mul_le_mul_of_nonneg_left (by omega) (by omega)
          omega
        · refine Decidable.byContradiction fun z => ?_
          have : (n + 1) * 2 ≤ (n + 1) * c := Int.mul_le_mul_of_nonneg_left (by omega) (by omega)
          omega
      omega
    rcases hc1 with rfl | rfl
    · rw [Int.mul_zero] at hc; split <;> omega
    · rw [Int.mul_one] at hc; split <;> omega
  have hwr : wrap64 r = r := by unfold wrap64; omega
  rw [he]
  have hrt : i.tmod (n + 1) = r := hr.symm
  clear hr he
  by_cases hneg : r < 0
  · rw [if_pos hneg]
    have hw2 : wrap64 (r + n) = r + n := by unfold wrap64; omega
    have hw3 : wrap64 (r + n + 1) = r + n + 1 := by unfold wrap64; omega
    have e9 : r + (n + 1) = r + n + 1 := by omega
    rw [e9]
    have HB := Lib.hid hb
    clear hb e9
    have HW3 := Lib.hid hw3
    clear hw3
    go_enter Tryz.func12, Tryz.ntmps12
    go_wp2
    try rw [Exit.noGoto_ret]
    go_ret
    refine ⟨?_, fun S => Keeps.refl S w⟩
    show Ending.returned (.int .i64 (wrap64 (r + n + 1))) = _
    rw [HW3.out]
  · rw [if_neg hneg]
    have HB := Lib.hid hb
    clear hb
    go_enter Tryz.func12, Tryz.ntmps12
    go_wp2
    try rw [Exit.noGoto_ret]
    go_ret
    exact ⟨rfl, fun S => Keeps.refl S w⟩
set_option maxRecDepth 100000 in
set_option maxHeartbeats 2000000 in
theorem right_ (a : Ad) (ha : a.Wf) : Calls Tryz.prog 10 #[av a] w fun e w' => e = .returned (av (rightA a)) ∧ ∀ S, Keeps S w w' := by
  obtain ⟨w1, hw1, B0, K0⟩ : ∃ w1, w1 = w.alloc (.cells (adc a).toArray 24) ∧ Blk w1 w.heap.size 24 (adc a) ∧ ∀ S, Keeps S w w1 := ⟨_, rfl, Blk.new w _ _, fun S => (Keeps.refl S w).alloc _⟩
  obtain ⟨w2, hw2, B1, K1⟩ := new_zero w1
  have e1 : w1.heap.size = w.heap.size + 1 := by rw [hw1]; simp
  rw [e1] at B1
  have HB0 := Blk.keeps B0 (K1 (fun _ => False)) (fun z => z)
  have x0 := ad_v6 HB0
  have HK2 := Lib.hid (show ∀ S, Keeps S w w2 from fun S => (K0 S).trans (K1 S))
  have HB1 := Lib.hid B1
  have HBB := Lib.hid HB0
  have HW := Lib.hid (show w2 = _ from hw2.trans (by rw [hw1]))
  have HA := Lib.hid ha
  unfold av
  cases hv : a.v6 with
  | true =>
    have hr : rightA a = a := if_pos hv
    rw [hr]
    rw [hv] at x0
    have x0e := x0
    rw [HW.out] at x0e
    have HR := Lib.hid (Blk.range HBB.out)
    have HS := Lib.hid (ad_sz ha)
    obtain ⟨t1, t2, t3, t5, t6⟩ := over_ad ha B1 rfl
    have HT := Lib.hid (And.intro t1 (And.intro t2 t3))
    have BX := Lib.hid t5
    have KX := Lib.hid (glue_all (Nat.le_succ _) HK2.out t6)
    have HSY := Lib.hid (show (Tryz.prog.info? 24).map (·.size) = some (adc a).toArray.size from t2)
    clear hw1 hw2 B0 K0 B1 K1 e1 HB0 t1 t2 t3 t5 t6 hr
    generalize adc a = C at *
    go_enter Tryz.func10, Tryz.ntmps10
    go_wp2_with (first
      | ((with_reducible show wpList _ _ _ (⟨some 14, _, _, _, _, _⟩ :: _) _ _); rw [← HW.out]; refine wpList_load_mid rfl 24 _ rfl w.heap.size 0 rfl C _ HR.out Tryz.underlying24 rfl HS.out ?_)
      | (refine wpList_store_mid rfl 24 _ _ rfl (w.heap.size + 1) 0 C.toArray rfl rfl HT.out.1 HT.out.2.1 HT.out.2.2 ?_))
    try rw [Exit.noGoto_ret]
    refine bodyPost_ret (results_cell_row (p := 2) (ty := 24) (by kernel_rfl) _ _ (w.heap.size + 1) _ _ _ _ (by rfl) BX.out Tryz.underlying24 rfl HSY.out) rfl ?_
    exact ⟨rfl, KX.out⟩
  | false =>
    have hr : rightA a = ⟨false, zup a.B 16⟩ := if_neg (by rw [hv]; simp)
    rw [hr]
    rw [hv] at x0
    have x0e := x0
    rw [HW.out] at x0e
    have hI : Blk w2 w.heap.size 24 (adc ⟨false, zup a.B 4⟩) := by
      rw [zup_four]
      have : (⟨false, a.B⟩ : Ad) = a := by cases a; simp at hv; rw [hv]
      rw [this]
      exact HB0
    have HI := Lib.hid hI
    have HWF := Lib.hid (fun m => (⟨by rw [zup_len, ha.len], zup_lt ha.sm m⟩ : (⟨false, zup a.B m⟩ : Ad).Wf))
    clear hw1 hw2 B0 K0 B1 K1 e1 HB0 hr hI ha hv x0
    generalize a.B = B at *
    go_enter Tryz.func10, Tryz.ntmps10
    go_wp2_with fail
    rw [← HW.out]
    go_loopw [3] (fun i wr => ∃ m : Nat, 4 ≤ m ∧ m ≤ 16 ∧ i = .int .i64 (m : Int) ∧ Blk wr w.heap.size 24 (adc ⟨false, zup B m⟩) ∧ Blk wr (w.heap.size + 1) 24 (adc zeroA) ∧ ∀ S, Keeps S w wr) (fun i _ => 16 - (intOf i).toNat)
    case atStart => exact ⟨4, by omega, by omega, rfl, HI.out, HB1.out, HK2.out⟩
    case round =>
      obtain ⟨m, h4, h16, rfl, hb0, hb1, hk⟩ := hrel
      by_cases hlt : m < 16
      · have hlt' : (m : Int) < 16 := by omega
        have m0 : (0 : Int) ≤ (m : Int) := by omega
        have hw1 : wrap64 ((m : Int) + 1) = (m : Int) + 1 := by unfold wrap64; omega
        have xc := ad_byt (HWF.out m) hb0 hlt
        have xf := hb0.frozen (1 + m)
        have hput := hb0.put (1 + m) (.int .u8 0)
        have hfar := hb1.far (p := ⟨w.heap.size, 1 + m, none⟩) (by simp) (.int .u8 0)
        have hcs : (adc ⟨false, zup B m⟩).set (1 + m) (.int .u8 0) = adc ⟨false, zup B (m + 1)⟩ := by
          rw [Nat.add_comm 1 m, adc, List.set_cons_succ]
          have := b8_set (zup B m) m 0
          rw [zup_next B m h4] at this
          exact congrArg _ this.symm
        rw [hcs] at hput
        have HN := Lib.hid (show Blk _ _ _ _ ∧ Blk _ _ _ _ ∧ ∀ S, Keeps S w (wr.setCell ⟨w.heap.size, 1 + m, none⟩ (.int .u8 0)) from ⟨hput, hfar, fun S => (hk S).setCell (.inr (Nat.le_refl _)) _⟩)
        clear hb0 hb1 hk hput hfar hcs
        go_wp2_with fail
        go_roundw
        case rel => exact ⟨m + 1, by omega, by omega, by go_num, HN.out.1, HN.out.2.1, HN.out.2.2⟩
        case measure => simp [intOf]; omega
      · obtain rfl : m = 16 := by omega
        have HR := Lib.hid (Blk.range hb0)
        have hz := HWF.out 16
        have HS := Lib.hid (ad_sz hz)
        obtain ⟨t1, t2, t3, t5, t6⟩ := over_ad hz hb1 rfl
        have HT := Lib.hid (And.intro t1 (And.intro t2 t3))
        have BX := Lib.hid t5
        have KX := Lib.hid (glue_all (Nat.le_succ _) hk t6)
        have HSY := Lib.hid (show (Tryz.prog.info? 24).map (·.size) = some (adc ⟨false, zup B 16⟩).toArray.size from t2)
        clear hb0 hb1 hk t1 t2 t3 t5 t6 hz h4 h16 hlt
        generalize hC : adc ⟨false, zup B 16⟩ = C at *
        have HC := Lib.hid hC
        clear hC
        go_wp2_with (first
          | ((with_reducible show wpList _ _ _ (⟨some 14, _, _, _, _, _⟩ :: _) _ _); refine wpList_load_mid rfl 24 _ rfl w.heap.size 0 rfl C _ HR.out Tryz.underlying24 rfl HS.out ?_)
          | (refine wpList_store_mid rfl 24 _ _ rfl (w.heap.size + 1) 0 C.toArray rfl rfl HT.out.1 HT.out.2.1 HT.out.2.2 ?_))
        try rw [Exit.noGoto_ret]
        refine bodyPost_ret (results_cell_row (p := 2) (ty := 24) (by kernel_rfl) _ _ (w.heap.size + 1) _ _ _ _ (by rfl) BX.out Tryz.underlying24 rfl HSY.out) rfl ?_
        exact ⟨by rw [HC.out], KX.out⟩
end
end Go.Proofs.YtgcdhfpbmcfedaaGreatDoor.pf
