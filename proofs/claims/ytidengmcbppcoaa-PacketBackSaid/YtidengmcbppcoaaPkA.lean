/-
  Cells of addresses, their ==; prefix.CheckAddr.
-/
import Derived.Test.YtidengmcbppcoaaPfB
import Derived.Test.YtidengmcbppcoaaOcB
import Derived.Test.YtidengmcbppcoaaWh
import Derived.Test.YtidengmcbppcoaaMzK2
import Derived.Test.YtidengmcbppcoaaQk
import Derived.Test.YtidengmcbppcoaaProg
import Derived.WalkLawsBesides
import Derived.WalkSpells
import Derived.Outline
import Derived.Lib.Hide
import Derived.IntWalk
import Derived.WalkMore
import Derived.RegionTactic
import Derived.RegionCalls
import Derived.BigRegion
import Derived.Deep.LoopGhost
import Derived.Deep.RegionHeld3
import Derived.StillTailTactics
import Derived.Deep.QuietTactic
import Derived.BigQuiet
set_option linter.unusedVariables false
set_option linter.unusedSimpArgs false
namespace Go.Proofs.Ytidengmcbppcoaa.pk
open Go.RowKit Go.Proofs.Ytidengmcbppcoaa.oc Go.Proofs.Ytidengmcbppcoaa.mz Go.Proofs.Ytidengmcbppcoaa.pf Go.Proofs.Ytidengmcbppcoaa.wh Go.Proofs.Ytidengmcbppcoaa.qk
def b8s (l : List Nat) : List Value := l.map (fun (x : Nat) => Value.int .u8 (x : Int))
def adc (a : Ad) : List Value := .bool a.v6 :: b8s a.B
def av (a : Ad) : Value := .agg (adc a).toArray
theorem b8_one (l : List Nat) : ∀ v ∈ b8s l, v.oneCell' = true := fun v hv => by
  obtain ⟨x, _, rfl⟩ := List.mem_map.1 hv; rfl
theorem adc_len {a : Ad} (h : a.Wf) : (adc a).length = 17 := by simp [adc, b8s, h.len]
theorem adc_one (a : Ad) : ∀ v ∈ adc a, v.oneCell' = true := fun v hv => by
  rcases List.mem_cons.1 hv with rfl | q
  · rfl
  · exact b8_one _ v q
theorem ad_v6 {a : Ad} {w : World} {P : Nat} {T : TypeId} (h : Blk w P T (adc a)) : w.cell? ⟨P, 0, none⟩ = some (.bool a.v6) := by rw [h.cell]; rfl
theorem addr_info : (Try.prog.info? 24).map (·.size) = some 17 := by kernel_rfl
theorem ad_info : (Try.prog.info? 24).map (·.size) = some 17 := addr_info
theorem over_all {w : World} {Q : Nat} {T : TypeId} {cs vs : List Value} (h : Blk w Q T cs) (hl : vs.length = cs.length) : w.there Q 0 vs.toArray.size ∧ Blk (w.setCells Q 0 vs) Q T vs ∧ Keeps (· = Q) w (w.setCells Q 0 vs) := by
  have ht := wh.Blk.thereAll h
  rw [← hl] at ht
  exact ⟨by rw [List.size_toArray]; exact ht, wh.Blk.setAll h vs hl, wh.keeps_setCells Q vs w 0⟩
open Classical in
noncomputable def errA (a : Ad) : Int := if okA a then 0 else 150
theorem errA_ok {a : Ad} (h : okA a) : errA a = 0 := by unfold errA; rw [if_pos h]
theorem errA_no {a : Ad} (h : ¬ okA a) : errA a = 150 := by unfold errA; rw [if_neg h]
def cut (B : List Nat) (k : Nat) : List Nat := B.mapIdx fun j x => x / 2 ^ (8 * j + 8 - k) * 2 ^ (8 * j + 8 - k)
theorem clr_cut (a : Ad) (k : Nat) : (clr a k).B = cut a.B k := rfl
theorem b8_len (l : List Nat) : (b8s l).length = l.length := by simp [b8s]
theorem b8_set (B : List Nat) (k x : Nat) : b8s (B.set k x) = (b8s B).set k (.int .u8 (x : Int)) := by simp [b8s, List.map_set]
theorem b8_get {w : World} {P : Nat} {T : TypeId} {B : List Nat} (hl : B.length = 16) (h : Blk w P T (b8s B)) {i : Nat} (hi : i < 16) : w.cell? ⟨P, i, none⟩ = some (.int .u8 ((B[i]?.getD 0 : Nat) : Int)) := by
  rw [h.cell, b8s, List.getElem?_map, List.getElem?_eq_getElem (by rw [hl]; exact hi)]; rfl
theorem arr_info : (Try.prog.info? 22).map (·.size) = some 16 := by kernel_rfl
theorem mask_form : ∀ x : Fin 256, ∀ s : Fin 9, bits .and .u8 ((x.val : Nat) : Int) ((255 : Int) * 2 ^ s.val % 256) = ((x.val / 2 ^ s.val * 2 ^ s.val : Nat) : Int) := by decide +kernel
theorem big_div {x s : Nat} (hx : x < 256) (hs : 8 ≤ s) : x / 2 ^ s * 2 ^ s = 0 := by
  have h8 : (256 : Nat) ≤ 2 ^ s := Nat.pow_le_pow_right (n := 2) (by omega) hs
  rw [Nat.div_eq_of_lt (by omega), Nat.zero_mul]
section
variable (w : World)
set_option maxRecDepth 100000 in
set_option maxHeartbeats 1000000 in
theorem pwidth_ (a : Ad) : Calls Try.prog 71 #[av a] w fun e w' => e = .returned (.int .i64 (wid a : Int)) ∧ ∀ S, Keeps S w w' := by
  have b1 := Blk.new w 24 (adc a).toArray
  have x0 := ad_v6 b1
  have hc := wid_cases a
  unfold av
  generalize (adc a).toArray = C at *
  clear b1
  rcases hc with ⟨h, e⟩ | ⟨h, e⟩
  all_goals
    rw [h] at x0
    rw [e]
    clear h e
    go_enter Try.func71, Try.ntmps71
    go_wp2
    try rw [Exit.noGoto_ret]
    go_ret
    exact ⟨rfl, fun S => (Keeps.refl S w).alloc _⟩
structure FB (w wr : World) (B : List Nat) (k i : Nat) (L : List Nat) : Prop where
  b0 : Blk wr w.heap.size 22 (b8s L)
  b1 : Blk wr (w.heap.size + 1) 22 (b8s (List.replicate 16 0))
  kp : ∀ S, Keeps S w wr
  len : L.length = 16
  lt : ∀ x ∈ L, x < 256
  at_ : ∀ j, j < 16 → L[j]?.getD 0 = if j < i then B[j]?.getD 0 / 2 ^ (8 * j + 8 - k) * 2 ^ (8 * j + 8 - k) else B[j]?.getD 0
theorem getD_lt {L : List Nat} (h : ∀ x ∈ L, x < 256) (j : Nat) : L[j]?.getD 0 < 256 := by
  rcases Nat.lt_or_ge j L.length with q | q
  · rw [List.getElem?_eq_getElem q]; exact h _ (List.getElem_mem q)
  · rw [List.getElem?_eq_none q]; simp
theorem FB.next {w wr : World} {B L : List Nat} {k i y : Nat} (h : FB w wr B k i L) (hi : i < 16) (hy : y = L[i]?.getD 0 / 2 ^ (8 * i + 8 - k) * 2 ^ (8 * i + 8 - k)) : FB w (wr.setCell ⟨w.heap.size, i, none⟩ (.int .u8 (y : Int))) B k (i + 1) (L.set i y) := by
  have hx := getD_lt h.lt i
  have hy2 : y < 256 := by subst hy; exact Nat.lt_of_le_of_lt (Nat.div_mul_le_self _ _) hx
  refine ⟨by rw [b8_set]; exact h.b0.put i _, h.b1.far (by simp) _, fun S => (h.kp S).setCell (.inr (Nat.le_refl _)) _, by simp [h.len], fun x hx => ?_, fun j hj => ?_⟩
  · rcases List.mem_or_eq_of_mem_set hx with q | q
    · exact h.lt x q
    · rw [q]; exact hy2
  · rw [List.getElem?_set]
    by_cases e : i = j
    · subst e
      rw [if_pos rfl, if_pos (by rw [h.len]; exact hi), if_pos (by omega), Option.getD_some, hy, h.at_ i hi, if_neg (by omega)]
    · rw [if_neg e, h.at_ j hj]
      by_cases c : j < i
      · rw [if_pos c, if_pos (by omega)]
      · rw [if_neg c, if_neg (by omega)]
theorem FB.drew {w wr : World} {B L : List Nat} {k i : Nat} (h : FB w wr B k i L) : FB w wr.drew B k i L := ⟨h.b0, h.b1, fun S => (h.kp S).drew, h.len, h.lt, h.at_⟩
theorem FB.done {w wr : World} {B L : List Nat} {k : Nat} (h : FB w wr B k 16 L) (hB : B.length = 16) : L = cut B k := by
  refine List.ext_getElem? fun j => ?_
  rcases Nat.lt_or_ge j 16 with q | q
  · have e1 := h.at_ j q
    rw [if_pos q] at e1
    rw [List.getElem?_eq_getElem (by rw [h.len]; exact q), List.getElem?_eq_getElem (by rw [hB]; exact q)] at e1
    simp only [Option.getD_some] at e1
    simp only [cut, List.getElem?_mapIdx]
    rw [List.getElem?_eq_getElem (by rw [h.len]; exact q), List.getElem?_eq_getElem (by rw [hB]; exact q), e1]; rfl
  · rw [List.getElem?_eq_none (by rw [h.len]; exact q), List.getElem?_eq_none (by simp [cut, hB]; exact q)]
set_option maxRecDepth 100000 in
set_option maxHeartbeats 4000000 in
theorem first_ (B : List Nat) (k : Nat) (hB : B.length = 16) (hb : ∀ x ∈ B, x < 256) (hk : k ≤ 128) : Calls Try.prog 70 #[.agg (b8s B).toArray, .int .i64 (k : Int)] w fun e w' => e = .returned (.agg (b8s (cut B k)).toArray) ∧ ∀ S, Keeps S w w' := by
  have b0 := (Blk.new w 22 (b8s B).toArray).alloc (.cells #[.int .u8 0, .int .u8 0, .int .u8 0, .int .u8 0, .int .u8 0, .int .u8 0, .int .u8 0, .int .u8 0, .int .u8 0, .int .u8 0, .int .u8 0, .int .u8 0, .int .u8 0, .int .u8 0, .int .u8 0, .int .u8 0] 22)
  have b1 := Blk.new (w.alloc (.cells (b8s B).toArray 22)) 22 #[.int .u8 0, .int .u8 0, .int .u8 0, .int .u8 0, .int .u8 0, .int .u8 0, .int .u8 0, .int .u8 0, .int .u8 0, .int .u8 0, .int .u8 0, .int .u8 0, .int .u8 0, .int .u8 0, .int .u8 0, .int .u8 0]
  rw [World.size_alloc] at b1
  obtain ⟨w1, hw1⟩ : ∃ w1, w1 = (w.alloc (.cells (b8s B).toArray 22)).alloc (.cells #[.int .u8 0, .int .u8 0, .int .u8 0, .int .u8 0, .int .u8 0, .int .u8 0, .int .u8 0, .int .u8 0, .int .u8 0, .int .u8 0, .int .u8 0, .int .u8 0, .int .u8 0, .int .u8 0, .int .u8 0, .int .u8 0] 22) := ⟨_, rfl⟩
  rw [← hw1] at b0 b1
  have k1 : ∀ S, Keeps S w w1 := fun S => by rw [hw1]; exact ((Keeps.refl S w).alloc _).alloc _
  have HI := Lib.hid (show FB w w1 B k 0 B from ⟨b0, b1, k1, hB, hb, fun j hj => by rw [if_neg (by omega)]⟩)
  have HW := Lib.hid hw1
  have HBL := Lib.hid hB
  have k0 : (0 : Int) ≤ (k : Int) := by omega
  have k9 : (k : Int) ≤ 128 := by omega
  clear b0 b1 k1 hw1 hB hb
  go_enter Try.func70, Try.ntmps70
  go_wp2_with fail
  rw [← HW.out]
  go_loopw [7] (fun i wr => ∃ (m : Nat) (L : List Nat), m ≤ 16 ∧ i = .int .i64 (m : Int) ∧ FB w wr B k m L) (fun i _ => 16 - (intOf i).toNat)
  case atStart => exact ⟨0, B, by omega, rfl, HI.out⟩
  case round =>
    obtain ⟨m, L, h1, rfl, hf⟩ := hrel
    by_cases hlt : m < 16
    · have hlt' : (m : Int) < 16 := by omega
      have m0 : (0 : Int) ≤ (m : Int) := by omega
      have hx := getD_lt hf.lt m
      have xc := b8_get hf.len hf.b0 hlt
      have xf := hf.b0.frozen m
      have HF := Lib.hid hf
      clear hf HI HW hlt
      obtain ⟨kp, hkp, hs⟩ : ∃ kp : Nat, kp = min (k - 8 * m) 8 ∧ kp ≤ 8 := ⟨_, rfl, by omega⟩
      have hmax : (if (k : Int) - 8 * (m : Int) < 0 then 0 else (k : Int) - 8 * (m : Int)) = ((k - 8 * m : Nat) : Int) := by split <;> omega
      have hmin : (if (8 : Int) < ((k - 8 * m : Nat) : Int) then 8 else ((k - 8 * m : Nat) : Int)) = (kp : Int) := by split <;> omega
      have HKP := Lib.hid hkp
      obtain ⟨s, hs8⟩ : ∃ s : Nat, (8 : Int) - (kp : Int) = (s : Int) := ⟨8 - kp, by omega⟩
      have s8 : s ≤ 8 := by omega
      have s0 : (0 : Int) ≤ (s : Int) := by omega
      obtain ⟨y, hy⟩ : ∃ y, y = L[m]?.getD 0 / 2 ^ (8 * m + 8 - k) * 2 ^ (8 * m + 8 - k) := ⟨_, rfl⟩
      have hmk := mask_form ⟨L[m]?.getD 0, hx⟩ ⟨s, by omega⟩
      simp only at hmk
      have hys : L[m]?.getD 0 / 2 ^ s * 2 ^ s = y := by
        rw [hy]
        by_cases c : 8 * m < k
        · rw [show 8 * m + 8 - k = s from by omega]
        · rw [big_div hx (s := 8 * m + 8 - k) (by omega), show s = 8 from by omega, big_div hx (by omega)]
      rw [hys] at hmk
      have HY := Lib.hid hy
      clear hkp hy hys
      generalize hxe : L[m]?.getD 0 = x at *
      have HXE := Lib.hid hxe
      clear hxe
      go_wp2_with fail
      go_region
      have hn := (HF.out.next (by omega) (HXE.out ▸ HY.out)).drew
      clear hmk xc xf hs8 hmax hmin
      generalize (wr.setCell ⟨w.heap.size, m, none⟩ (.int .u8 (y : Int))).drew = w9 at *
      go_wp2_with fail
      go_roundw
      case rel => exact ⟨m + 1, L.set m y, by omega, by go_num, hn⟩
      case measure => simp [intOf]; omega
    · obtain rfl : m = 16 := by omega
      have hL := hf.done HBL.out
      subst hL
      have HR := Lib.hid (wh.Blk.range hf.b0)
      obtain ⟨t0, b9, k9'⟩ := over_all (vs := b8s (cut B k)) hf.b1 (by rw [b8_len, hf.len]; rfl)
      have HSZ := Lib.hid (show (Try.prog.info? 22).map (·.size) = some (b8s (cut B k)).length from by rw [b8_len, hf.len]; exact arr_info)
      have HSY := Lib.hid (show (Try.prog.info? 22).map (·.size) = some (b8s (cut B k)).toArray.size from by rw [List.size_toArray, b8_len, hf.len]; exact arr_info)
      have HON := Lib.hid (all_oneCell_toArray (b8_one (cut B k)))
      have HT := Lib.hid t0
      have B9 := Lib.hid b9
      have K9 : Hid (∀ S, Keeps S w (wr.setCells (w.heap.size + 1) 0 (b8s (cut B k)))) := Lib.hid (fun S => by
        have kk := hf.kp S
        exact ⟨Nat.le_trans kk.size k9'.size, fun x hx hs => by rw [k9'.block x (Nat.lt_of_lt_of_le hx kk.size) (by omega), kk.block x hx hs], kk.same.trans k9'.same⟩)
      clear t0 b9 k9' hf HI HW hlt
      generalize hD : b8s (cut B k) = D at *
      have HD := Lib.hid hD
      clear hD
      go_wp2_with (first
        | (refine wpList_load_mid rfl 22 _ rfl w.heap.size 0 rfl D _ HR.out Try.underlying22 rfl HSZ.out ?_)
        | (refine wpList_store_mid rfl 22 _ _ rfl (w.heap.size + 1) 0 D.toArray rfl rfl HT.out HSY.out HON.out ?_))
      try rw [Exit.noGoto_ret]
      refine bodyPost_ret (results_cell_row (p := 4) (ty := 22) (by kernel_rfl) _ _ (w.heap.size + 1) _ _ _ _ (by rfl) B9.out Try.underlying22 rfl HSY.out) rfl ?_
      exact ⟨by rw [HD.out], K9.out⟩
end
theorem part_u8 (l : List Nat) (i : Nat) (h : i < l.length) (w : World) : (part 5 (b8s l).toArray i).run Try.prog w = .ok (.int .u8 ((l[i]'h : Nat) : Int)) w := by
  have hg : (b8s l)[i]? = some (.int .u8 ((l[i]'h : Nat) : Int)) := by simp [b8s, List.getElem?_eq_getElem h]
  simp [part, Try.isAgg5, Sem.run_bind, hg, go_sem]
theorem beq_drop {xs ys : List Nat} {a : Nat} (hx : a < xs.length) (hy : a < ys.length) : (xs.drop a == ys.drop a) = ((xs[a] == ys[a]) && (xs.drop (a + 1) == ys.drop (a + 1))) := by
  rw [List.drop_eq_getElem_cons hx, List.drop_eq_getElem_cons hy]
  rfl
theorem loop_eq (d : Nat) (xs ys : List Nat) (m : Nat) (hx : xs.length = m) (hy : ys.length = m) (w : World) : ∀ (n a : Nat), a + n = m →
    (Sem.run Try.prog (forIn (List.range' a n) ((none : Option Bool), ()) fun i __s => do
      let __do_lift ← part 5 (b8s xs).toArray (i * 1)
      let __do_lift_1 ← part 5 (b8s ys).toArray (i * 1)
      let __do_lift ← Op.equalIn (d + 1) 5 __do_lift __do_lift_1
      if (!__do_lift) = true then pure (ForInStep.done (some false, ())) else pure (ForInStep.yield (none, ()))) w) = .ok (if xs.drop a == ys.drop a then (none, ()) else (some false, ())) w
  | 0, a, h => by
    have e1 : xs.drop a = [] := List.drop_eq_nil_of_le (by omega)
    have e2 : ys.drop a = [] := List.drop_eq_nil_of_le (by omega)
    rw [e1, e2]
    simp [Sem.run_pure]
  | n + 1, a, h => by
    have ih := loop_eq d xs ys m hx hy w n (a + 1) (by omega)
    have p1 := part_u8 xs a (by omega) w
    have p2 := part_u8 ys a (by omega) w
    rw [List.range'_succ, List.forIn_cons, beq_drop (by omega) (by omega)]
    have he := run_equalIn_int (P := Try.prog) (w := w) d 5 .u8 .u8 ((xs[a]'(by omega) : Nat) : Int) ((ys[a]'(by omega) : Nat) : Int) Try.underlying5
    rw [Nat.mul_one]
    simp only [Sem.run_bind, p1, p2, Result.andThen_ok, he]
    by_cases hq : xs[a]'(by omega) = ys[a]'(by omega)
    · have hqi : ((xs[a]'(by omega) : Nat) : Int) == ((ys[a]'(by omega) : Nat) : Int) := by rw [hq]; simp
      rw [hqi]
      simp only [Bool.not_true, Bool.false_eq_true, if_false, Sem.run_pure, Result.andThen_ok]
      rw [ih]
      simp [hq]
    · have hqi : (((xs[a]'(by omega) : Nat) : Int) == ((ys[a]'(by omega) : Nat) : Int)) = false := by simpa using fun e => hq (by omega)
      rw [hqi]
      simp [hq, Sem.run_pure]
theorem arr_eq (d : Nat) (xs ys : List Nat) (hx : xs.length = 16) (hy : ys.length = 16) (w : World) : (Op.equalIn (d + 2) 22 (.agg (b8s xs).toArray) (.agg (b8s ys).toArray)).run Try.prog w = .ok (xs == ys) w := by
  unfold Op.equalIn
  have h2 := run_underlying (P := Try.prog) Try.underlying22 w
  rw [Sem.run_bind, h2]
  simp only [Result.andThen_ok, Std.Legacy.Range.forIn_eq_forIn_range', Std.Legacy.Range.size, Sem.run_bind, Try.sizeOf5]
  have hl := loop_eq d xs ys 16 hx hy w 16 0 rfl
  simp only [Nat.sub_zero, Nat.add_sub_cancel, Nat.div_one]
  rw [hl]
  simp only [List.drop_zero, Result.andThen_ok]
  by_cases hq : xs = ys
  · subst hq; simp [Sem.run_pure]
  · simp [hq, Sem.run_pure]
theorem agg_of {t : TypeId} (h : (Try.prog.underlying t).map (·.isRow) = some true) (w : World) : (isAgg t).run Try.prog w = .ok true w := by
  cases hu : Try.prog.underlying t with
  | none => simp [hu] at h
  | some d =>
    unfold isAgg
    rw [Sem.run_bind, run_underlying hu w]
    cases d <;> simp_all [TypeDesc.isRow]
theorem size_of {t : TypeId} {n : Nat} (h : (Try.prog.info? t).map (·.size) = some n) (w : World) : (sizeOf t).run Try.prog w = .ok n w := by
  cases hq : Try.prog.info? t with
  | none => simp [hq] at h
  | some i => simp [hq] at h; simp [sizeOf, typeInfo, hq, h]
theorem part_row {t : TypeId} {n : Nat} (hr : (Try.prog.underlying t).map (·.isRow) = some true) (hn : (Try.prog.info? t).map (·.size) = some n) (l : List Value) (o : Nat) (w : World) : (part t l.toArray o).run Try.prog w = .ok (.agg ((l.drop o).take n).toArray) w := by
  have he : l.toArray.extract o (o + n) = ((l.drop o).take n).toArray := by simp [List.extract]
  simp only [part, Sem.run_bind, agg_of hr w, Result.andThen_ok, size_of hn w, if_true, Sem.run_pure, he]
theorem eqF (P : Program) (w : World) (d : Nat) (xs ys : Array Value) (f : Field) (fs : List Field) (t : TypeId) (o : Nat) (x y : Value) (b : Bool) (hn : (f.name == "_") = false) (ht : f.type = t) (ho : f.offset = o)
    (hx : (part t xs o).run P w = .ok x w) (hy : (part t ys o).run P w = .ok y w) (he : (Op.equalIn d t x y).run P w = .ok b w) :
    (Op.eqFields d xs ys (f :: fs)).run P w = if b then (Op.eqFields d xs ys fs).run P w else .ok false w := by
  subst ht
  subst ho
  have hn' : f.name ≠ "_" := by intro e; rw [e] at hn; simp at hn
  rw [Op.eqFields, if_pos hn', Sem.run_bind, hx, Result.andThen_ok, Sem.run_bind, hy, Result.andThen_ok, Sem.run_bind, he, Result.andThen_ok]
  cases b
  · rfl
  · rfl
instance : DecidableEq Ad := fun a b => decidable_of_iff (a.v6 = b.v6 ∧ a.B = b.B) ⟨fun h => Ad.eq_of h.1 h.2, fun h => by rw [h]; exact ⟨rfl, rfl⟩⟩
theorem beq_ad (a b : Ad) : (a.v6 == b.v6 && a.B == b.B) = decide (a = b) := by
  cases a; cases b
  rw [Bool.eq_iff_iff]
  simp
theorem addr_fields : ((Try.prog.fieldsOf 24).toList.map (fun f => (f.name == "_", f.type, f.offset))) = [(false, 4, 0), (false, 22, 1)] := by kernel_rfl
theorem part_one {t : TypeId} (ha : ∀ w, (isAgg t).run Try.prog w = .ok false w) (l : List Value) (o : Nat) (x : Value) (h : l[o]? = some x) (w : World) : (part t l.toArray o).run Try.prog w = .ok x w := by
  simp [part, ha w, Sem.run_bind, h, go_sem]
theorem addr_eqd (d : Nat) (a b : Ad) (ha : a.Wf) (hb : b.Wf) (w : World) : (Op.equalIn (d + 3) 24 (av a) (av b)).run Try.prog w = .ok (decide (a = b)) w := by
  unfold av
  have h := run_equalIn_struct (P := Try.prog) (w := w) (d + 2) 24 (adc a).toArray (adc b).toArray (by kernel_rfl) (by kernel_rfl)
  rw [h]
  have hf := addr_fields
  generalize (Try.prog.fieldsOf 24).toList = fs at hf
  obtain ⟨f1, fs, rfl⟩ : ∃ f r, fs = f :: r := by cases fs with | nil => simp at hf | cons a b => exact ⟨_, _, rfl⟩
  obtain ⟨f2, fs, rfl⟩ : ∃ f r, fs = f :: r := by cases fs with | nil => simp at hf | cons a b => exact ⟨_, _, rfl⟩
  simp only [List.map_cons, List.cons.injEq, Prod.mk.injEq, List.map_eq_nil_iff] at hf
  obtain ⟨⟨n1, t1, o1⟩, ⟨n2, t2, o2⟩, rfl⟩ := hf
  have a1 := part_one (t := 4) Try.isAgg4 (adc a) 0 (.bool a.v6) rfl w
  have a2 := part_one (t := 4) Try.isAgg4 (adc b) 0 (.bool b.v6) rfl w
  have b1 := part_row (t := 22) (n := 16) (by kernel_rfl) arr_info (adc a) 1 w
  have b2 := part_row (t := 22) (n := 16) (by kernel_rfl) arr_info (adc b) 1 w
  have e1 : ((adc a).drop 1).take 16 = b8s a.B := by rw [show (adc a).drop 1 = b8s a.B from rfl, List.take_of_length_le (by rw [b8_len, ha.len]; omega)]
  have e2 : ((adc b).drop 1).take 16 = b8s b.B := by rw [show (adc b).drop 1 = b8s b.B from rfl, List.take_of_length_le (by rw [b8_len, hb.len]; omega)]
  rw [e1] at b1
  rw [e2] at b2
  have h1 := run_equalIn_bool (P := Try.prog) w (d + 1) 4 a.v6 b.v6 Try.underlying4
  have h2 := arr_eq d a.B b.B ha.len hb.len w
  rw [eqF _ w _ _ _ f1 _ _ _ _ _ _ n1 t1 o1 a1 a2 h1, eqF _ w _ _ _ f2 _ _ _ _ _ _ n2 t2 o2 b1 b2 h2, ← beq_ad]
  cases (a.v6 == b.v6) <;> cases (a.B == b.B) <;> rfl
theorem b8_equ (xs ys : List Nat) (hx : xs.length = 16) (hy : ys.length = 16) (w : World) : (Op.equalIn 10000 22 (.agg (b8s xs).toArray) (.agg (b8s ys).toArray)).run Try.prog w = .ok (xs == ys) w := by
  have h := arr_eq 9998 xs ys hx hy w
  simp only [Nat.reduceAdd] at h
  exact h
theorem addr_equ (a b : Ad) (ha : a.Wf) (hb : b.Wf) (w : World) : (Op.equalIn 10000 24 (av a) (av b)).run Try.prog w = .ok (decide (a = b)) w := by
  have h := addr_eqd 9997 a b ha hb w
  simp only [Nat.reduceAdd] at h
  exact h
theorem b8_eql (xs ys : List Nat) (hx : xs.length = 16) (hy : ys.length = 16) (w : World) : (binOp .eql 22 (.agg (b8s xs).toArray) (.agg (b8s ys).toArray)).run Try.prog w = .ok (.bool (xs == ys)) w := by
  have h := arr_eq 9998 xs ys hx hy w
  simp only [Nat.reduceAdd] at h
  rw [run_eql_struct, h]; rfl
theorem b8_neq (xs ys : List Nat) (hx : xs.length = 16) (hy : ys.length = 16) (w : World) : (binOp .neq 22 (.agg (b8s xs).toArray) (.agg (b8s ys).toArray)).run Try.prog w = .ok (.bool (!(xs == ys))) w := by
  have h := arr_eq 9998 xs ys hx hy w
  simp only [Nat.reduceAdd] at h
  rw [run_neq_struct, h]; rfl
theorem addr_eql (a b : Ad) (ha : a.Wf) (hb : b.Wf) (w : World) : (binOp .eql 24 (av a) (av b)).run Try.prog w = .ok (.bool (decide (a = b))) w := by
  have h := addr_eqd 9997 a b ha hb w
  simp only [Nat.reduceAdd] at h
  unfold av at h ⊢
  rw [run_eql_struct, h]; rfl
theorem addr_neq (a b : Ad) (ha : a.Wf) (hb : b.Wf) (w : World) : (binOp .neq 24 (av a) (av b)).run Try.prog w = .ok (.bool (!decide (a = b))) w := by
  have h := addr_eqd 9997 a b ha hb w
  simp only [Nat.reduceAdd] at h
  unfold av at h ⊢
  rw [run_neq_struct, h]; rfl
theorem cut_len (B : List Nat) (k : Nat) : (cut B k).length = B.length := by simp [cut]
theorem cut_lt {B : List Nat} (h : ∀ x ∈ B, x < 256) (k : Nat) : ∀ x ∈ cut B k, x < 256 := fun x hx => by
  obtain ⟨i, hi, rfl⟩ := List.getElem_of_mem hx
  simp only [cut, List.getElem_mapIdx]
  exact Nat.lt_of_le_of_lt (Nat.div_mul_le_self _ _) (h _ (List.getElem_mem _))
/-- an address may be just if its bits behind its width are 0 -/
theorem okA_cut {a : Ad} (ha : a.Wf) : (a.B = cut a.B (wid a)) ↔ okA a := by
  have hw := (wid_le a).1
  rw [okA_bits ha, ← clr_cut]
  constructor
  · intro h i h1 h2
    have e : bit a i = bit (clr a (wid a)) i := by rw [← Ad.eq_of (a := a) (b := clr a (wid a)) rfl h]
    rw [e, clr_bit ha _ _ h2, decide_eq_false (by omega)]; rfl
  · intro h
    have e : a = clr a (wid a) := Ad.ext_bit ha (clr_wf ha _) rfl fun i hi => by
      rw [clr_bit ha _ _ hi]
      by_cases c : i < wid a
      · rw [decide_eq_true c]; rfl
      · rw [decide_eq_false c, h i (by omega) hi]; rfl
    exact congrArg Ad.B e
/-- an address's bytes, within it -/
theorem ad_bytes {w : World} {P : Nat} {T : TypeId} {a : Ad} (h : Blk w P T (adc a)) : w.rangeAt P 1 (b8s a.B) := fun j v hv => by
  rw [h.cell, Nat.add_comm 1 j, adc, List.getElem?_cons_succ]; exact hv
theorem b8_info {B : List Nat} (h : B.length = 16) : (Try.prog.info? 22).map (·.size) = some (b8s B).length := by rw [b8_len, h]; exact arr_info
section
variable (w : World)
set_option maxRecDepth 100000 in
set_option maxHeartbeats 2000000 in
theorem pcheckaddr_ (a : Ad) (ha : a.Wf) : Calls Try.prog 57 #[av a] w fun e w' => e = .returned (.int .i64 (errA a)) ∧ ∀ S, Keeps S w w' := by
  obtain ⟨w1, hw1, k1, b1⟩ := enter_blk w (adc a).toArray 24
  have HCW := fun w => Lib.hid (pwidth_ w a)
  have HCF := fun w => Lib.hid (first_ w a.B (wid a) ha.len ha.sm (wid_le a).1)
  have HSA := Lib.hid (show (Try.prog.info? 24).map (·.size) = some (adc a).length from by rw [adc_len ha]; exact addr_info)
  have HSB := Lib.hid (b8_info ha.len)
  have HF : ∀ w', Old w1 w' → w'.rangeAt w.heap.size 0 (adc a) ∧ w'.rangeAt w.heap.size 1 (b8s a.B) := fun w' h => ⟨Blk.range (h.blk b1), ad_bytes (h.blk b1)⟩
  have HN := fun w => Lib.hid (b8_equ a.B (cut a.B (wid a)) ha.len ((cut_len _ _).trans ha.len) w)
  obtain ⟨E, hE⟩ : ∃ E, E = errA a := ⟨_, rfl⟩
  obtain ⟨r, hr⟩ : ∃ r : Bool, r = (a.B == cut a.B (wid a)) := ⟨_, rfl⟩
  have HE : Hid (E = if r = true then 0 else 150) := Lib.hid (by
    have hk := okA_cut ha
    rw [hr, hE]
    by_cases h : a.B = cut a.B (wid a)
    · rw [errA_ok (hk.1 h), if_pos (by simpa using h)]
    · rw [errA_no (fun z => h (hk.2 z)), if_neg (by simpa using h)])
  rw [← hr] at HN
  rw [← hE]
  have HW := Lib.hid hw1
  have K1 : Hid (∀ S, Keeps S w w1) := Lib.hid k1
  unfold av at HCW ⊢
  clear hE hr hw1 k1 b1 ha
  generalize b8s (cut a.B (wid a)) = D2 at *
  generalize b8s a.B = D1 at *
  generalize adc a = C at *
  generalize wid a = W at *
  go_enter Try.func57, Try.ntmps57
  go_wp2_with fail
  rw [← HW.out]

  refine q_region (by kernel_rfl) (by kernel_rfl) (Old.refl w1) ?_
  --@0
  refine q_any (by kernel_rfl) ?_ (fun wq hC => ?_) ?_
  rotate_left
  · (go_simp) <;> (try (with_reducible rfl))
  try simp only [Act.put, Array.getInternal_eq_getElem, List.getElem_toArray, List.getElem_cons_zero, List.getElem_cons_succ, List.setIfInBounds_toArray, List.set_cons_zero, List.set_cons_succ]
  --@1
  refine q_load (by kernel_rfl) 22 _ rfl w.heap.size 1 rfl D1 _ (fun wq hC => (HF wq hC).2) Try.underlying22 rfl HSB.out ?_
  try simp only [Act.put, Array.getInternal_eq_getElem, List.getElem_toArray, List.getElem_cons_zero, List.getElem_cons_succ, List.setIfInBounds_toArray, List.set_cons_zero, List.set_cons_succ]
  --@2
  refine q_any (by kernel_rfl) ?_ (fun wq hC => ?_) ?_
  rotate_left
  · (go_simp) <;> (try (with_reducible rfl))
  try simp only [Act.put, Array.getInternal_eq_getElem, List.getElem_toArray, List.getElem_cons_zero, List.getElem_cons_succ, List.setIfInBounds_toArray, List.set_cons_zero, List.set_cons_succ]
  --@3
  refine q_load (by kernel_rfl) 22 _ rfl w.heap.size 1 rfl D1 _ (fun wq hC => (HF wq hC).2) Try.underlying22 rfl HSB.out ?_
  try simp only [Act.put, Array.getInternal_eq_getElem, List.getElem_toArray, List.getElem_cons_zero, List.getElem_cons_succ, List.setIfInBounds_toArray, List.set_cons_zero, List.set_cons_succ]
  --@4
  refine q_load (by kernel_rfl) 24 _ rfl w.heap.size 0 rfl C _ (fun wq hC => (HF wq hC).1) Try.underlying24 rfl HSA.out ?_
  try simp only [Act.put, Array.getInternal_eq_getElem, List.getElem_toArray, List.getElem_cons_zero, List.getElem_cons_succ, List.setIfInBounds_toArray, List.set_cons_zero, List.set_cons_succ]
  --@5
  refine q_call (by kernel_rfl) (fun wq hC => old_call hC (HCW wq).out) (fun wq => ?_) ?_
  · go_simp <;> (try (with_reducible rfl))
  try simp only [Act.put, Array.getInternal_eq_getElem, List.getElem_toArray, List.getElem_cons_zero, List.getElem_cons_succ, List.setIfInBounds_toArray, List.set_cons_zero, List.set_cons_succ]
  --@6
  refine q_call (by kernel_rfl) (fun wq hC => old_call hC (HCF wq).out) (fun wq => ?_) ?_
  · go_simp <;> (try (with_reducible rfl))
  try simp only [Act.put, Array.getInternal_eq_getElem, List.getElem_toArray, List.getElem_cons_zero, List.getElem_cons_succ, List.setIfInBounds_toArray, List.set_cons_zero, List.set_cons_succ]
  --@7
  refine q_any (by kernel_rfl) ?_ (fun wq hC => ?_) ?_
  rotate_left
  · (have hN := (HN wq).out; go_simp) <;> (try (with_reducible rfl))
  try simp only [Act.put, Array.getInternal_eq_getElem, List.getElem_toArray, List.getElem_cons_zero, List.getElem_cons_succ, List.setIfInBounds_toArray, List.set_cons_zero, List.set_cons_succ]
  refine q_nil ?_
  intro wz kwz
  clear HCW HCF HN HF
  have KZ : Hid (∀ S, Keeps S w wz) := Lib.hid (fun S => (K1.out S).trans (kwz.all S))
  clear kwz
  cases r with
  | true =>
    go_wp2
    try rw [Exit.noGoto_ret]
    go_ret
    exact ⟨by rw [HE.out]; rfl, KZ.out⟩
  | false =>
    go_wp2
    try rw [Exit.noGoto_ret]
    go_ret
    exact ⟨by rw [HE.out]; rfl, KZ.out⟩
end
end Go.Proofs.Ytidengmcbppcoaa.pk
