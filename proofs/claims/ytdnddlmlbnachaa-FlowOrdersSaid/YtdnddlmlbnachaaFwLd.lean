/-
  The law FlowOrders, walked.
-/
import Derived.Test.YtdnddlmlbnachaaFwLh
import Derived.Test.YtdnddlmlbnachaaBs
set_option linter.unusedVariables false
set_option linter.unusedSimpArgs false
namespace Go.Proofs.Ytdnddlmlbnachaa.fw
open Go.RowKit Go.Proofs.Ytdnddlmlbnachaa.oc Go.Proofs.Ytdnddlmlbnachaa.mz Go.Proofs.Ytdnddlmlbnachaa.pf Go.Proofs.Ytdnddlmlbnachaa.wh Go.Proofs.Ytdnddlmlbnachaa.qk Go.Proofs.Ytdnddlmlbnachaa.bys
theorem key_infoD : (Try.prog.info? 31).map (fun i => (i.zero.isSome, i.size)) = some (true, 37) := by kernel_rfl
theorem info_key : ∃ i z, Try.prog.info? 31 = some i ∧ i.zero = some z ∧ i.size = 37 := by
  have h := key_infoD
  cases hq : Try.prog.info? 31 with
  | none => simp [hq] at h
  | some i =>
    simp [hq] at h
    obtain ⟨z, hz⟩ := Option.isSome_iff_exists.1 h.1
    exact ⟨i, z, rfl, hz, h.2⟩
theorem fill_many (n : Nat) : ∀ (ys : List (List Value)) (j : Nat) (pre junk : List Value), (∀ y ∈ ys, y.length = n) → pre.length = j * n → junk.length = ys.length * n →
    Instr.fill (fun i => some (i * n, n)) (pre ++ junk).toArray ((ys.zipIdx j).map fun x => (x.2, Value.agg x.1.toArray)) = some (pre ++ ys.flatten).toArray
  | [], j, pre, junk, _, hp, hj => by
    obtain rfl : junk = [] := List.eq_nil_of_length_eq_zero (by simpa using hj)
    simp [Instr.fill]
  | y :: r, j, pre, junk, hy, hp, hj => by
    have h0 := hy y (by simp)
    rw [List.length_cons, Nat.succ_mul] at hj
    have ih := fill_many n r (j + 1) (pre ++ y) (junk.drop n) (fun z hz => hy z (by simp [hz])) (by rw [List.length_append, hp, h0, Nat.succ_mul]) (by rw [List.length_drop]; omega)
    rw [List.zipIdx_cons, List.map_cons]
    rw [bs.fill_step _ (pre ++ junk).toArray j y.toArray _ (j * n) n rfl (by simpa using h0) (by rw [List.size_toArray, List.length_append, hp]; omega)]
    have e : (pre ++ junk).take (j * n) ++ y ++ (pre ++ junk).drop (j * n + n) = (pre ++ y) ++ junk.drop n := by
      rw [List.take_left' hp, List.drop_append, hp, List.drop_of_length_le (by omega), List.nil_append, Nat.add_sub_cancel_left]
    have e2 : ((pre ++ junk).toArray.toList.take (j * n) ++ y.toArray.toList ++ (pre ++ junk).toArray.toList.drop (j * n + y.toArray.size)) = (pre ++ y) ++ junk.drop n := by
      rw [show y.toArray.size = n from by simpa using h0]
      exact e
    rw [e2, ih, List.flatten_cons, List.append_assoc]
theorem fill_four (a b c d : List Value) (n : Nat) (ha : a.length = n) (hb : b.length = n) (hc : c.length = n) (hd : d.length = n) (base : Array Value) (hs : base.size = 4 * n) :
    Instr.fill (fun i => some (i * n, n)) base [(0, .agg a.toArray), (1, .agg b.toArray), (2, .agg c.toArray), (3, .agg d.toArray)] = some (a ++ (b ++ (c ++ d))).toArray := by
  have := fill_many n [a, b, c, d] 0 [] base.toList (fun y hy => by simp at hy; rcases hy with rfl | rfl | rfl | rfl <;> assumption) (by simp) (by simpa using hs)
  simpa using this
def k4 (k0 k1 k2 : Ky) : Nat → Ky
  | 0 => k0
  | 1 => k1
  | 2 => k2
  | _ => kback k0
theorem k4_wf {k0 k1 k2 : Ky} (h0 : k0.Wf) (h1 : k1.Wf) (h2 : k2.Wf) (i : Nat) : (k4 k0 k1 k2 i).Wf := by
  match i with
  | 0 => exact h0
  | 1 => exact h1
  | 2 => exact h2
  | _ + 3 => exact h0.back
theorem mid_at {w : World} {g : Nat} {T : TypeId} {pre c post : List Value} (h : Blk w g T (pre ++ (c ++ post))) {o : Nat} (ho : pre.length = o) : w.rangeAt g o c := fun j v hj => by
  have hl := (List.getElem?_eq_some_iff.1 hj).1
  rw [h.cell, List.getElem?_append_right (by omega), show o + j - pre.length = j from by omega, List.getElem?_append_left hl]; exact hj
theorem k4_range {w : World} {g : Nat} {k0 k1 k2 : Ky} (h0 : k0.Wf) (h1 : k1.Wf) (h2 : k2.Wf) (h : Blk w g 31 (kvc k0 ++ (kvc k1 ++ (kvc k2 ++ kvc (kback k0))))) (i : Nat) (hi : i < 4) : w.rangeAt g (i * 37) (kvc (k4 k0 k1 k2 i)) := by
  match i, hi with
  | 0, _ => exact mid_at (pre := []) h rfl
  | 1, _ => exact mid_at (pre := kvc k0) h (kvc_len h0)
  | 2, _ => exact mid_at (pre := kvc k0 ++ kvc k1) (post := kvc (kback k0)) (by rw [List.append_assoc]; exact h) (by rw [List.length_append, kvc_len h0, kvc_len h1])
  | 3, _ => exact mid_at (pre := kvc k0 ++ (kvc k1 ++ kvc k2)) (c := kvc (kback k0)) (post := []) (by rw [List.append_nil, List.append_assoc, List.append_assoc]; exact h) (by rw [List.length_append, List.length_append, kvc_len h0, kvc_len h1, kvc_len h2])
theorem same_k (w : World) (A A' : Option Addr) (l m : List Nat) (n n' c c' B B' : Nat) (s : Bool) (hl : l.length = n) (hm : m.length = n') (hn : n ≤ 140737488355328) (hr : Rd w B A (by_ l)) (hr' : Rd w B' A' (by_ m)) (hs : decide (l = m) = s) :
    Calls Try.prog 16 #[.slice A n c, .slice A' n' c'] w fun e w' => e = .returned (.bool s) ∧ ∀ S, Keeps S w w' :=
  (same_ w A A' l m n n' c c' B B' hl hm hn hr hr').mono fun e w' ⟨he, d, hd⟩ => ⟨by rw [he, hs], fun S => by rw [← hd]; exact Keeps.of_drew w d⟩
theorem tmod16 (n : Int) : -16 < Int.tmod n 16 ∧ Int.tmod n 16 < 16 := by
  rcases Int.le_total 0 n with h | h
  · rw [Int.tmod_eq_emod_of_nonneg h]; omega
  · have e : Int.tmod n 16 = -(Int.tmod (-n) 16) := by rw [Int.neg_tmod]; omega
    rw [e, Int.tmod_eq_emod_of_nonneg (by omega)]; omega
set_option maxRecDepth 100000 in
set_option maxHeartbeats 16000000 in
theorem walk_flowOrders (w : World) (k0 k1 k2 : Ky) (h0 : k0.Wf) (h1 : k1.Wf) (h2 : k2.Wf) (nn : Int) (n1 : -9223372036854775808 ≤ nn) (n2 : nn ≤ 9223372036854775807) (mm : Nat) (hm : mm < 18446744073709551616) :
    Calls Try.prog 7 #[.agg (kvc k0 ++ (kvc k1 ++ kvc k2)).toArray, .int .i64 nn, .int .u64 (mm : Int)] w fun e w' => e = .returned (.bool true) ∧ Below w.heap.size w w' := by
  obtain ⟨i1, z1, hi, hz0, hz1⟩ := info_key
  obtain ⟨w1, hw1, q1, b1, s1⟩ := box1 w (kvc k0 ++ (kvc k1 ++ kvc k2)) 49
  have HS3 : Hid (∀ wq, Keeps (fun _ => False) w1 wq → wq.rangeAt w.heap.size 0 (kvc k0) ∧ wq.rangeAt w.heap.size 37 (kvc k1) ∧ wq.rangeAt w.heap.size 74 (kvc k2)) := Lib.hid (fun wq kq => by
    have b := Blk.keeps b1 kq (fun z => z)
    exact ⟨mid_at (pre := []) b rfl, mid_at (pre := kvc k0) b (kvc_len h0), mid_at (pre := kvc k0 ++ kvc k1) (c := kvc k2) (post := []) (by rw [List.append_nil, List.append_assoc]; exact b) (by rw [List.length_append, kvc_len h0, kvc_len h1])⟩)
  have HZ0 := Lib.hid (key_sz h0)
  have HZ1 := Lib.hid (key_sz h1)
  have HZ2 := Lib.hid (key_sz h2)
  have HLN := Lib.hid (And.intro (kvc_len h0) (And.intro (kvc_len h1) (And.intro (kvc_len h2) (kvc_len h0.back))))
  have HBK := fun w => Lib.hid (pback_ w k0 h0)
  have HE := fun w => Lib.hid (awake_ w)
  have HWF : Hid (∀ i, (k4 k0 k1 k2 i).Wf) := Lib.hid (k4_wf h0 h1 h2)
  have HRG : Hid (∀ w g, Blk w g 31 (kvc k0 ++ (kvc k1 ++ (kvc k2 ++ kvc (kback k0)))) → ∀ i, i < 4 → w.rangeAt g (i * 37) (kvc (k4 k0 k1 k2 i))) := Lib.hid (fun w g h => k4_range h0 h1 h2 h)
  have HW := Lib.hid hw1
  have K1 : Hid (∀ S, Keeps S w w1) := Lib.hid q1
  unfold kv at HBK
  clear hw1 q1 b1 s1 h0 h1 h2
  generalize k4 k0 k1 k2 = ks at *
  generalize kvc k0 = C0 at *
  generalize kvc k1 = C1 at *
  generalize kvc k2 = C2 at *
  generalize kvc (kback k0) = C3 at *
  obtain ⟨r, hr⟩ : ∃ r, Int.tmod nn 16 = r := ⟨_, rfl⟩
  have hrb := tmod16 nn
  rw [hr] at hrb
  obtain ⟨q, hq⟩ : ∃ q : Nat, (r + 16) % 16 = (q : Int) := ⟨((r + 16) % 16).toNat, by omega⟩
  have hq2 : Int.tmod (r + 16) 16 = (q : Int) := by rw [Int.tmod_eq_emod_of_nonneg (by omega)]; exact hq
  have hq16 : q < 16 := by omega
  obtain ⟨lm, hlm⟩ : ∃ lm : Nat, (1 : Int) + (q : Int) = (lm : Int) := ⟨q + 1, by omega⟩
  have hl1 : 1 ≤ lm := by omega
  have hl2 : lm ≤ 16 := by omega
  obtain ⟨p, hp⟩ : ∃ p : Nat, (mm : Int) % 1000000 = (p : Int) := ⟨mm % 1000000, by omega⟩
  have hp9 : p < 1000000 := by omega
  obtain ⟨om, hom⟩ : ∃ om : Nat, (1 : Int) + (p : Int) = (om : Int) := ⟨p + 1, by omega⟩
  have ho1 : 1 ≤ om := by omega
  have ho2 : om ≤ 1000000 := by omega
  have r1 : -16 < r := hrb.1
  have r2 : r < 16 := hrb.2
  have HLM := Lib.hid (And.intro hl1 hl2)
  have HOM := Lib.hid (And.intro ho1 ho2)
  clear hrb hm n1 n2 hl1 hl2 ho1 ho2
  go_enter Try.func7, Try.ntmps7
  go_wp2_with fail
  rw [← HW.out]
  --HERE
  refine wp_region_held_drew (S := fun w' => w'.rangeAt w.heap.size 0 C0 ∧ w'.rangeAt w.heap.size 37 C1 ∧ w'.rangeAt w.heap.size 74 C2) (by kernel_rfl) (HS3.out _ ((Keeps.refl _ w1).drew)) (fun hHeld => ?_)
  refine wpAnyH_take (i := 0) (v := ?_) rfl (by kernel_rfl) (by kernel_rfl) (by kernel_rfl) (fun _ _ _ h => h) (Or.inl ⟨by kernel_rfl, ?_⟩) (by assumption) ?_
  rotate_left
  · (intro w hSw; (try dsimp only at hSw); go_simp) <;> (try (with_reducible rfl))
  try simp only [Act.put, Array.getInternal_eq_getElem, List.getElem_toArray, List.getElem_cons_zero, List.getElem_cons_succ, List.setIfInBounds_toArray, List.set_cons_zero, List.set_cons_succ]
  refine' wpAnyH_take (i := 1) (v := _) rfl (by kernel_rfl) (by kernel_rfl) (by kernel_rfl) (fun _ _ _ h => h) (yieldsIf_load_mid (by kernel_rfl) _ _ rfl _ _ rfl _ _ (fun w hSw => hSw.1) Try.underlying31 rfl HZ0.out) (by assumption) ?_
  try simp only [Act.put, Array.getInternal_eq_getElem, List.getElem_toArray, List.getElem_cons_zero, List.getElem_cons_succ, List.setIfInBounds_toArray, List.set_cons_zero, List.set_cons_succ]
  refine wpAnyH_take (i := 2) (v := ?_) rfl (by kernel_rfl) (by kernel_rfl) (by kernel_rfl) (fun _ _ _ h => h) (Or.inl ⟨by kernel_rfl, ?_⟩) (by assumption) ?_
  rotate_left
  · (intro w hSw; (try dsimp only at hSw); go_simp) <;> (try (with_reducible rfl))
  try simp only [Act.put, Array.getInternal_eq_getElem, List.getElem_toArray, List.getElem_cons_zero, List.getElem_cons_succ, List.setIfInBounds_toArray, List.set_cons_zero, List.set_cons_succ]
  refine' wpAnyH_take (i := 3) (v := _) rfl (by kernel_rfl) (by kernel_rfl) (by kernel_rfl) (fun _ _ _ h => h) (yieldsIf_load_mid (by kernel_rfl) _ _ rfl _ _ rfl _ _ (fun w hSw => hSw.2.1) Try.underlying31 rfl HZ1.out) (by assumption) ?_
  try simp only [Act.put, Array.getInternal_eq_getElem, List.getElem_toArray, List.getElem_cons_zero, List.getElem_cons_succ, List.setIfInBounds_toArray, List.set_cons_zero, List.set_cons_succ]
  refine wpAnyH_take (i := 4) (v := ?_) rfl (by kernel_rfl) (by kernel_rfl) (by kernel_rfl) (fun _ _ _ h => h) (Or.inl ⟨by kernel_rfl, ?_⟩) (by assumption) ?_
  rotate_left
  · (intro w hSw; (try dsimp only at hSw); go_simp) <;> (try (with_reducible rfl))
  try simp only [Act.put, Array.getInternal_eq_getElem, List.getElem_toArray, List.getElem_cons_zero, List.getElem_cons_succ, List.setIfInBounds_toArray, List.set_cons_zero, List.set_cons_succ]
  refine' wpAnyH_take (i := 5) (v := _) rfl (by kernel_rfl) (by kernel_rfl) (by kernel_rfl) (fun _ _ _ h => h) (yieldsIf_load_mid (by kernel_rfl) _ _ rfl _ _ rfl _ _ (fun w hSw => hSw.2.2) Try.underlying31 rfl HZ2.out) (by assumption) ?_
  try simp only [Act.put, Array.getInternal_eq_getElem, List.getElem_toArray, List.getElem_cons_zero, List.getElem_cons_succ, List.setIfInBounds_toArray, List.set_cons_zero, List.set_cons_succ]
  refine wpAnyH_take (i := 6) (v := ?_) rfl (by kernel_rfl) (by kernel_rfl) (by kernel_rfl) (fun _ _ _ h => h) (Or.inl ⟨by kernel_rfl, ?_⟩) (by assumption) ?_
  rotate_left
  · (intro w hSw; (try dsimp only at hSw); go_simp) <;> (try (with_reducible rfl))
  try simp only [Act.put, Array.getInternal_eq_getElem, List.getElem_toArray, List.getElem_cons_zero, List.getElem_cons_succ, List.setIfInBounds_toArray, List.set_cons_zero, List.set_cons_succ]
  refine' wpAnyH_take (i := 7) (v := _) rfl (by kernel_rfl) (by kernel_rfl) (by kernel_rfl) (fun _ _ _ h => h) (yieldsIf_load_mid (by kernel_rfl) _ _ rfl _ _ rfl _ _ (fun w hSw => hSw.1) Try.underlying31 rfl HZ0.out) (by assumption) ?_
  try simp only [Act.put, Array.getInternal_eq_getElem, List.getElem_toArray, List.getElem_cons_zero, List.getElem_cons_succ, List.setIfInBounds_toArray, List.set_cons_zero, List.set_cons_succ]
  refine wpAnyH_ready (rs := [8]) (by kernel_rfl) (by simp) ?_
  refine AllReadyH.cons rfl (fun K hK => ?_) AllReadyH.nil
  (rw [if_pos (by kernel_rfl)]; go_simp; go_at_call 12; refine (HBK _).out.mono ?_; rintro e wb ⟨rfl, kb⟩; have KBB := Lib.hid kb; clear kb)
  refine hK.out _ _ (HS3.out _ (((Keeps.refl _ w1).drew).trans (KBB.out _))) (fun hHeld => ?_)
  clear hK K
  try simp only [Act.put, Array.getInternal_eq_getElem, List.getElem_toArray, List.getElem_cons_zero, List.getElem_cons_succ, List.setIfInBounds_toArray, List.set_cons_zero, List.set_cons_succ]
  refine wpAnyH_ready (rs := [9]) (by kernel_rfl) (by simp) ?_
  refine AllReadyH.cons rfl (fun K hK => ?_) AllReadyH.nil
  (rw [if_pos (by kernel_rfl)]; simp only [Array.getInternal_eq_getElem, List.getElem_toArray, List.getElem_cons_zero, List.getElem_cons_succ]; refine wp_buildSlice 50 31 4 _ rfl (C0 ++ (C1 ++ (C2 ++ C3))).toArray i1 _ Try.underlying50 hi hz0 (by rw [hz1]; decide) (by rw [hz1]; decide) (by rw [hz1, Array.toList_map]; exact fill_four C0 C1 C2 C3 37 HLN.out.1 HLN.out.2.1 HLN.out.2.2.1 HLN.out.2.2.2 _ (by rw [bs.range_size])) ?_)
  obtain ⟨wL, hwL⟩ : ∃ y, y = wb.alloc (.cells (C0 ++ (C1 ++ (C2 ++ C3))).toArray 31) := ⟨_, rfl⟩
  rw [← hwL]
  have BL : Hid (Blk wL wb.heap.size 31 (C0 ++ (C1 ++ (C2 ++ C3)))) := Lib.hid (by rw [hwL]; simpa using Blk.new wb 31 (C0 ++ (C1 ++ (C2 ++ C3))).toArray)
  have KL : Hid (∀ S, Keeps S w1 wL) := Lib.hid (fun S => by rw [hwL]; exact ((((Keeps.refl S w1).drew).trans (KBB.out S))).alloc _)
  clear hwL
  refine hK.out _ _ (HS3.out _ (KL.out _)) (fun hHeld => ?_)
  clear hK K
  try simp only [Act.put, Array.getInternal_eq_getElem, List.getElem_toArray, List.getElem_cons_zero, List.getElem_cons_succ, List.setIfInBounds_toArray, List.set_cons_zero, List.set_cons_succ]
  refine wpAnyH_take (i := 10) (v := ?_) rfl (by kernel_rfl) (by kernel_rfl) (by kernel_rfl) (fun _ _ _ h => h) (Or.inl ⟨by kernel_rfl, ?_⟩) (by assumption) ?_
  rotate_left
  · (intro w hSw; (try dsimp only at hSw); go_simp) <;> (try (with_reducible rfl))
  try simp only [Act.put, Array.getInternal_eq_getElem, List.getElem_toArray, List.getElem_cons_zero, List.getElem_cons_succ, List.setIfInBounds_toArray, List.set_cons_zero, List.set_cons_succ]
  refine wpAnyH_done ?_ ?_ _
  · kernel_rfl
  have HLR : Hid (∀ wq, Old wL wq → ∀ i, i < 4 → wq.rangeAt wb.heap.size (i * 37) (kvc (ks i))) := Lib.hid (fun wq hC => HRG.out wq _ (hC.blk BL.out))
  have KW : Hid (∀ S, Keeps S w wL) := Lib.hid (fun S => (K1.out S).trans (KL.out S))
  generalize wb.heap.size = gL at *
  try rw [hr]
  try rw [hq2]
  try rw [hlm]
  try rw [hp]
  try rw [hom]
  --HERE2
  clear hi hz0 hz1 HS3 HZ0 HZ1 HZ2 HLN HBK HRG HW K1 hr hq hq2 hq16 hlm hp hp9 hom r1 r2 BL KL KBB
  go_wp2_with fail
  go_loopw [8] (fun i wr => ∃ m : Nat, m ≤ 4 ∧ i = .int .i64 (m : Int) ∧ Old wL wr) (fun i _ => 4 - (intOf i).toNat)
  case atStart => exact ⟨0, by omega, rfl, Old.refl wL⟩
  case round =>
    obtain ⟨m, hm, rfl, hO⟩ := hrel
    by_cases hlt : m < 4
    · have hltm : (m : Int) < 4 := by omega
      have m0 : (0 : Int) ≤ (m : Int) := by omega
      have HO0 := Lib.hid hO
      clear hO
      obtain ⟨KA, hKA⟩ : ∃ KA, KA = ks m := ⟨_, rfl⟩
      have hwA : KA.Wf := by rw [hKA]; exact HWF.out m
      have HWA := Lib.hid hwA
      have HLA := fun (wq : World) (hC : Old wL wq) => HLR.out wq hC m hlt
      rw [← hKA] at HLA
      have HZA := Lib.hid (key_sz hwA)
      have HYA := fun w => Lib.hid (bytes_ w KA hwA)
      have HPL := fun w => Lib.hid (plane_ok w KA hwA lm HLM.out.1 HLM.out.2)
      have HPP := fun w => Lib.hid (ppart_ok w KA hwA om (by have := HOM.out.1; omega) (by have := HOM.out.2; omega))
      have HBKA := fun w => Lib.hid (pback_ w KA hwA)
      have HBKB := fun w => Lib.hid (pback_ w (kback KA) hwA.back)
      rw [kback_back] at HBKB
      have HNE := fun w => key_neq KA KA hwA hwA w
      rw [decide_eq_true rfl] at HNE
      simp only [Bool.not_true] at HNE
      have hlv : khash KA % lm < lm := Nat.mod_lt _ HLM.out.1
      have hpv : khash KA / 1048576 % om < om := Nat.mod_lt _ HOM.out.1
      obtain ⟨CA, hCA⟩ : ∃ CA, CA = kvc KA := ⟨_, rfl⟩
      obtain ⟨CBK, hCBK⟩ : ∃ CBK, CBK = kvc (kback KA) := ⟨_, rfl⟩
      unfold kv at HYA HPL HPP HBKA HBKB HNE
      rw [← hCA] at HLA HZA
      simp only [← hCA, ← hCBK] at HYA HPL HPP HBKA HBKB HNE
      have HCA := Lib.hid hCA
      have HKA := Lib.hid hKA
      clear hCA hCBK hKA hwA
      generalize khash KA % lm = lv at *
      generalize khash KA / 1048576 % om = pv at *
      go_wp2_with fail
      go_loopw [9] (fun i wr => ∃ n : Nat, n ≤ 4 ∧ i = .int .i64 (n : Int) ∧ Old wL wr) (fun i _ => 4 - (intOf i).toNat)
      case atStart => exact ⟨0, by omega, rfl, HO0.out⟩
      case round =>
        obtain ⟨n, hn, rfl, hO⟩ := hrel
        by_cases hltn : n < 4
        · have hltn' : (n : Int) < 4 := by omega
          have n0 : (0 : Int) ≤ (n : Int) := by omega
          have HO1 := Lib.hid hO
          clear hO
          obtain ⟨KB, hKB⟩ : ∃ KB, KB = ks n := ⟨_, rfl⟩
          have hwB : KB.Wf := by rw [hKB]; exact HWF.out n
          have HWB := Lib.hid hwB
          have HLB := fun (wq : World) (hC : Old wL wq) => HLR.out wq hC n hltn
          rw [← hKB] at HLB
          have HZB := Lib.hid (key_sz hwB)
          have HYB := fun w => Lib.hid (bytes_ w KB hwB)
          obtain ⟨z, hz⟩ : ∃ z, z = kcmp KA KB := ⟨_, rfl⟩
          obtain ⟨s, hs⟩ : ∃ s, s = decide (KA = KB) := ⟨_, rfl⟩
          have HAB := fun w => Lib.hid (pcmp_ w KA KB HWA.out hwB)
          have HBA := fun w => Lib.hid (pcmp_ w KB KA hwB HWA.out)
          rw [kcmp_flip KA KB, ← hz] at HBA
          rw [← hz] at HAB
          have HEQ := fun w => key_eql KA KB HWA.out hwB w
          rw [← hs] at HEQ
          have HZV : Hid (z = -1 ∨ z = 0 ∨ z = 1) := Lib.hid (by rw [hz]; exact kcmp_vals KA KB)
          have hzs : (z == 0) = s := by
            rw [hs, hz, Bool.eq_iff_iff, beq_iff_eq, decide_eq_true_iff]
            exact kcmp_zero HWA.out hwB
          have HSS : Hid (decide (kby KA = kby KB) = s) := Lib.hid (by
            rw [hs, Bool.eq_iff_iff, decide_eq_true_iff, decide_eq_true_iff]
            exact ⟨fun h => kby_inj HWA.out hwB h, fun h => by rw [h]⟩)
          have HLL := Lib.hid (And.intro (kby_len HWA.out) (kby_len hwB))
          have z1 : -1 ≤ z := by have := HZV.out; omega
          have z2 : z ≤ 1 := by have := HZV.out; omega
          have hzn : -(-z) = z := by omega
          have hwz : IntKind.i64.wrap z = z := by rcases HZV.out with h | h | h <;> rw [h] <;> decide
          have hbz : (z != z) = false := by simp
          obtain ⟨CB, hCB⟩ : ∃ CB, CB = kvc KB := ⟨_, rfl⟩
          unfold kv at HYB HAB HBA HEQ
          rw [← hCB] at HLB HZB
          simp only [← hCB, ← HCA.out] at HYB HAB HBA HEQ
          have HCB := Lib.hid hCB
          have HKB := Lib.hid hKB
          have HZE := Lib.hid hz
          clear hCB hKB hz hs hwB
          go_wp2_with fail
          refine q_region (by kernel_rfl) (by kernel_rfl) HO1.out ?_
          --@0
          refine q_any (by kernel_rfl) ?_ (fun wq hC => ?_) ?_
          rotate_left
          · (go_simp) <;> (try (with_reducible rfl))
          try simp only [Act.put, Array.getInternal_eq_getElem, List.getElem_toArray, List.getElem_cons_zero, List.getElem_cons_succ, List.setIfInBounds_toArray, List.set_cons_zero, List.set_cons_succ]
          --@1
          refine q_any (by kernel_rfl) ?_ (fun wq hC => ?_) ?_
          rotate_left
          · (go_simp) <;> (try (with_reducible rfl))
          try simp only [Act.put, Array.getInternal_eq_getElem, List.getElem_toArray, List.getElem_cons_zero, List.getElem_cons_succ, List.setIfInBounds_toArray, List.set_cons_zero, List.set_cons_succ]
          --@2
          refine q_any (by kernel_rfl) ?_ (fun wq hC => ?_) ?_
          rotate_left
          · (go_simp) <;> (try (with_reducible rfl))
          try simp only [Act.put, Array.getInternal_eq_getElem, List.getElem_toArray, List.getElem_cons_zero, List.getElem_cons_succ, List.setIfInBounds_toArray, List.set_cons_zero, List.set_cons_succ]
          --@3
          refine q_load (by kernel_rfl) 31 _ rfl gL (m * 37) rfl CA _ (fun wq hC => HLA wq hC) Try.underlying31 rfl HZA.out ?_
          try simp only [Act.put, Array.getInternal_eq_getElem, List.getElem_toArray, List.getElem_cons_zero, List.getElem_cons_succ, List.setIfInBounds_toArray, List.set_cons_zero, List.set_cons_succ]
          --@4
          refine q_any (by kernel_rfl) ?_ (fun wq hC => ?_) ?_
          rotate_left
          · (go_simp) <;> (try (with_reducible rfl))
          try simp only [Act.put, Array.getInternal_eq_getElem, List.getElem_toArray, List.getElem_cons_zero, List.getElem_cons_succ, List.setIfInBounds_toArray, List.set_cons_zero, List.set_cons_succ]
          --@5
          refine q_any (by kernel_rfl) ?_ (fun wq hC => ?_) ?_
          rotate_left
          · (go_simp) <;> (try (with_reducible rfl))
          try simp only [Act.put, Array.getInternal_eq_getElem, List.getElem_toArray, List.getElem_cons_zero, List.getElem_cons_succ, List.setIfInBounds_toArray, List.set_cons_zero, List.set_cons_succ]
          --@6
          refine q_any (by kernel_rfl) ?_ (fun wq hC => ?_) ?_
          rotate_left
          · (go_simp) <;> (try (with_reducible rfl))
          try simp only [Act.put, Array.getInternal_eq_getElem, List.getElem_toArray, List.getElem_cons_zero, List.getElem_cons_succ, List.setIfInBounds_toArray, List.set_cons_zero, List.set_cons_succ]
          --@7
          refine q_load (by kernel_rfl) 31 _ rfl gL (n * 37) rfl CB _ (fun wq hC => HLB wq hC) Try.underlying31 rfl HZB.out ?_
          try simp only [Act.put, Array.getInternal_eq_getElem, List.getElem_toArray, List.getElem_cons_zero, List.getElem_cons_succ, List.setIfInBounds_toArray, List.set_cons_zero, List.set_cons_succ]
          --@8
          refine q_call (by kernel_rfl) (fun wq hC => old_call hC (HAB wq).out) (fun wq => ?_) ?_
          · go_simp <;> (try (with_reducible rfl))
          try simp only [Act.put, Array.getInternal_eq_getElem, List.getElem_toArray, List.getElem_cons_zero, List.getElem_cons_succ, List.setIfInBounds_toArray, List.set_cons_zero, List.set_cons_succ]
          --@9
          refine q_any (by kernel_rfl) ?_ (fun wq hC => ?_) ?_
          rotate_left
          · (go_simp) <;> (try (with_reducible rfl))
          try simp only [Act.put, Array.getInternal_eq_getElem, List.getElem_toArray, List.getElem_cons_zero, List.getElem_cons_succ, List.setIfInBounds_toArray, List.set_cons_zero, List.set_cons_succ]
          refine q_nil ?_
          intro wx kwx
          have OX := Lib.hid kwx
          clear kwx
          go_wp2_with fail
          refine q_region (by kernel_rfl) (by kernel_rfl) OX.out ?_
          --@0
          refine q_any (by kernel_rfl) ?_ (fun wq hC => ?_) ?_
          rotate_left
          · (go_simp) <;> (try (with_reducible rfl))
          try simp only [Act.put, Array.getInternal_eq_getElem, List.getElem_toArray, List.getElem_cons_zero, List.getElem_cons_succ, List.setIfInBounds_toArray, List.set_cons_zero, List.set_cons_succ]
          --@1
          refine q_any (by kernel_rfl) ?_ (fun wq hC => ?_) ?_
          rotate_left
          · (go_simp) <;> (try (with_reducible rfl))
          try simp only [Act.put, Array.getInternal_eq_getElem, List.getElem_toArray, List.getElem_cons_zero, List.getElem_cons_succ, List.setIfInBounds_toArray, List.set_cons_zero, List.set_cons_succ]
          --@2
          refine q_any (by kernel_rfl) ?_ (fun wq hC => ?_) ?_
          rotate_left
          · (go_simp) <;> (try (with_reducible rfl))
          try simp only [Act.put, Array.getInternal_eq_getElem, List.getElem_toArray, List.getElem_cons_zero, List.getElem_cons_succ, List.setIfInBounds_toArray, List.set_cons_zero, List.set_cons_succ]
          --@3
          refine q_load (by kernel_rfl) 31 _ rfl gL (m * 37) rfl CA _ (fun wq hC => HLA wq hC) Try.underlying31 rfl HZA.out ?_
          try simp only [Act.put, Array.getInternal_eq_getElem, List.getElem_toArray, List.getElem_cons_zero, List.getElem_cons_succ, List.setIfInBounds_toArray, List.set_cons_zero, List.set_cons_succ]
          --@4
          refine q_any (by kernel_rfl) ?_ (fun wq hC => ?_) ?_
          rotate_left
          · (go_simp) <;> (try (with_reducible rfl))
          try simp only [Act.put, Array.getInternal_eq_getElem, List.getElem_toArray, List.getElem_cons_zero, List.getElem_cons_succ, List.setIfInBounds_toArray, List.set_cons_zero, List.set_cons_succ]
          --@5
          refine q_any (by kernel_rfl) ?_ (fun wq hC => ?_) ?_
          rotate_left
          · (go_simp) <;> (try (with_reducible rfl))
          try simp only [Act.put, Array.getInternal_eq_getElem, List.getElem_toArray, List.getElem_cons_zero, List.getElem_cons_succ, List.setIfInBounds_toArray, List.set_cons_zero, List.set_cons_succ]
          --@6
          refine q_any (by kernel_rfl) ?_ (fun wq hC => ?_) ?_
          rotate_left
          · (go_simp) <;> (try (with_reducible rfl))
          try simp only [Act.put, Array.getInternal_eq_getElem, List.getElem_toArray, List.getElem_cons_zero, List.getElem_cons_succ, List.setIfInBounds_toArray, List.set_cons_zero, List.set_cons_succ]
          --@7
          refine q_load (by kernel_rfl) 31 _ rfl gL (n * 37) rfl CB _ (fun wq hC => HLB wq hC) Try.underlying31 rfl HZB.out ?_
          try simp only [Act.put, Array.getInternal_eq_getElem, List.getElem_toArray, List.getElem_cons_zero, List.getElem_cons_succ, List.setIfInBounds_toArray, List.set_cons_zero, List.set_cons_succ]
          --@8
          refine q_any (by kernel_rfl) ?_ (fun wq hC => ?_) ?_
          rotate_left
          · (have hz := HEQ wq; go_simp) <;> (try (with_reducible rfl))
          try simp only [Act.put, Array.getInternal_eq_getElem, List.getElem_toArray, List.getElem_cons_zero, List.getElem_cons_succ, List.setIfInBounds_toArray, List.set_cons_zero, List.set_cons_succ]
          --@9
          refine q_any (by kernel_rfl) ?_ (fun wq hC => ?_) ?_
          rotate_left
          · (go_simp) <;> (try (with_reducible rfl))
          try simp only [Act.put, Array.getInternal_eq_getElem, List.getElem_toArray, List.getElem_cons_zero, List.getElem_cons_succ, List.setIfInBounds_toArray, List.set_cons_zero, List.set_cons_succ]
          refine q_nil ?_
          intro wy kwy
          have O12 : Hid (Old wL wy.drew) := Lib.hid (Old.drew kwy)
          clear kwy
          go_wp2_with fail
          refine wp_region_held_drew (S := fun w' => w'.rangeAt gL (m * 37) CA ∧ w'.rangeAt gL (n * 37) CB) (by kernel_rfl) ⟨HLA _ O12.out, HLB _ O12.out⟩ (fun hHeld => ?_)
          refine wpAnyH_take (i := 0) (v := ?_) rfl (by kernel_rfl) (by kernel_rfl) (by kernel_rfl) (fun _ _ _ h => h) (Or.inl ⟨by kernel_rfl, ?_⟩) (by assumption) ?_
          rotate_left
          · (intro w hSw; (try dsimp only at hSw); go_simp) <;> (try (with_reducible rfl))
          try simp only [Act.put, Array.getInternal_eq_getElem, List.getElem_toArray, List.getElem_cons_zero, List.getElem_cons_succ, List.setIfInBounds_toArray, List.set_cons_zero, List.set_cons_succ]
          refine wpAnyH_ready (rs := [1]) (by kernel_rfl) (by simp) ?_
          refine AllReadyH.cons rfl (fun K hK => ?_) AllReadyH.nil
          (rw [if_pos (by kernel_rfl)]; go_simp; go_at_call 26; refine (sign_ _ z HZV.out).mono ?_; rintro e wa ⟨rfl, hwa⟩; subst hwa)
          refine hK.out _ _ ⟨HLA _ O12.out, HLB _ O12.out⟩ (fun hHeld => ?_)
          clear hK K
          try simp only [Act.put, Array.getInternal_eq_getElem, List.getElem_toArray, List.getElem_cons_zero, List.getElem_cons_succ, List.setIfInBounds_toArray, List.set_cons_zero, List.set_cons_succ]
          refine wpAnyH_take (i := 2) (v := ?_) rfl (by kernel_rfl) (by kernel_rfl) (by kernel_rfl) (fun _ _ _ h => h) (Or.inl ⟨by kernel_rfl, ?_⟩) (by assumption) ?_
          rotate_left
          · (intro w hSw; (try dsimp only at hSw); go_simp) <;> (try (with_reducible rfl))
          try simp only [Act.put, Array.getInternal_eq_getElem, List.getElem_toArray, List.getElem_cons_zero, List.getElem_cons_succ, List.setIfInBounds_toArray, List.set_cons_zero, List.set_cons_succ]
          refine wpAnyH_take (i := 3) (v := ?_) rfl (by kernel_rfl) (by kernel_rfl) (by kernel_rfl) (fun _ _ _ h => h) (Or.inl ⟨by kernel_rfl, ?_⟩) (by assumption) ?_
          rotate_left
          · (intro w hSw; (try dsimp only at hSw); go_simp) <;> (try (with_reducible rfl))
          try simp only [Act.put, Array.getInternal_eq_getElem, List.getElem_toArray, List.getElem_cons_zero, List.getElem_cons_succ, List.setIfInBounds_toArray, List.set_cons_zero, List.set_cons_succ]
          refine wpAnyH_take (i := 4) (v := ?_) rfl (by kernel_rfl) (by kernel_rfl) (by kernel_rfl) (fun _ _ _ h => h) (Or.inl ⟨by kernel_rfl, ?_⟩) (by assumption) ?_
          rotate_left
          · (intro w hSw; (try dsimp only at hSw); go_simp) <;> (try (with_reducible rfl))
          try simp only [Act.put, Array.getInternal_eq_getElem, List.getElem_toArray, List.getElem_cons_zero, List.getElem_cons_succ, List.setIfInBounds_toArray, List.set_cons_zero, List.set_cons_succ]
          refine wpAnyH_take (i := 5) (v := ?_) rfl (by kernel_rfl) (by kernel_rfl) (by kernel_rfl) (fun _ _ _ h => h) (Or.inl ⟨by kernel_rfl, ?_⟩) (by assumption) ?_
          rotate_left
          · (intro w hSw; (try dsimp only at hSw); go_simp) <;> (try (with_reducible rfl))
          try simp only [Act.put, Array.getInternal_eq_getElem, List.getElem_toArray, List.getElem_cons_zero, List.getElem_cons_succ, List.setIfInBounds_toArray, List.set_cons_zero, List.set_cons_succ]
          refine wpAnyH_take (i := 6) (v := ?_) rfl (by kernel_rfl) (by kernel_rfl) (by kernel_rfl) (fun _ _ _ h => h) (Or.inl ⟨by kernel_rfl, ?_⟩) (by assumption) ?_
          rotate_left
          · (intro w hSw; (try dsimp only at hSw); go_simp) <;> (try (with_reducible rfl))
          try simp only [Act.put, Array.getInternal_eq_getElem, List.getElem_toArray, List.getElem_cons_zero, List.getElem_cons_succ, List.setIfInBounds_toArray, List.set_cons_zero, List.set_cons_succ]
          refine wpAnyH_take (i := 7) (v := ?_) rfl (by kernel_rfl) (by kernel_rfl) (by kernel_rfl) (fun _ _ _ h => h) (Or.inl ⟨by kernel_rfl, ?_⟩) (by assumption) ?_
          rotate_left
          · (intro w hSw; (try dsimp only at hSw); go_simp) <;> (try (with_reducible rfl))
          try simp only [Act.put, Array.getInternal_eq_getElem, List.getElem_toArray, List.getElem_cons_zero, List.getElem_cons_succ, List.setIfInBounds_toArray, List.set_cons_zero, List.set_cons_succ]
          refine wpAnyH_take (i := 8) (v := ?_) rfl (by kernel_rfl) (by kernel_rfl) (by kernel_rfl) (fun _ _ _ h => h) (Or.inl ⟨by kernel_rfl, ?_⟩) (by assumption) ?_
          rotate_left
          · (intro w hSw; (try dsimp only at hSw); go_simp) <;> (try (with_reducible rfl))
          try simp only [Act.put, Array.getInternal_eq_getElem, List.getElem_toArray, List.getElem_cons_zero, List.getElem_cons_succ, List.setIfInBounds_toArray, List.set_cons_zero, List.set_cons_succ]
          refine wpAnyH_take (i := 9) (v := ?_) rfl (by kernel_rfl) (by kernel_rfl) (by kernel_rfl) (fun _ _ _ h => h) (Or.inl ⟨by kernel_rfl, ?_⟩) (by assumption) ?_
          rotate_left
          · (intro w hSw; (try dsimp only at hSw); go_simp) <;> (try (with_reducible rfl))
          try simp only [Act.put, Array.getInternal_eq_getElem, List.getElem_toArray, List.getElem_cons_zero, List.getElem_cons_succ, List.setIfInBounds_toArray, List.set_cons_zero, List.set_cons_succ]
          refine wpAnyH_take (i := 10) (v := ?_) rfl (by kernel_rfl) (by kernel_rfl) (by kernel_rfl) (fun _ _ _ h => h) (Or.inl ⟨by kernel_rfl, ?_⟩) (by assumption) ?_
          rotate_left
          · (intro w hSw; (try dsimp only at hSw); go_simp) <;> (try (with_reducible rfl))
          try simp only [Act.put, Array.getInternal_eq_getElem, List.getElem_toArray, List.getElem_cons_zero, List.getElem_cons_succ, List.setIfInBounds_toArray, List.set_cons_zero, List.set_cons_succ]
          refine wpAnyH_take (i := 11) (v := ?_) rfl (by kernel_rfl) (by kernel_rfl) (by kernel_rfl) (fun _ _ _ h => h) (Or.inl ⟨by kernel_rfl, ?_⟩) (by assumption) ?_
          rotate_left
          · (intro w hSw; (try dsimp only at hSw); go_simp) <;> (try (with_reducible rfl))
          try simp only [Act.put, Array.getInternal_eq_getElem, List.getElem_toArray, List.getElem_cons_zero, List.getElem_cons_succ, List.setIfInBounds_toArray, List.set_cons_zero, List.set_cons_succ]
          refine wpAnyH_take (i := 12) (v := ?_) rfl (by kernel_rfl) (by kernel_rfl) (by kernel_rfl) (fun _ _ _ h => h) (Or.inl ⟨by kernel_rfl, ?_⟩) (by assumption) ?_
          rotate_left
          · (intro w hSw; (try dsimp only at hSw); go_simp) <;> (try (with_reducible rfl))
          try simp only [Act.put, Array.getInternal_eq_getElem, List.getElem_toArray, List.getElem_cons_zero, List.getElem_cons_succ, List.setIfInBounds_toArray, List.set_cons_zero, List.set_cons_succ]
          refine wpAnyH_take (i := 13) (v := ?_) rfl (by kernel_rfl) (by kernel_rfl) (by kernel_rfl) (fun _ _ _ h => h) (Or.inl ⟨by kernel_rfl, ?_⟩) (by assumption) ?_
          rotate_left
          · (intro w hSw; (try dsimp only at hSw); go_simp) <;> (try (with_reducible rfl))
          try simp only [Act.put, Array.getInternal_eq_getElem, List.getElem_toArray, List.getElem_cons_zero, List.getElem_cons_succ, List.setIfInBounds_toArray, List.set_cons_zero, List.set_cons_succ]
          refine' wpAnyH_take (i := 14) (v := _) rfl (by kernel_rfl) (by kernel_rfl) (by kernel_rfl) (fun _ _ _ h => h) (yieldsIf_load_mid (by kernel_rfl) _ _ rfl _ _ rfl _ _ (fun w hSw => hSw.2) Try.underlying31 rfl HZB.out) (by assumption) ?_
          try simp only [Act.put, Array.getInternal_eq_getElem, List.getElem_toArray, List.getElem_cons_zero, List.getElem_cons_succ, List.setIfInBounds_toArray, List.set_cons_zero, List.set_cons_succ]
          refine wpAnyH_take (i := 15) (v := ?_) rfl (by kernel_rfl) (by kernel_rfl) (by kernel_rfl) (fun _ _ _ h => h) (Or.inl ⟨by kernel_rfl, ?_⟩) (by assumption) ?_
          rotate_left
          · (intro w hSw; (try dsimp only at hSw); go_simp) <;> (try (with_reducible rfl))
          try simp only [Act.put, Array.getInternal_eq_getElem, List.getElem_toArray, List.getElem_cons_zero, List.getElem_cons_succ, List.setIfInBounds_toArray, List.set_cons_zero, List.set_cons_succ]
          refine wpAnyH_take (i := 16) (v := ?_) rfl (by kernel_rfl) (by kernel_rfl) (by kernel_rfl) (fun _ _ _ h => h) (Or.inl ⟨by kernel_rfl, ?_⟩) (by assumption) ?_
          rotate_left
          · (intro w hSw; (try dsimp only at hSw); go_simp) <;> (try (with_reducible rfl))
          try simp only [Act.put, Array.getInternal_eq_getElem, List.getElem_toArray, List.getElem_cons_zero, List.getElem_cons_succ, List.setIfInBounds_toArray, List.set_cons_zero, List.set_cons_succ]
          refine wpAnyH_take (i := 17) (v := ?_) rfl (by kernel_rfl) (by kernel_rfl) (by kernel_rfl) (fun _ _ _ h => h) (Or.inl ⟨by kernel_rfl, ?_⟩) (by assumption) ?_
          rotate_left
          · (intro w hSw; (try dsimp only at hSw); go_simp) <;> (try (with_reducible rfl))
          try simp only [Act.put, Array.getInternal_eq_getElem, List.getElem_toArray, List.getElem_cons_zero, List.getElem_cons_succ, List.setIfInBounds_toArray, List.set_cons_zero, List.set_cons_succ]
          refine' wpAnyH_take (i := 18) (v := _) rfl (by kernel_rfl) (by kernel_rfl) (by kernel_rfl) (fun _ _ _ h => h) (yieldsIf_load_mid (by kernel_rfl) _ _ rfl _ _ rfl _ _ (fun w hSw => hSw.1) Try.underlying31 rfl HZA.out) (by assumption) ?_
          try simp only [Act.put, Array.getInternal_eq_getElem, List.getElem_toArray, List.getElem_cons_zero, List.getElem_cons_succ, List.setIfInBounds_toArray, List.set_cons_zero, List.set_cons_succ]
          refine wpAnyH_ready (rs := [19]) (by kernel_rfl) (by simp) ?_
          refine AllReadyH.cons rfl (fun K hK => ?_) AllReadyH.nil
          (rw [if_pos (by kernel_rfl)]; go_simp; go_at_call 24; refine ((HBA _).out).mono ?_; rintro e wb ⟨rfl, kb⟩; have OB := Lib.hid (O12.out.trans (kb _)); clear kb)
          refine hK.out _ _ ⟨HLA _ OB.out, HLB _ OB.out⟩ (fun hHeld => ?_)
          clear hK K
          try simp only [Act.put, Array.getInternal_eq_getElem, List.getElem_toArray, List.getElem_cons_zero, List.getElem_cons_succ, List.setIfInBounds_toArray, List.set_cons_zero, List.set_cons_succ]
          refine wpAnyH_take (i := 20) (v := ?_) rfl (by kernel_rfl) (by kernel_rfl) (by kernel_rfl) (fun _ _ _ h => h) (Or.inl ⟨by kernel_rfl, ?_⟩) (by assumption) ?_
          rotate_left
          · (intro w hSw; (try dsimp only at hSw); go_simp) <;> (try (with_reducible rfl))
          try simp only [Act.put, Array.getInternal_eq_getElem, List.getElem_toArray, List.getElem_cons_zero, List.getElem_cons_succ, List.setIfInBounds_toArray, List.set_cons_zero, List.set_cons_succ]
          refine wpAnyH_take (i := 21) (v := ?_) rfl (by kernel_rfl) (by kernel_rfl) (by kernel_rfl) (fun _ _ _ h => h) (Or.inl ⟨by kernel_rfl, ?_⟩) (by assumption) ?_
          rotate_left
          · (intro w hSw; (try dsimp only at hSw); go_simp) <;> (try (with_reducible rfl))
          try simp only [Act.put, Array.getInternal_eq_getElem, List.getElem_toArray, List.getElem_cons_zero, List.getElem_cons_succ, List.setIfInBounds_toArray, List.set_cons_zero, List.set_cons_succ]
          refine wpAnyH_take (i := 22) (v := ?_) rfl (by kernel_rfl) (by kernel_rfl) (by kernel_rfl) (fun _ _ _ h => h) (Or.inl ⟨by kernel_rfl, ?_⟩) (by assumption) ?_
          rotate_left
          · (intro w hSw; (try dsimp only at hSw); go_simp) <;> (try (with_reducible rfl))
          try simp only [Act.put, Array.getInternal_eq_getElem, List.getElem_toArray, List.getElem_cons_zero, List.getElem_cons_succ, List.setIfInBounds_toArray, List.set_cons_zero, List.set_cons_succ]
          refine wpAnyH_take (i := 23) (v := ?_) rfl (by kernel_rfl) (by kernel_rfl) (by kernel_rfl) (fun _ _ _ h => h) (Or.inl ⟨by kernel_rfl, ?_⟩) (by assumption) ?_
          rotate_left
          · (intro w hSw; (try dsimp only at hSw); go_simp) <;> (try (with_reducible rfl))
          try simp only [Act.put, Array.getInternal_eq_getElem, List.getElem_toArray, List.getElem_cons_zero, List.getElem_cons_succ, List.setIfInBounds_toArray, List.set_cons_zero, List.set_cons_succ]
          refine wpAnyH_take (i := 24) (v := ?_) rfl (by kernel_rfl) (by kernel_rfl) (by kernel_rfl) (fun _ _ _ h => h) (Or.inl ⟨by kernel_rfl, ?_⟩) (by assumption) ?_
          rotate_left
          · (intro w hSw; (try dsimp only at hSw); go_simp) <;> (try (with_reducible rfl))
          try simp only [Act.put, Array.getInternal_eq_getElem, List.getElem_toArray, List.getElem_cons_zero, List.getElem_cons_succ, List.setIfInBounds_toArray, List.set_cons_zero, List.set_cons_succ]
          refine wpAnyH_take (i := 25) (v := ?_) rfl (by kernel_rfl) (by kernel_rfl) (by kernel_rfl) (fun _ _ _ h => h) (Or.inl ⟨by kernel_rfl, ?_⟩) (by assumption) ?_
          rotate_left
          · (intro w hSw; (try dsimp only at hSw); go_simp) <;> (try (with_reducible rfl))
          try simp only [Act.put, Array.getInternal_eq_getElem, List.getElem_toArray, List.getElem_cons_zero, List.getElem_cons_succ, List.setIfInBounds_toArray, List.set_cons_zero, List.set_cons_succ]
          refine wpAnyH_take (i := 26) (v := ?_) rfl (by kernel_rfl) (by kernel_rfl) (by kernel_rfl) (fun _ _ _ h => h) (Or.inl ⟨by kernel_rfl, ?_⟩) (by assumption) ?_
          rotate_left
          · (intro w hSw; (try dsimp only at hSw); go_simp) <;> (try (with_reducible rfl))
          try simp only [Act.put, Array.getInternal_eq_getElem, List.getElem_toArray, List.getElem_cons_zero, List.getElem_cons_succ, List.setIfInBounds_toArray, List.set_cons_zero, List.set_cons_succ]
          refine' wpAnyH_take (i := 27) (v := _) rfl (by kernel_rfl) (by kernel_rfl) (by kernel_rfl) (fun _ _ _ h => h) (yieldsIf_load_mid (by kernel_rfl) _ _ rfl _ _ rfl _ _ (fun w hSw => hSw.1) Try.underlying31 rfl HZA.out) (by assumption) ?_
          try simp only [Act.put, Array.getInternal_eq_getElem, List.getElem_toArray, List.getElem_cons_zero, List.getElem_cons_succ, List.setIfInBounds_toArray, List.set_cons_zero, List.set_cons_succ]
          refine wpAnyH_take (i := 29) (v := ?_) rfl (by kernel_rfl) (by kernel_rfl) (by kernel_rfl) (fun _ _ _ h => h) (Or.inl ⟨by kernel_rfl, ?_⟩) (by assumption) ?_
          rotate_left
          · (intro w hSw; (try dsimp only at hSw); go_simp) <;> (try (with_reducible rfl))
          try simp only [Act.put, Array.getInternal_eq_getElem, List.getElem_toArray, List.getElem_cons_zero, List.getElem_cons_succ, List.setIfInBounds_toArray, List.set_cons_zero, List.set_cons_succ]
          refine wpAnyH_take (i := 30) (v := ?_) rfl (by kernel_rfl) (by kernel_rfl) (by kernel_rfl) (fun _ _ _ h => h) (Or.inl ⟨by kernel_rfl, ?_⟩) (by assumption) ?_
          rotate_left
          · (intro w hSw; (try dsimp only at hSw); go_simp) <;> (try (with_reducible rfl))
          try simp only [Act.put, Array.getInternal_eq_getElem, List.getElem_toArray, List.getElem_cons_zero, List.getElem_cons_succ, List.setIfInBounds_toArray, List.set_cons_zero, List.set_cons_succ]
          refine wpAnyH_take (i := 31) (v := ?_) rfl (by kernel_rfl) (by kernel_rfl) (by kernel_rfl) (fun _ _ _ h => h) (Or.inl ⟨by kernel_rfl, ?_⟩) (by assumption) ?_
          rotate_left
          · (intro w hSw; (try dsimp only at hSw); go_simp) <;> (try (with_reducible rfl))
          try simp only [Act.put, Array.getInternal_eq_getElem, List.getElem_toArray, List.getElem_cons_zero, List.getElem_cons_succ, List.setIfInBounds_toArray, List.set_cons_zero, List.set_cons_succ]
          refine' wpAnyH_take (i := 32) (v := _) rfl (by kernel_rfl) (by kernel_rfl) (by kernel_rfl) (fun _ _ _ h => h) (yieldsIf_load_mid (by kernel_rfl) _ _ rfl _ _ rfl _ _ (fun w hSw => hSw.2) Try.underlying31 rfl HZB.out) (by assumption) ?_
          try simp only [Act.put, Array.getInternal_eq_getElem, List.getElem_toArray, List.getElem_cons_zero, List.getElem_cons_succ, List.setIfInBounds_toArray, List.set_cons_zero, List.set_cons_succ]
          refine wpAnyH_take (i := 35) (v := ?_) rfl (by kernel_rfl) (by kernel_rfl) (by kernel_rfl) (fun _ _ _ h => h) (Or.inl ⟨by kernel_rfl, ?_⟩) (by assumption) ?_
          rotate_left
          · (intro w hSw; (try dsimp only at hSw); go_simp) <;> (try (with_reducible rfl))
          try simp only [Act.put, Array.getInternal_eq_getElem, List.getElem_toArray, List.getElem_cons_zero, List.getElem_cons_succ, List.setIfInBounds_toArray, List.set_cons_zero, List.set_cons_succ]
          refine wpAnyH_ready (rs := [28]) (by kernel_rfl) (by simp) ?_
          refine AllReadyH.cons rfl (fun K hK => ?_) AllReadyH.nil
          (rw [if_pos (by kernel_rfl)]; go_simp; go_at_call 15; refine ((HYA _).out).mono ?_; rintro e wc ⟨va, rfl, ya⟩; obtain ⟨A1, c1, rfl, r1⟩ := ya.rd; rw [HLL.out.1]; have OC := Lib.hid (OB.out.trans (ya.keep _)); have RA := Lib.hid r1; clear ya r1)
          refine hK.out _ _ ⟨HLA _ OC.out, HLB _ OC.out⟩ (fun hHeld => ?_)
          clear hK K
          try simp only [Act.put, Array.getInternal_eq_getElem, List.getElem_toArray, List.getElem_cons_zero, List.getElem_cons_succ, List.setIfInBounds_toArray, List.set_cons_zero, List.set_cons_succ]
          refine wpAnyH_ready (rs := [33]) (by kernel_rfl) (by simp) ?_
          refine AllReadyH.cons rfl (fun K hK => ?_) AllReadyH.nil
          (rw [if_pos (by kernel_rfl)]; go_simp; go_at_call 15; refine ((HYB _).out).mono ?_; rintro e wd ⟨vb, rfl, yb⟩; obtain ⟨A2, c2, rfl, r2⟩ := yb.rd; rw [HLL.out.2]; have OD := Lib.hid (OC.out.trans (yb.keep _)); have RA2 := Lib.hid (rd_keeps RA.out (yb.keep (fun _ => False))); have RB := Lib.hid r2; clear yb r2)
          refine hK.out _ _ ⟨HLA _ OD.out, HLB _ OD.out⟩ (fun hHeld => ?_)
          clear hK K
          try simp only [Act.put, Array.getInternal_eq_getElem, List.getElem_toArray, List.getElem_cons_zero, List.getElem_cons_succ, List.setIfInBounds_toArray, List.set_cons_zero, List.set_cons_succ]
          refine wpAnyH_ready (rs := [34]) (by kernel_rfl) (by simp) ?_
          refine AllReadyH.cons rfl (fun K hK => ?_) AllReadyH.nil
          (rw [if_pos (by kernel_rfl)]; go_simp; go_at_call 16; refine (same_k _ A1 A2 (kby KA) (kby KB) 39 39 c1 c2 _ _ s HLL.out.1 HLL.out.2 (by omega) RA2.out RB.out HSS.out).mono ?_; rintro e we ⟨rfl, ke⟩; have OE := Lib.hid (OD.out.trans (ke _)); clear ke)
          refine hK.out _ _ ⟨HLA _ OE.out, HLB _ OE.out⟩ (fun hHeld => ?_)
          clear hK K
          try simp only [Act.put, Array.getInternal_eq_getElem, List.getElem_toArray, List.getElem_cons_zero, List.getElem_cons_succ, List.setIfInBounds_toArray, List.set_cons_zero, List.set_cons_succ]
          refine wpAnyH_take (i := 36) (v := ?_) rfl (by kernel_rfl) (by kernel_rfl) (by kernel_rfl) (fun _ _ _ h => h) (Or.inl ⟨by kernel_rfl, ?_⟩) (by assumption) ?_
          rotate_left
          · (intro w hSw; (try dsimp only at hSw); go_simp) <;> (try (with_reducible rfl))
          try simp only [Act.put, Array.getInternal_eq_getElem, List.getElem_toArray, List.getElem_cons_zero, List.getElem_cons_succ, List.setIfInBounds_toArray, List.set_cons_zero, List.set_cons_succ]
          refine wpAnyH_take (i := 37) (v := ?_) rfl (by kernel_rfl) (by kernel_rfl) (by kernel_rfl) (fun _ _ _ h => h) (Or.inl ⟨by kernel_rfl, ?_⟩) (by assumption) ?_
          rotate_left
          · (intro w hSw; (try dsimp only at hSw); go_simp) <;> (try (with_reducible rfl))
          try simp only [Act.put, Array.getInternal_eq_getElem, List.getElem_toArray, List.getElem_cons_zero, List.getElem_cons_succ, List.setIfInBounds_toArray, List.set_cons_zero, List.set_cons_succ]
          refine wpAnyH_done ?_ ?_ _
          · kernel_rfl
          have HO2 := Lib.hid OE.out
          clear OX O12 OB OC OD OE RA RA2 RB hzs HSS HEQ HAB HBA HYB hzn HZV hwz hbz
          go_wp2_with fail
          go_loopw [12] (fun i wr => ∃ l : Nat, l ≤ 4 ∧ i = .int .i64 (l : Int) ∧ Old wL wr) (fun i _ => 4 - (intOf i).toNat)
          case atStart => exact ⟨0, by omega, rfl, HO2.out⟩
          case round =>
            obtain ⟨l, hl, rfl, hO⟩ := hrel
            by_cases hltl : l < 4
            · have hltl' : (l : Int) < 4 := by omega
              have l0 : (0 : Int) ≤ (l : Int) := by omega
              have OK := Lib.hid hO
              clear hO
              by_cases hz0 : z < 0
              · obtain ⟨KC, hKC⟩ : ∃ KC, KC = ks l := ⟨_, rfl⟩
                have hwC : KC.Wf := by rw [hKC]; exact HWF.out l
                have HLC := fun (wq : World) (hC : Old wL wq) => HLR.out wq hC l hltl
                rw [← hKC] at HLC
                have HZC := Lib.hid (key_sz hwC)
                have HBC := fun w => Lib.hid (pcmp_ w KB KC HWB.out hwC)
                have HAC := fun w => Lib.hid (pcmp_ w KA KC HWA.out hwC)
                have htr : kcmp KB KC < 0 → kcmp KA KC < 0 := fun h => kcmp_trans HWA.out HWB.out hwC (by rw [← HZE.out]; exact hz0) h
                obtain ⟨CC, hCC⟩ : ∃ CC, CC = kvc KC := ⟨_, rfl⟩
                unfold kv at HBC HAC
                rw [← hCC] at HLC HZC
                simp only [← hCC, ← HCA.out, ← HCB.out] at HBC HAC
                clear hCC hwC
                generalize kcmp KB KC = y at *
                generalize kcmp KA KC = x at *
                by_cases hy0 : y < 0
                · have hx0 : ¬ (0 : Int) ≤ x := by have := htr hy0; omega
                  have HTR := Lib.hid htr
                  clear htr
                  have hxf : decide ((0 : Int) ≤ x) = false := decide_eq_false hx0
                  go_wp2_with fail
                  refine q_region (by kernel_rfl) (by kernel_rfl) OK.out ?_
                  --@0
                  refine q_any (by kernel_rfl) ?_ (fun wq hC => ?_) ?_
                  rotate_left
                  · (go_simp) <;> (try (with_reducible rfl))
                  try simp only [Act.put, Array.getInternal_eq_getElem, List.getElem_toArray, List.getElem_cons_zero, List.getElem_cons_succ, List.setIfInBounds_toArray, List.set_cons_zero, List.set_cons_succ]
                  --@1
                  refine q_any (by kernel_rfl) ?_ (fun wq hC => ?_) ?_
                  rotate_left
                  · (go_simp) <;> (try (with_reducible rfl))
                  try simp only [Act.put, Array.getInternal_eq_getElem, List.getElem_toArray, List.getElem_cons_zero, List.getElem_cons_succ, List.setIfInBounds_toArray, List.set_cons_zero, List.set_cons_succ]
                  --@2
                  refine q_any (by kernel_rfl) ?_ (fun wq hC => ?_) ?_
                  rotate_left
                  · (go_simp) <;> (try (with_reducible rfl))
                  try simp only [Act.put, Array.getInternal_eq_getElem, List.getElem_toArray, List.getElem_cons_zero, List.getElem_cons_succ, List.setIfInBounds_toArray, List.set_cons_zero, List.set_cons_succ]
                  --@3
                  refine q_any (by kernel_rfl) ?_ (fun wq hC => ?_) ?_
                  rotate_left
                  · (go_simp) <;> (try (with_reducible rfl))
                  try simp only [Act.put, Array.getInternal_eq_getElem, List.getElem_toArray, List.getElem_cons_zero, List.getElem_cons_succ, List.setIfInBounds_toArray, List.set_cons_zero, List.set_cons_succ]
                  --@4
                  refine q_any (by kernel_rfl) ?_ (fun wq hC => ?_) ?_
                  rotate_left
                  · (go_simp) <;> (try (with_reducible rfl))
                  try simp only [Act.put, Array.getInternal_eq_getElem, List.getElem_toArray, List.getElem_cons_zero, List.getElem_cons_succ, List.setIfInBounds_toArray, List.set_cons_zero, List.set_cons_succ]
                  --@5
                  refine q_any (by kernel_rfl) ?_ (fun wq hC => ?_) ?_
                  rotate_left
                  · (go_simp) <;> (try (with_reducible rfl))
                  try simp only [Act.put, Array.getInternal_eq_getElem, List.getElem_toArray, List.getElem_cons_zero, List.getElem_cons_succ, List.setIfInBounds_toArray, List.set_cons_zero, List.set_cons_succ]
                  --@6
                  refine q_load (by kernel_rfl) 31 _ rfl gL (n * 37) rfl CB _ (fun wq hC => HLB wq hC) Try.underlying31 rfl HZB.out ?_
                  try simp only [Act.put, Array.getInternal_eq_getElem, List.getElem_toArray, List.getElem_cons_zero, List.getElem_cons_succ, List.setIfInBounds_toArray, List.set_cons_zero, List.set_cons_succ]
                  --@7
                  refine q_any (by kernel_rfl) ?_ (fun wq hC => ?_) ?_
                  rotate_left
                  · (go_simp) <;> (try (with_reducible rfl))
                  try simp only [Act.put, Array.getInternal_eq_getElem, List.getElem_toArray, List.getElem_cons_zero, List.getElem_cons_succ, List.setIfInBounds_toArray, List.set_cons_zero, List.set_cons_succ]
                  --@8
                  refine q_any (by kernel_rfl) ?_ (fun wq hC => ?_) ?_
                  rotate_left
                  · (go_simp) <;> (try (with_reducible rfl))
                  try simp only [Act.put, Array.getInternal_eq_getElem, List.getElem_toArray, List.getElem_cons_zero, List.getElem_cons_succ, List.setIfInBounds_toArray, List.set_cons_zero, List.set_cons_succ]
                  --@9
                  refine q_any (by kernel_rfl) ?_ (fun wq hC => ?_) ?_
                  rotate_left
                  · (go_simp) <;> (try (with_reducible rfl))
                  try simp only [Act.put, Array.getInternal_eq_getElem, List.getElem_toArray, List.getElem_cons_zero, List.getElem_cons_succ, List.setIfInBounds_toArray, List.set_cons_zero, List.set_cons_succ]
                  --@10
                  refine q_load (by kernel_rfl) 31 _ rfl gL (l * 37) rfl CC _ (fun wq hC => HLC wq hC) Try.underlying31 rfl HZC.out ?_
                  try simp only [Act.put, Array.getInternal_eq_getElem, List.getElem_toArray, List.getElem_cons_zero, List.getElem_cons_succ, List.setIfInBounds_toArray, List.set_cons_zero, List.set_cons_succ]
                  --@11
                  refine q_call (by kernel_rfl) (fun wq hC => old_call hC (HBC wq).out) (fun wq => ?_) ?_
                  · go_simp <;> (try (with_reducible rfl))
                  try simp only [Act.put, Array.getInternal_eq_getElem, List.getElem_toArray, List.getElem_cons_zero, List.getElem_cons_succ, List.setIfInBounds_toArray, List.set_cons_zero, List.set_cons_succ]
                  --@12
                  refine q_any (by kernel_rfl) ?_ (fun wq hC => ?_) ?_
                  rotate_left
                  · (go_simp) <;> (try (with_reducible rfl))
                  try simp only [Act.put, Array.getInternal_eq_getElem, List.getElem_toArray, List.getElem_cons_zero, List.getElem_cons_succ, List.setIfInBounds_toArray, List.set_cons_zero, List.set_cons_succ]
                  --@13
                  refine q_any (by kernel_rfl) ?_ (fun wq hC => ?_) ?_
                  rotate_left
                  · (go_simp) <;> (try (with_reducible rfl))
                  try simp only [Act.put, Array.getInternal_eq_getElem, List.getElem_toArray, List.getElem_cons_zero, List.getElem_cons_succ, List.setIfInBounds_toArray, List.set_cons_zero, List.set_cons_succ]
                  --@14
                  refine q_any (by kernel_rfl) ?_ (fun wq hC => ?_) ?_
                  rotate_left
                  · (go_simp) <;> (try (with_reducible rfl))
                  try simp only [Act.put, Array.getInternal_eq_getElem, List.getElem_toArray, List.getElem_cons_zero, List.getElem_cons_succ, List.setIfInBounds_toArray, List.set_cons_zero, List.set_cons_succ]
                  --@15
                  refine q_any (by kernel_rfl) ?_ (fun wq hC => ?_) ?_
                  rotate_left
                  · (go_simp) <;> (try (with_reducible rfl))
                  try simp only [Act.put, Array.getInternal_eq_getElem, List.getElem_toArray, List.getElem_cons_zero, List.getElem_cons_succ, List.setIfInBounds_toArray, List.set_cons_zero, List.set_cons_succ]
                  --@16
                  refine q_any (by kernel_rfl) ?_ (fun wq hC => ?_) ?_
                  rotate_left
                  · (go_simp) <;> (try (with_reducible rfl))
                  try simp only [Act.put, Array.getInternal_eq_getElem, List.getElem_toArray, List.getElem_cons_zero, List.getElem_cons_succ, List.setIfInBounds_toArray, List.set_cons_zero, List.set_cons_succ]
                  --@17
                  refine q_any (by kernel_rfl) ?_ (fun wq hC => ?_) ?_
                  rotate_left
                  · (go_simp) <;> (try (with_reducible rfl))
                  try simp only [Act.put, Array.getInternal_eq_getElem, List.getElem_toArray, List.getElem_cons_zero, List.getElem_cons_succ, List.setIfInBounds_toArray, List.set_cons_zero, List.set_cons_succ]
                  --@18
                  refine q_load (by kernel_rfl) 31 _ rfl gL (m * 37) rfl CA _ (fun wq hC => HLA wq hC) Try.underlying31 rfl HZA.out ?_
                  try simp only [Act.put, Array.getInternal_eq_getElem, List.getElem_toArray, List.getElem_cons_zero, List.getElem_cons_succ, List.setIfInBounds_toArray, List.set_cons_zero, List.set_cons_succ]
                  --@19
                  refine q_any (by kernel_rfl) ?_ (fun wq hC => ?_) ?_
                  rotate_left
                  · (go_simp) <;> (try (with_reducible rfl))
                  try simp only [Act.put, Array.getInternal_eq_getElem, List.getElem_toArray, List.getElem_cons_zero, List.getElem_cons_succ, List.setIfInBounds_toArray, List.set_cons_zero, List.set_cons_succ]
                  --@20
                  refine q_any (by kernel_rfl) ?_ (fun wq hC => ?_) ?_
                  rotate_left
                  · (go_simp) <;> (try (with_reducible rfl))
                  try simp only [Act.put, Array.getInternal_eq_getElem, List.getElem_toArray, List.getElem_cons_zero, List.getElem_cons_succ, List.setIfInBounds_toArray, List.set_cons_zero, List.set_cons_succ]
                  --@21
                  refine q_any (by kernel_rfl) ?_ (fun wq hC => ?_) ?_
                  rotate_left
                  · (go_simp) <;> (try (with_reducible rfl))
                  try simp only [Act.put, Array.getInternal_eq_getElem, List.getElem_toArray, List.getElem_cons_zero, List.getElem_cons_succ, List.setIfInBounds_toArray, List.set_cons_zero, List.set_cons_succ]
                  --@22
                  refine q_load (by kernel_rfl) 31 _ rfl gL (l * 37) rfl CC _ (fun wq hC => HLC wq hC) Try.underlying31 rfl HZC.out ?_
                  try simp only [Act.put, Array.getInternal_eq_getElem, List.getElem_toArray, List.getElem_cons_zero, List.getElem_cons_succ, List.setIfInBounds_toArray, List.set_cons_zero, List.set_cons_succ]
                  --@23
                  refine q_call (by kernel_rfl) (fun wq hC => old_call hC (HAC wq).out) (fun wq => ?_) ?_
                  · go_simp <;> (try (with_reducible rfl))
                  try simp only [Act.put, Array.getInternal_eq_getElem, List.getElem_toArray, List.getElem_cons_zero, List.getElem_cons_succ, List.setIfInBounds_toArray, List.set_cons_zero, List.set_cons_succ]
                  --@24
                  refine q_any (by kernel_rfl) ?_ (fun wq hC => ?_) ?_
                  rotate_left
                  · (go_simp) <;> (try (with_reducible rfl))
                  try simp only [Act.put, Array.getInternal_eq_getElem, List.getElem_toArray, List.getElem_cons_zero, List.getElem_cons_succ, List.setIfInBounds_toArray, List.set_cons_zero, List.set_cons_succ]
                  --@25
                  refine q_any (by kernel_rfl) ?_ (fun wq hC => ?_) ?_
                  rotate_left
                  · (go_simp) <;> (try (with_reducible rfl))
                  try simp only [Act.put, Array.getInternal_eq_getElem, List.getElem_toArray, List.getElem_cons_zero, List.getElem_cons_succ, List.setIfInBounds_toArray, List.set_cons_zero, List.set_cons_succ]
                  refine q_nil ?_
                  intro wk kwk
                  go_wp2
                  go_roundw
                  case rel => exact ⟨l + 1, by omega, by go_num, kwk⟩
                  case measure => simp [intOf]; omega
                · have HTR := Lib.hid htr
                  clear htr
                  have hyf : decide (y < 0) = false := decide_eq_false hy0
                  go_wp2_with fail
                  refine q_region (by kernel_rfl) (by kernel_rfl) OK.out ?_
                  --@0
                  refine q_any (by kernel_rfl) ?_ (fun wq hC => ?_) ?_
                  rotate_left
                  · (go_simp) <;> (try (with_reducible rfl))
                  try simp only [Act.put, Array.getInternal_eq_getElem, List.getElem_toArray, List.getElem_cons_zero, List.getElem_cons_succ, List.setIfInBounds_toArray, List.set_cons_zero, List.set_cons_succ]
                  --@1
                  refine q_any (by kernel_rfl) ?_ (fun wq hC => ?_) ?_
                  rotate_left
                  · (go_simp) <;> (try (with_reducible rfl))
                  try simp only [Act.put, Array.getInternal_eq_getElem, List.getElem_toArray, List.getElem_cons_zero, List.getElem_cons_succ, List.setIfInBounds_toArray, List.set_cons_zero, List.set_cons_succ]
                  --@2
                  refine q_any (by kernel_rfl) ?_ (fun wq hC => ?_) ?_
                  rotate_left
                  · (go_simp) <;> (try (with_reducible rfl))
                  try simp only [Act.put, Array.getInternal_eq_getElem, List.getElem_toArray, List.getElem_cons_zero, List.getElem_cons_succ, List.setIfInBounds_toArray, List.set_cons_zero, List.set_cons_succ]
                  --@3
                  refine q_any (by kernel_rfl) ?_ (fun wq hC => ?_) ?_
                  rotate_left
                  · (go_simp) <;> (try (with_reducible rfl))
                  try simp only [Act.put, Array.getInternal_eq_getElem, List.getElem_toArray, List.getElem_cons_zero, List.getElem_cons_succ, List.setIfInBounds_toArray, List.set_cons_zero, List.set_cons_succ]
                  --@4
                  refine q_any (by kernel_rfl) ?_ (fun wq hC => ?_) ?_
                  rotate_left
                  · (go_simp) <;> (try (with_reducible rfl))
                  try simp only [Act.put, Array.getInternal_eq_getElem, List.getElem_toArray, List.getElem_cons_zero, List.getElem_cons_succ, List.setIfInBounds_toArray, List.set_cons_zero, List.set_cons_succ]
                  --@5
                  refine q_any (by kernel_rfl) ?_ (fun wq hC => ?_) ?_
                  rotate_left
                  · (go_simp) <;> (try (with_reducible rfl))
                  try simp only [Act.put, Array.getInternal_eq_getElem, List.getElem_toArray, List.getElem_cons_zero, List.getElem_cons_succ, List.setIfInBounds_toArray, List.set_cons_zero, List.set_cons_succ]
                  --@6
                  refine q_load (by kernel_rfl) 31 _ rfl gL (n * 37) rfl CB _ (fun wq hC => HLB wq hC) Try.underlying31 rfl HZB.out ?_
                  try simp only [Act.put, Array.getInternal_eq_getElem, List.getElem_toArray, List.getElem_cons_zero, List.getElem_cons_succ, List.setIfInBounds_toArray, List.set_cons_zero, List.set_cons_succ]
                  --@7
                  refine q_any (by kernel_rfl) ?_ (fun wq hC => ?_) ?_
                  rotate_left
                  · (go_simp) <;> (try (with_reducible rfl))
                  try simp only [Act.put, Array.getInternal_eq_getElem, List.getElem_toArray, List.getElem_cons_zero, List.getElem_cons_succ, List.setIfInBounds_toArray, List.set_cons_zero, List.set_cons_succ]
                  --@8
                  refine q_any (by kernel_rfl) ?_ (fun wq hC => ?_) ?_
                  rotate_left
                  · (go_simp) <;> (try (with_reducible rfl))
                  try simp only [Act.put, Array.getInternal_eq_getElem, List.getElem_toArray, List.getElem_cons_zero, List.getElem_cons_succ, List.setIfInBounds_toArray, List.set_cons_zero, List.set_cons_succ]
                  --@9
                  refine q_any (by kernel_rfl) ?_ (fun wq hC => ?_) ?_
                  rotate_left
                  · (go_simp) <;> (try (with_reducible rfl))
                  try simp only [Act.put, Array.getInternal_eq_getElem, List.getElem_toArray, List.getElem_cons_zero, List.getElem_cons_succ, List.setIfInBounds_toArray, List.set_cons_zero, List.set_cons_succ]
                  --@10
                  refine q_load (by kernel_rfl) 31 _ rfl gL (l * 37) rfl CC _ (fun wq hC => HLC wq hC) Try.underlying31 rfl HZC.out ?_
                  try simp only [Act.put, Array.getInternal_eq_getElem, List.getElem_toArray, List.getElem_cons_zero, List.getElem_cons_succ, List.setIfInBounds_toArray, List.set_cons_zero, List.set_cons_succ]
                  --@11
                  refine q_call (by kernel_rfl) (fun wq hC => old_call hC (HBC wq).out) (fun wq => ?_) ?_
                  · go_simp <;> (try (with_reducible rfl))
                  try simp only [Act.put, Array.getInternal_eq_getElem, List.getElem_toArray, List.getElem_cons_zero, List.getElem_cons_succ, List.setIfInBounds_toArray, List.set_cons_zero, List.set_cons_succ]
                  --@12
                  refine q_any (by kernel_rfl) ?_ (fun wq hC => ?_) ?_
                  rotate_left
                  · (go_simp) <;> (try (with_reducible rfl))
                  try simp only [Act.put, Array.getInternal_eq_getElem, List.getElem_toArray, List.getElem_cons_zero, List.getElem_cons_succ, List.setIfInBounds_toArray, List.set_cons_zero, List.set_cons_succ]
                  --@13
                  refine q_any (by kernel_rfl) ?_ (fun wq hC => ?_) ?_
                  rotate_left
                  · (go_simp) <;> (try (with_reducible rfl))
                  try simp only [Act.put, Array.getInternal_eq_getElem, List.getElem_toArray, List.getElem_cons_zero, List.getElem_cons_succ, List.setIfInBounds_toArray, List.set_cons_zero, List.set_cons_succ]
                  --@14
                  refine q_any (by kernel_rfl) ?_ (fun wq hC => ?_) ?_
                  rotate_left
                  · (go_simp) <;> (try (with_reducible rfl))
                  try simp only [Act.put, Array.getInternal_eq_getElem, List.getElem_toArray, List.getElem_cons_zero, List.getElem_cons_succ, List.setIfInBounds_toArray, List.set_cons_zero, List.set_cons_succ]
                  --@15
                  refine q_skip (by kernel_rfl) ?_
                  try simp only [Act.put, Array.getInternal_eq_getElem, List.getElem_toArray, List.getElem_cons_zero, List.getElem_cons_succ, List.setIfInBounds_toArray, List.set_cons_zero, List.set_cons_succ]
                  --@16
                  refine q_skip (by kernel_rfl) ?_
                  try simp only [Act.put, Array.getInternal_eq_getElem, List.getElem_toArray, List.getElem_cons_zero, List.getElem_cons_succ, List.setIfInBounds_toArray, List.set_cons_zero, List.set_cons_succ]
                  --@17
                  refine q_skip (by kernel_rfl) ?_
                  try simp only [Act.put, Array.getInternal_eq_getElem, List.getElem_toArray, List.getElem_cons_zero, List.getElem_cons_succ, List.setIfInBounds_toArray, List.set_cons_zero, List.set_cons_succ]
                  --@18
                  refine q_skip (by kernel_rfl) ?_
                  try simp only [Act.put, Array.getInternal_eq_getElem, List.getElem_toArray, List.getElem_cons_zero, List.getElem_cons_succ, List.setIfInBounds_toArray, List.set_cons_zero, List.set_cons_succ]
                  --@19
                  refine q_skip (by kernel_rfl) ?_
                  try simp only [Act.put, Array.getInternal_eq_getElem, List.getElem_toArray, List.getElem_cons_zero, List.getElem_cons_succ, List.setIfInBounds_toArray, List.set_cons_zero, List.set_cons_succ]
                  --@20
                  refine q_skip (by kernel_rfl) ?_
                  try simp only [Act.put, Array.getInternal_eq_getElem, List.getElem_toArray, List.getElem_cons_zero, List.getElem_cons_succ, List.setIfInBounds_toArray, List.set_cons_zero, List.set_cons_succ]
                  --@21
                  refine q_skip (by kernel_rfl) ?_
                  try simp only [Act.put, Array.getInternal_eq_getElem, List.getElem_toArray, List.getElem_cons_zero, List.getElem_cons_succ, List.setIfInBounds_toArray, List.set_cons_zero, List.set_cons_succ]
                  --@22
                  refine q_skip (by kernel_rfl) ?_
                  try simp only [Act.put, Array.getInternal_eq_getElem, List.getElem_toArray, List.getElem_cons_zero, List.getElem_cons_succ, List.setIfInBounds_toArray, List.set_cons_zero, List.set_cons_succ]
                  --@23
                  refine q_skip (by kernel_rfl) ?_
                  try simp only [Act.put, Array.getInternal_eq_getElem, List.getElem_toArray, List.getElem_cons_zero, List.getElem_cons_succ, List.setIfInBounds_toArray, List.set_cons_zero, List.set_cons_succ]
                  --@24
                  refine q_skip (by kernel_rfl) ?_
                  try simp only [Act.put, Array.getInternal_eq_getElem, List.getElem_toArray, List.getElem_cons_zero, List.getElem_cons_succ, List.setIfInBounds_toArray, List.set_cons_zero, List.set_cons_succ]
                  --@25
                  refine q_any (by kernel_rfl) ?_ (fun wq hC => ?_) ?_
                  rotate_left
                  · (go_simp) <;> (try (with_reducible rfl))
                  try simp only [Act.put, Array.getInternal_eq_getElem, List.getElem_toArray, List.getElem_cons_zero, List.getElem_cons_succ, List.setIfInBounds_toArray, List.set_cons_zero, List.set_cons_succ]
                  refine q_nil ?_
                  intro wk kwk
                  go_wp2
                  go_roundw
                  case rel => exact ⟨l + 1, by omega, by go_num, kwk⟩
                  case measure => simp [intOf]; omega
              · have hzf : decide (z < 0) = false := decide_eq_false hz0
                go_wp2_with fail
                refine q_region (by kernel_rfl) (by kernel_rfl) OK.out ?_
                --@0
                refine q_any (by kernel_rfl) ?_ (fun wq hC => ?_) ?_
                rotate_left
                · (go_simp) <;> (try (with_reducible rfl))
                try simp only [Act.put, Array.getInternal_eq_getElem, List.getElem_toArray, List.getElem_cons_zero, List.getElem_cons_succ, List.setIfInBounds_toArray, List.set_cons_zero, List.set_cons_succ]
                --@1
                refine q_any (by kernel_rfl) ?_ (fun wq hC => ?_) ?_
                rotate_left
                · (go_simp) <;> (try (with_reducible rfl))
                try simp only [Act.put, Array.getInternal_eq_getElem, List.getElem_toArray, List.getElem_cons_zero, List.getElem_cons_succ, List.setIfInBounds_toArray, List.set_cons_zero, List.set_cons_succ]
                --@2
                refine q_any (by kernel_rfl) ?_ (fun wq hC => ?_) ?_
                rotate_left
                · (go_simp) <;> (try (with_reducible rfl))
                try simp only [Act.put, Array.getInternal_eq_getElem, List.getElem_toArray, List.getElem_cons_zero, List.getElem_cons_succ, List.setIfInBounds_toArray, List.set_cons_zero, List.set_cons_succ]
                --@3
                refine q_skip (by kernel_rfl) ?_
                try simp only [Act.put, Array.getInternal_eq_getElem, List.getElem_toArray, List.getElem_cons_zero, List.getElem_cons_succ, List.setIfInBounds_toArray, List.set_cons_zero, List.set_cons_succ]
                --@4
                refine q_skip (by kernel_rfl) ?_
                try simp only [Act.put, Array.getInternal_eq_getElem, List.getElem_toArray, List.getElem_cons_zero, List.getElem_cons_succ, List.setIfInBounds_toArray, List.set_cons_zero, List.set_cons_succ]
                --@5
                refine q_skip (by kernel_rfl) ?_
                try simp only [Act.put, Array.getInternal_eq_getElem, List.getElem_toArray, List.getElem_cons_zero, List.getElem_cons_succ, List.setIfInBounds_toArray, List.set_cons_zero, List.set_cons_succ]
                --@6
                refine q_skip (by kernel_rfl) ?_
                try simp only [Act.put, Array.getInternal_eq_getElem, List.getElem_toArray, List.getElem_cons_zero, List.getElem_cons_succ, List.setIfInBounds_toArray, List.set_cons_zero, List.set_cons_succ]
                --@7
                refine q_skip (by kernel_rfl) ?_
                try simp only [Act.put, Array.getInternal_eq_getElem, List.getElem_toArray, List.getElem_cons_zero, List.getElem_cons_succ, List.setIfInBounds_toArray, List.set_cons_zero, List.set_cons_succ]
                --@8
                refine q_skip (by kernel_rfl) ?_
                try simp only [Act.put, Array.getInternal_eq_getElem, List.getElem_toArray, List.getElem_cons_zero, List.getElem_cons_succ, List.setIfInBounds_toArray, List.set_cons_zero, List.set_cons_succ]
                --@9
                refine q_skip (by kernel_rfl) ?_
                try simp only [Act.put, Array.getInternal_eq_getElem, List.getElem_toArray, List.getElem_cons_zero, List.getElem_cons_succ, List.setIfInBounds_toArray, List.set_cons_zero, List.set_cons_succ]
                --@10
                refine q_skip (by kernel_rfl) ?_
                try simp only [Act.put, Array.getInternal_eq_getElem, List.getElem_toArray, List.getElem_cons_zero, List.getElem_cons_succ, List.setIfInBounds_toArray, List.set_cons_zero, List.set_cons_succ]
                --@11
                refine q_skip (by kernel_rfl) ?_
                try simp only [Act.put, Array.getInternal_eq_getElem, List.getElem_toArray, List.getElem_cons_zero, List.getElem_cons_succ, List.setIfInBounds_toArray, List.set_cons_zero, List.set_cons_succ]
                --@12
                refine q_skip (by kernel_rfl) ?_
                try simp only [Act.put, Array.getInternal_eq_getElem, List.getElem_toArray, List.getElem_cons_zero, List.getElem_cons_succ, List.setIfInBounds_toArray, List.set_cons_zero, List.set_cons_succ]
                --@13
                refine q_any (by kernel_rfl) ?_ (fun wq hC => ?_) ?_
                rotate_left
                · (go_simp) <;> (try (with_reducible rfl))
                try simp only [Act.put, Array.getInternal_eq_getElem, List.getElem_toArray, List.getElem_cons_zero, List.getElem_cons_succ, List.setIfInBounds_toArray, List.set_cons_zero, List.set_cons_succ]
                --@14
                refine q_any (by kernel_rfl) ?_ (fun wq hC => ?_) ?_
                rotate_left
                · (go_simp) <;> (try (with_reducible rfl))
                try simp only [Act.put, Array.getInternal_eq_getElem, List.getElem_toArray, List.getElem_cons_zero, List.getElem_cons_succ, List.setIfInBounds_toArray, List.set_cons_zero, List.set_cons_succ]
                --@15
                refine q_skip (by kernel_rfl) ?_
                try simp only [Act.put, Array.getInternal_eq_getElem, List.getElem_toArray, List.getElem_cons_zero, List.getElem_cons_succ, List.setIfInBounds_toArray, List.set_cons_zero, List.set_cons_succ]
                --@16
                refine q_skip (by kernel_rfl) ?_
                try simp only [Act.put, Array.getInternal_eq_getElem, List.getElem_toArray, List.getElem_cons_zero, List.getElem_cons_succ, List.setIfInBounds_toArray, List.set_cons_zero, List.set_cons_succ]
                --@17
                refine q_skip (by kernel_rfl) ?_
                try simp only [Act.put, Array.getInternal_eq_getElem, List.getElem_toArray, List.getElem_cons_zero, List.getElem_cons_succ, List.setIfInBounds_toArray, List.set_cons_zero, List.set_cons_succ]
                --@18
                refine q_skip (by kernel_rfl) ?_
                try simp only [Act.put, Array.getInternal_eq_getElem, List.getElem_toArray, List.getElem_cons_zero, List.getElem_cons_succ, List.setIfInBounds_toArray, List.set_cons_zero, List.set_cons_succ]
                --@19
                refine q_skip (by kernel_rfl) ?_
                try simp only [Act.put, Array.getInternal_eq_getElem, List.getElem_toArray, List.getElem_cons_zero, List.getElem_cons_succ, List.setIfInBounds_toArray, List.set_cons_zero, List.set_cons_succ]
                --@20
                refine q_skip (by kernel_rfl) ?_
                try simp only [Act.put, Array.getInternal_eq_getElem, List.getElem_toArray, List.getElem_cons_zero, List.getElem_cons_succ, List.setIfInBounds_toArray, List.set_cons_zero, List.set_cons_succ]
                --@21
                refine q_skip (by kernel_rfl) ?_
                try simp only [Act.put, Array.getInternal_eq_getElem, List.getElem_toArray, List.getElem_cons_zero, List.getElem_cons_succ, List.setIfInBounds_toArray, List.set_cons_zero, List.set_cons_succ]
                --@22
                refine q_skip (by kernel_rfl) ?_
                try simp only [Act.put, Array.getInternal_eq_getElem, List.getElem_toArray, List.getElem_cons_zero, List.getElem_cons_succ, List.setIfInBounds_toArray, List.set_cons_zero, List.set_cons_succ]
                --@23
                refine q_skip (by kernel_rfl) ?_
                try simp only [Act.put, Array.getInternal_eq_getElem, List.getElem_toArray, List.getElem_cons_zero, List.getElem_cons_succ, List.setIfInBounds_toArray, List.set_cons_zero, List.set_cons_succ]
                --@24
                refine q_skip (by kernel_rfl) ?_
                try simp only [Act.put, Array.getInternal_eq_getElem, List.getElem_toArray, List.getElem_cons_zero, List.getElem_cons_succ, List.setIfInBounds_toArray, List.set_cons_zero, List.set_cons_succ]
                --@25
                refine q_any (by kernel_rfl) ?_ (fun wq hC => ?_) ?_
                rotate_left
                · (go_simp) <;> (try (with_reducible rfl))
                try simp only [Act.put, Array.getInternal_eq_getElem, List.getElem_toArray, List.getElem_cons_zero, List.getElem_cons_succ, List.setIfInBounds_toArray, List.set_cons_zero, List.set_cons_succ]
                refine q_nil ?_
                intro wk kwk
                go_wp2
                go_roundw
                case rel => exact ⟨l + 1, by omega, by go_num, kwk⟩
                case measure => simp [intOf]; omega
            · obtain rfl : l = 4 := by omega
              go_wp2
              go_roundw
              case rel => exact ⟨n + 1, by omega, by go_num, hO⟩
              case measure => simp [intOf]; omega
        · obtain rfl : n = 4 := by omega
          have d1 : ¬ (lv : Int) < 0 := by omega
          have d2 : ¬ (lm : Int) ≤ (lv : Int) := by omega
          have d3 : ¬ (om : Int) ≤ (pv : Int) := by omega
          have e2 : decide (lm ≤ lv) = false := decide_eq_false (by omega)
          have e3 : decide (om ≤ pv) = false := decide_eq_false (by omega)
          have e4 : ¬ lm ≤ lv := by omega
          have e5 : ¬ om ≤ pv := by omega
          have HO3 := Lib.hid hO
          clear hO
          go_wp2_with (refine wpList_load_mid rfl 31 _ rfl gL (m * 37) rfl CA _ (HLA _ HO3.out) Try.underlying31 rfl HZA.out ?_)
          refine (HPL _).out.mono ?_
          rintro e u1 ⟨rfl, k1⟩
          have OU1 := Lib.hid (HO3.out.trans (k1 _))
          clear k1
          go_wp2_with (refine wpList_load_mid rfl 31 _ rfl gL (m * 37) rfl CA _ (HLA _ OU1.out) Try.underlying31 rfl HZA.out ?_)
          refine (HPP _).out.mono ?_
          rintro e u2 ⟨rfl, k2⟩
          have OU2 := Lib.hid (OU1.out.trans (k2 _))
          clear k2
          go_wp2_with (refine wpList_load_mid rfl 31 _ rfl gL (m * 37) rfl CA _ (HLA _ OU2.out) Try.underlying31 rfl HZA.out ?_)
          refine (HBKA _).out.mono ?_
          rintro e u3 ⟨rfl, k3⟩
          have OU3 := Lib.hid (OU2.out.trans (k3 _))
          clear k3
          go_wp2_with fail
          refine (HBKB _).out.mono ?_
          rintro e u4 ⟨rfl, k4⟩
          have OU4 := Lib.hid (OU3.out.trans (k4 _))
          clear k4
          go_wp2_with fail
          refine (HPL _).out.mono ?_
          rintro e u5 ⟨rfl, k5⟩
          have OU5 := Lib.hid (OU4.out.trans (k5 _))
          clear k5
          go_wp2_with fail
          refine q_region (by kernel_rfl) (by kernel_rfl) OU5.out ?_
          --@0
          refine q_any (by kernel_rfl) ?_ (fun wq hC => ?_) ?_
          rotate_left
          · (go_simp) <;> (try (with_reducible rfl))
          try simp only [Act.put, Array.getInternal_eq_getElem, List.getElem_toArray, List.getElem_cons_zero, List.getElem_cons_succ, List.setIfInBounds_toArray, List.set_cons_zero, List.set_cons_succ]
          --@1
          refine q_any (by kernel_rfl) ?_ (fun wq hC => ?_) ?_
          rotate_left
          · (go_simp) <;> (try (with_reducible rfl))
          try simp only [Act.put, Array.getInternal_eq_getElem, List.getElem_toArray, List.getElem_cons_zero, List.getElem_cons_succ, List.setIfInBounds_toArray, List.set_cons_zero, List.set_cons_succ]
          --@2
          refine q_any (by kernel_rfl) ?_ (fun wq hC => ?_) ?_
          rotate_left
          · (go_simp) <;> (try (with_reducible rfl))
          try simp only [Act.put, Array.getInternal_eq_getElem, List.getElem_toArray, List.getElem_cons_zero, List.getElem_cons_succ, List.setIfInBounds_toArray, List.set_cons_zero, List.set_cons_succ]
          --@3
          refine q_load (by kernel_rfl) 31 _ rfl gL (m * 37) rfl CA _ (fun wq hC => HLA wq hC) Try.underlying31 rfl HZA.out ?_
          try simp only [Act.put, Array.getInternal_eq_getElem, List.getElem_toArray, List.getElem_cons_zero, List.getElem_cons_succ, List.setIfInBounds_toArray, List.set_cons_zero, List.set_cons_succ]
          --@4
          refine q_call (by kernel_rfl) (fun wq hC => old_call hC (HBKA wq).out) (fun wq => ?_) ?_
          · go_simp <;> (try (with_reducible rfl))
          try simp only [Act.put, Array.getInternal_eq_getElem, List.getElem_toArray, List.getElem_cons_zero, List.getElem_cons_succ, List.setIfInBounds_toArray, List.set_cons_zero, List.set_cons_succ]
          --@5
          refine q_call (by kernel_rfl) (fun wq hC => old_call hC (HBKB wq).out) (fun wq => ?_) ?_
          · go_simp <;> (try (with_reducible rfl))
          try simp only [Act.put, Array.getInternal_eq_getElem, List.getElem_toArray, List.getElem_cons_zero, List.getElem_cons_succ, List.setIfInBounds_toArray, List.set_cons_zero, List.set_cons_succ]
          --@6
          refine q_any (by kernel_rfl) ?_ (fun wq hC => ?_) ?_
          rotate_left
          · (go_simp) <;> (try (with_reducible rfl))
          try simp only [Act.put, Array.getInternal_eq_getElem, List.getElem_toArray, List.getElem_cons_zero, List.getElem_cons_succ, List.setIfInBounds_toArray, List.set_cons_zero, List.set_cons_succ]
          --@7
          refine q_any (by kernel_rfl) ?_ (fun wq hC => ?_) ?_
          rotate_left
          · (go_simp) <;> (try (with_reducible rfl))
          try simp only [Act.put, Array.getInternal_eq_getElem, List.getElem_toArray, List.getElem_cons_zero, List.getElem_cons_succ, List.setIfInBounds_toArray, List.set_cons_zero, List.set_cons_succ]
          --@8
          refine q_any (by kernel_rfl) ?_ (fun wq hC => ?_) ?_
          rotate_left
          · (go_simp) <;> (try (with_reducible rfl))
          try simp only [Act.put, Array.getInternal_eq_getElem, List.getElem_toArray, List.getElem_cons_zero, List.getElem_cons_succ, List.setIfInBounds_toArray, List.set_cons_zero, List.set_cons_succ]
          --@9
          refine q_load (by kernel_rfl) 31 _ rfl gL (m * 37) rfl CA _ (fun wq hC => HLA wq hC) Try.underlying31 rfl HZA.out ?_
          try simp only [Act.put, Array.getInternal_eq_getElem, List.getElem_toArray, List.getElem_cons_zero, List.getElem_cons_succ, List.setIfInBounds_toArray, List.set_cons_zero, List.set_cons_succ]
          --@10
          refine q_any (by kernel_rfl) ?_ (fun wq hC => ?_) ?_
          rotate_left
          · (have hz := HNE wq; go_simp) <;> (try (with_reducible rfl))
          try simp only [Act.put, Array.getInternal_eq_getElem, List.getElem_toArray, List.getElem_cons_zero, List.getElem_cons_succ, List.setIfInBounds_toArray, List.set_cons_zero, List.set_cons_succ]
          --@11
          refine q_any (by kernel_rfl) ?_ (fun wq hC => ?_) ?_
          rotate_left
          · (go_simp) <;> (try (with_reducible rfl))
          try simp only [Act.put, Array.getInternal_eq_getElem, List.getElem_toArray, List.getElem_cons_zero, List.getElem_cons_succ, List.setIfInBounds_toArray, List.set_cons_zero, List.set_cons_succ]
          --@12
          refine q_any (by kernel_rfl) ?_ (fun wq hC => ?_) ?_
          rotate_left
          · (go_simp) <;> (try (with_reducible rfl))
          try simp only [Act.put, Array.getInternal_eq_getElem, List.getElem_toArray, List.getElem_cons_zero, List.getElem_cons_succ, List.setIfInBounds_toArray, List.set_cons_zero, List.set_cons_succ]
          --@13
          refine q_any (by kernel_rfl) ?_ (fun wq hC => ?_) ?_
          rotate_left
          · (go_simp) <;> (try (with_reducible rfl))
          try simp only [Act.put, Array.getInternal_eq_getElem, List.getElem_toArray, List.getElem_cons_zero, List.getElem_cons_succ, List.setIfInBounds_toArray, List.set_cons_zero, List.set_cons_succ]
          --@14
          refine q_any (by kernel_rfl) ?_ (fun wq hC => ?_) ?_
          rotate_left
          · (go_simp) <;> (try (with_reducible rfl))
          try simp only [Act.put, Array.getInternal_eq_getElem, List.getElem_toArray, List.getElem_cons_zero, List.getElem_cons_succ, List.setIfInBounds_toArray, List.set_cons_zero, List.set_cons_succ]
          --@15
          refine q_any (by kernel_rfl) ?_ (fun wq hC => ?_) ?_
          rotate_left
          · (go_simp) <;> (try (with_reducible rfl))
          try simp only [Act.put, Array.getInternal_eq_getElem, List.getElem_toArray, List.getElem_cons_zero, List.getElem_cons_succ, List.setIfInBounds_toArray, List.set_cons_zero, List.set_cons_succ]
          --@16
          refine q_any (by kernel_rfl) ?_ (fun wq hC => ?_) ?_
          rotate_left
          · (go_simp) <;> (try (with_reducible rfl))
          try simp only [Act.put, Array.getInternal_eq_getElem, List.getElem_toArray, List.getElem_cons_zero, List.getElem_cons_succ, List.setIfInBounds_toArray, List.set_cons_zero, List.set_cons_succ]
          --@17
          refine q_any (by kernel_rfl) ?_ (fun wq hC => ?_) ?_
          rotate_left
          · (go_simp) <;> (try (with_reducible rfl))
          try simp only [Act.put, Array.getInternal_eq_getElem, List.getElem_toArray, List.getElem_cons_zero, List.getElem_cons_succ, List.setIfInBounds_toArray, List.set_cons_zero, List.set_cons_succ]
          --@18
          refine q_any (by kernel_rfl) ?_ (fun wq hC => ?_) ?_
          rotate_left
          · (go_simp) <;> (try (with_reducible rfl))
          try simp only [Act.put, Array.getInternal_eq_getElem, List.getElem_toArray, List.getElem_cons_zero, List.getElem_cons_succ, List.setIfInBounds_toArray, List.set_cons_zero, List.set_cons_succ]
          --@19
          refine q_any (by kernel_rfl) ?_ (fun wq hC => ?_) ?_
          rotate_left
          · (go_simp) <;> (try (with_reducible rfl))
          try simp only [Act.put, Array.getInternal_eq_getElem, List.getElem_toArray, List.getElem_cons_zero, List.getElem_cons_succ, List.setIfInBounds_toArray, List.set_cons_zero, List.set_cons_succ]
          --@20
          refine q_any (by kernel_rfl) ?_ (fun wq hC => ?_) ?_
          rotate_left
          · (go_simp) <;> (try (with_reducible rfl))
          try simp only [Act.put, Array.getInternal_eq_getElem, List.getElem_toArray, List.getElem_cons_zero, List.getElem_cons_succ, List.setIfInBounds_toArray, List.set_cons_zero, List.set_cons_succ]
          --@21
          refine q_any (by kernel_rfl) ?_ (fun wq hC => ?_) ?_
          rotate_left
          · (go_simp) <;> (try (with_reducible rfl))
          try simp only [Act.put, Array.getInternal_eq_getElem, List.getElem_toArray, List.getElem_cons_zero, List.getElem_cons_succ, List.setIfInBounds_toArray, List.set_cons_zero, List.set_cons_succ]
          --@22
          refine q_any (by kernel_rfl) ?_ (fun wq hC => ?_) ?_
          rotate_left
          · (go_simp) <;> (try (with_reducible rfl))
          try simp only [Act.put, Array.getInternal_eq_getElem, List.getElem_toArray, List.getElem_cons_zero, List.getElem_cons_succ, List.setIfInBounds_toArray, List.set_cons_zero, List.set_cons_succ]
          --@23
          refine q_any (by kernel_rfl) ?_ (fun wq hC => ?_) ?_
          rotate_left
          · (go_simp) <;> (try (with_reducible rfl))
          try simp only [Act.put, Array.getInternal_eq_getElem, List.getElem_toArray, List.getElem_cons_zero, List.getElem_cons_succ, List.setIfInBounds_toArray, List.set_cons_zero, List.set_cons_succ]
          --@24
          refine q_any (by kernel_rfl) ?_ (fun wq hC => ?_) ?_
          rotate_left
          · (go_simp) <;> (try (with_reducible rfl))
          try simp only [Act.put, Array.getInternal_eq_getElem, List.getElem_toArray, List.getElem_cons_zero, List.getElem_cons_succ, List.setIfInBounds_toArray, List.set_cons_zero, List.set_cons_succ]
          --@25
          refine q_any (by kernel_rfl) ?_ (fun wq hC => ?_) ?_
          rotate_left
          · (go_simp) <;> (try (with_reducible rfl))
          try simp only [Act.put, Array.getInternal_eq_getElem, List.getElem_toArray, List.getElem_cons_zero, List.getElem_cons_succ, List.setIfInBounds_toArray, List.set_cons_zero, List.set_cons_succ]
          --@26
          refine q_any (by kernel_rfl) ?_ (fun wq hC => ?_) ?_
          rotate_left
          · (go_simp) <;> (try (with_reducible rfl))
          try simp only [Act.put, Array.getInternal_eq_getElem, List.getElem_toArray, List.getElem_cons_zero, List.getElem_cons_succ, List.setIfInBounds_toArray, List.set_cons_zero, List.set_cons_succ]
          --@27
          refine q_any (by kernel_rfl) ?_ (fun wq hC => ?_) ?_
          rotate_left
          · (go_simp) <;> (try (with_reducible rfl))
          try simp only [Act.put, Array.getInternal_eq_getElem, List.getElem_toArray, List.getElem_cons_zero, List.getElem_cons_succ, List.setIfInBounds_toArray, List.set_cons_zero, List.set_cons_succ]
          --@28
          refine q_any (by kernel_rfl) ?_ (fun wq hC => ?_) ?_
          rotate_left
          · (go_simp) <;> (try (with_reducible rfl))
          try simp only [Act.put, Array.getInternal_eq_getElem, List.getElem_toArray, List.getElem_cons_zero, List.getElem_cons_succ, List.setIfInBounds_toArray, List.set_cons_zero, List.set_cons_succ]
          --@29
          refine q_any (by kernel_rfl) ?_ (fun wq hC => ?_) ?_
          rotate_left
          · (go_simp) <;> (try (with_reducible rfl))
          try simp only [Act.put, Array.getInternal_eq_getElem, List.getElem_toArray, List.getElem_cons_zero, List.getElem_cons_succ, List.setIfInBounds_toArray, List.set_cons_zero, List.set_cons_succ]
          --@30
          refine q_any (by kernel_rfl) ?_ (fun wq hC => ?_) ?_
          rotate_left
          · (go_simp) <;> (try (with_reducible rfl))
          try simp only [Act.put, Array.getInternal_eq_getElem, List.getElem_toArray, List.getElem_cons_zero, List.getElem_cons_succ, List.setIfInBounds_toArray, List.set_cons_zero, List.set_cons_succ]
          --@31
          refine q_any (by kernel_rfl) ?_ (fun wq hC => ?_) ?_
          rotate_left
          · (go_simp) <;> (try (with_reducible rfl))
          try simp only [Act.put, Array.getInternal_eq_getElem, List.getElem_toArray, List.getElem_cons_zero, List.getElem_cons_succ, List.setIfInBounds_toArray, List.set_cons_zero, List.set_cons_succ]
          --@32
          refine q_any (by kernel_rfl) ?_ (fun wq hC => ?_) ?_
          rotate_left
          · (go_simp) <;> (try (with_reducible rfl))
          try simp only [Act.put, Array.getInternal_eq_getElem, List.getElem_toArray, List.getElem_cons_zero, List.getElem_cons_succ, List.setIfInBounds_toArray, List.set_cons_zero, List.set_cons_succ]
          --@33
          refine q_any (by kernel_rfl) ?_ (fun wq hC => ?_) ?_
          rotate_left
          · (go_simp) <;> (try (with_reducible rfl))
          try simp only [Act.put, Array.getInternal_eq_getElem, List.getElem_toArray, List.getElem_cons_zero, List.getElem_cons_succ, List.setIfInBounds_toArray, List.set_cons_zero, List.set_cons_succ]
          --@34
          refine q_any (by kernel_rfl) ?_ (fun wq hC => ?_) ?_
          rotate_left
          · (go_simp) <;> (try (with_reducible rfl))
          try simp only [Act.put, Array.getInternal_eq_getElem, List.getElem_toArray, List.getElem_cons_zero, List.getElem_cons_succ, List.setIfInBounds_toArray, List.set_cons_zero, List.set_cons_succ]
          --@35
          refine q_any (by kernel_rfl) ?_ (fun wq hC => ?_) ?_
          rotate_left
          · (go_simp) <;> (try (with_reducible rfl))
          try simp only [Act.put, Array.getInternal_eq_getElem, List.getElem_toArray, List.getElem_cons_zero, List.getElem_cons_succ, List.setIfInBounds_toArray, List.set_cons_zero, List.set_cons_succ]
          --@36
          refine q_any (by kernel_rfl) ?_ (fun wq hC => ?_) ?_
          rotate_left
          · (go_simp) <;> (try (with_reducible rfl))
          try simp only [Act.put, Array.getInternal_eq_getElem, List.getElem_toArray, List.getElem_cons_zero, List.getElem_cons_succ, List.setIfInBounds_toArray, List.set_cons_zero, List.set_cons_succ]
          --@37
          refine q_any (by kernel_rfl) ?_ (fun wq hC => ?_) ?_
          rotate_left
          · (go_simp) <;> (try (with_reducible rfl))
          try simp only [Act.put, Array.getInternal_eq_getElem, List.getElem_toArray, List.getElem_cons_zero, List.getElem_cons_succ, List.setIfInBounds_toArray, List.set_cons_zero, List.set_cons_succ]
          --@38
          refine q_any (by kernel_rfl) ?_ (fun wq hC => ?_) ?_
          rotate_left
          · (go_simp) <;> (try (with_reducible rfl))
          try simp only [Act.put, Array.getInternal_eq_getElem, List.getElem_toArray, List.getElem_cons_zero, List.getElem_cons_succ, List.setIfInBounds_toArray, List.set_cons_zero, List.set_cons_succ]
          --@39
          refine q_any (by kernel_rfl) ?_ (fun wq hC => ?_) ?_
          rotate_left
          · (go_simp) <;> (try (with_reducible rfl))
          try simp only [Act.put, Array.getInternal_eq_getElem, List.getElem_toArray, List.getElem_cons_zero, List.getElem_cons_succ, List.setIfInBounds_toArray, List.set_cons_zero, List.set_cons_succ]
          --@40
          refine q_any (by kernel_rfl) ?_ (fun wq hC => ?_) ?_
          rotate_left
          · (go_simp) <;> (try (with_reducible rfl))
          try simp only [Act.put, Array.getInternal_eq_getElem, List.getElem_toArray, List.getElem_cons_zero, List.getElem_cons_succ, List.setIfInBounds_toArray, List.set_cons_zero, List.set_cons_succ]
          --@41
          refine q_any (by kernel_rfl) ?_ (fun wq hC => ?_) ?_
          rotate_left
          · (go_simp) <;> (try (with_reducible rfl))
          try simp only [Act.put, Array.getInternal_eq_getElem, List.getElem_toArray, List.getElem_cons_zero, List.getElem_cons_succ, List.setIfInBounds_toArray, List.set_cons_zero, List.set_cons_succ]
          refine q_nil ?_
          intro u6 ku6
          go_wp2
          go_roundw
          case rel => exact ⟨m + 1, by omega, by go_num, ku6⟩
          case measure => simp [intOf]; omega
    · obtain rfl : m = 4 := by omega
      have HO9 := Lib.hid hO
      clear hO
      go_wp2_with fail
      refine (HE _).out.mono ?_
      rintro e u ⟨rfl, k⟩
      have KU : Hid (∀ S, Keeps S w u) := Lib.hid (fun S => (KW.out S).trans ((HO9.out.all S).trans (k S)))
      clear k
      go_wp2
      try rw [Exit.noGoto_ret]
      go_ret
      exact ⟨rfl, below_of KU.out⟩
end Go.Proofs.Ytdnddlmlbnachaa.fw
