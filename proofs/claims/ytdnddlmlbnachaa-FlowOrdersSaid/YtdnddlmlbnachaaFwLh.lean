/-
  The law FlowHashes, walked.
-/
import Derived.Test.YtdnddlmlbnachaaFwLn
set_option linter.unusedVariables false
set_option linter.unusedSimpArgs false
namespace Go.Proofs.Ytdnddlmlbnachaa.fw
open Go.RowKit Go.Proofs.Ytdnddlmlbnachaa.oc Go.Proofs.Ytdnddlmlbnachaa.mz Go.Proofs.Ytdnddlmlbnachaa.pf Go.Proofs.Ytdnddlmlbnachaa.wh Go.Proofs.Ytdnddlmlbnachaa.qk Go.Proofs.Ytdnddlmlbnachaa.bys
theorem same_t (w : World) (A A' : Option Addr) (l : List Nat) (n c c' B B' : Nat) (hl : l.length = n) (hn : n ≤ 140737488355328) (hr : Rd w B A (by_ l)) (hr' : Rd w B' A' (by_ l)) :
    Calls Try.prog 16 #[.slice A n c, .slice A' n c'] w fun e w' => e = .returned (.bool true) ∧ ∀ S, Keeps S w w' :=
  (same_n w A A' l l n c c' B B' hl hl hn hr hr').mono fun e w' ⟨he, d, hd⟩ => ⟨by rw [he, decide_eq_true rfl], fun S => by rw [← hd]; exact Keeps.of_drew w d⟩
theorem rd_keeps {w w' : World} {A : Option Addr} {xs : List Value} (h : Rd w w.heap.size A xs) (k : Keeps (fun _ => False) w w') : Rd w' w'.heap.size A xs := fun j v hv => by
  obtain ⟨b, o, e, hb, hc⟩ := h j v hv
  exact ⟨b, o, e, Nat.lt_of_lt_of_le hb k.size, Keeps.cell k hc (fun z => z)⟩
theorem rd_old {w w' : World} {B : Nat} {A : Option Addr} {xs : List Value} (h : Rd w B A xs) (k : Keeps (fun _ => False) w w') : Rd w' B A xs := fun j v hv => by
  obtain ⟨b, o, e, hb, hc⟩ := h j v hv
  exact ⟨b, o, e, hb, Keeps.cell k hc (fun z => z)⟩
set_option maxRecDepth 100000 in
set_option maxHeartbeats 4000000 in
theorem walk_flowHashes (w : World) (k : Ky) (hk : k.Wf) :
    Calls Try.prog 4 #[kv k] w fun e w' => e = .returned (.bool true) ∧ Below w.heap.size w w' := by
  obtain ⟨w1, hw1, k1, b1, s1⟩ := box1 w (kvc k) 31
  have HSZ := Lib.hid (key_sz hk)
  have HB1 := Lib.hid b1
  have HB := fun w => Lib.hid (bytes_ w k hk)
  have HRB := fun w => Lib.hid (rbytes_ w k hk)
  have HH := fun w => Lib.hid (hash_ w k hk)
  have HRH := fun w => Lib.hid (rhash_ w k hk)
  have HE := fun w => Lib.hid (awake_ w)
  have HL := Lib.hid (kby_len hk)
  have HSM := Lib.hid (kby_small hk)
  have HW := Lib.hid hw1
  have K1 : Hid (∀ S, Keeps S w w1) := Lib.hid k1
  unfold kv at HB HRB HH HRH ⊢
  clear hw1 k1 b1 s1 hk
  generalize kvc k = C at *
  generalize khash k = Hh at *
  go_enter Try.func4, Try.ntmps4
  go_wp2_with (first | (with_reducible rw [← HW.out]; refine wpList_load_mid rfl 31 _ rfl w.heap.size 0 rfl C _ (Blk.range HB1.out) Try.underlying31 rfl HSZ.out ?_))
  refine (HB _).out.mono ?_
  rintro e w2 ⟨v, rfl, y⟩
  obtain ⟨g, c, rfl, gl, gh⟩ := y.form (by rw [HL.out]; omega)
  rw [HL.out]
  have HY := Lib.hid y
  have HRG : Hid (∀ wq, Keeps (fun _ => False) w2 wq → wq.rangeAt w.heap.size 0 C) := Lib.hid (fun wq kq => range_keeps (Blk.range HB1.out) ((y.keep (fun _ => False)).trans kq) (fun z => z))
  have HRD : Hid (∀ wq, Keeps (fun _ => False) w2 wq → Rd wq (g + 1) (some ⟨g, 0, none⟩) (by_ (kby k))) := Lib.hid (fun wq kq => rd_old (fun j v hv => by
    obtain ⟨x, hx, rfl⟩ : ∃ x : Nat, (kby k)[j]? = some x ∧ v = .int .u8 (x : Int) := by
      rw [by_, List.getElem?_map] at hv
      obtain ⟨x, hx, e⟩ := Option.map_eq_some_iff.1 hv
      exact ⟨x, hx, e.symm⟩
    exact ⟨g, 0, rfl, by omega, by rw [Nat.zero_add]; exact y.cell hx⟩) kq)
  clear y gl gh
  go_wp2_with fail
  refine wp_region_held_drew (S := fun w' => w'.rangeAt w.heap.size 0 C) (by kernel_rfl) (HRG.out _ ((Keeps.refl _ w2).drew)) (fun hHeld => ?_)
  refine wpAnyH_take (i := 0) (v := ?_) rfl (by kernel_rfl) (by kernel_rfl) (by kernel_rfl) (fun _ _ _ h => h) (Or.inl ⟨by kernel_rfl, ?_⟩) (by assumption) ?_
  rotate_left
  · (intro w hSw; (try dsimp only at hSw); go_simp) <;> (try (with_reducible rfl))
  try simp only [Act.put, Array.getInternal_eq_getElem, List.getElem_toArray, List.getElem_cons_zero, List.getElem_cons_succ, List.setIfInBounds_toArray, List.set_cons_zero, List.set_cons_succ]
  refine' wpAnyH_take (i := 1) (v := _) rfl (by kernel_rfl) (by kernel_rfl) (by kernel_rfl) (fun _ _ _ h => h) (yieldsIf_load_mid (by kernel_rfl) _ _ rfl _ _ rfl _ _ (fun w hSw => hSw) Try.underlying31 rfl HSZ.out) (by assumption) ?_
  try simp only [Act.put, Array.getInternal_eq_getElem, List.getElem_toArray, List.getElem_cons_zero, List.getElem_cons_succ, List.setIfInBounds_toArray, List.set_cons_zero, List.set_cons_succ]
  refine wpAnyH_ready (rs := [2]) (by kernel_rfl) (by simp) ?_
  refine AllReadyH.cons rfl (fun K hK => ?_) AllReadyH.nil
  (rw [if_pos (by kernel_rfl)]; go_simp; go_at_call 17; refine ((HRB _).out).mono ?_; rintro e wa ⟨va, rfl, ya⟩; obtain ⟨A2, c2, rfl, r2⟩ := ya.rd; rw [HL.out]; have KA : Hid (∀ S, Keeps S w2 wa) := Lib.hid (fun S => ((Keeps.refl S w2).drew).trans (ya.keep S)); have RA := Lib.hid r2; clear ya r2)
  refine hK.out _ _ (HRG.out _ (KA.out _)) (fun hHeld => ?_)
  clear hK K
  try simp only [Act.put, Array.getInternal_eq_getElem, List.getElem_toArray, List.getElem_cons_zero, List.getElem_cons_succ, List.setIfInBounds_toArray, List.set_cons_zero, List.set_cons_succ]
  refine wpAnyH_ready (rs := [3]) (by kernel_rfl) (by simp) ?_
  refine AllReadyH.cons rfl (fun K hK => ?_) AllReadyH.nil
  (rw [if_pos (by kernel_rfl)]; go_simp; go_at_call 16; refine (same_t _ (some ⟨g, 0, none⟩) A2 (kby k) 39 c c2 _ _ HL.out (by omega) (HRD.out _ (KA.out _)) RA.out).mono ?_; rintro e wb ⟨rfl, kb⟩; have KB : Hid (∀ S, Keeps S w2 wb) := Lib.hid (fun S => (KA.out S).trans (kb S)); clear kb)
  refine hK.out _ _ (HRG.out _ (KB.out _)) (fun hHeld => ?_)
  clear hK K
  try simp only [Act.put, Array.getInternal_eq_getElem, List.getElem_toArray, List.getElem_cons_zero, List.getElem_cons_succ, List.setIfInBounds_toArray, List.set_cons_zero, List.set_cons_succ]
  refine wpAnyH_take (i := 4) (v := ?_) rfl (by kernel_rfl) (by kernel_rfl) (by kernel_rfl) (fun _ _ _ h => h) (Or.inl ⟨by kernel_rfl, ?_⟩) (by assumption) ?_
  rotate_left
  · (intro w hSw; (try dsimp only at hSw); go_simp) <;> (try (with_reducible rfl))
  try simp only [Act.put, Array.getInternal_eq_getElem, List.getElem_toArray, List.getElem_cons_zero, List.getElem_cons_succ, List.setIfInBounds_toArray, List.set_cons_zero, List.set_cons_succ]
  refine wpAnyH_take (i := 5) (v := ?_) rfl (by kernel_rfl) (by kernel_rfl) (by kernel_rfl) (fun _ _ _ h => h) (Or.inl ⟨by kernel_rfl, ?_⟩) (by assumption) ?_
  rotate_left
  · (intro w hSw; (try dsimp only at hSw); go_simp) <;> (try (with_reducible rfl))
  try simp only [Act.put, Array.getInternal_eq_getElem, List.getElem_toArray, List.getElem_cons_zero, List.getElem_cons_succ, List.setIfInBounds_toArray, List.set_cons_zero, List.set_cons_succ]
  refine' wpAnyH_take (i := 6) (v := _) rfl (by kernel_rfl) (by kernel_rfl) (by kernel_rfl) (fun _ _ _ h => h) (yieldsIf_load_mid (by kernel_rfl) _ _ rfl _ _ rfl _ _ (fun w hSw => hSw) Try.underlying31 rfl HSZ.out) (by assumption) ?_
  try simp only [Act.put, Array.getInternal_eq_getElem, List.getElem_toArray, List.getElem_cons_zero, List.getElem_cons_succ, List.setIfInBounds_toArray, List.set_cons_zero, List.set_cons_succ]
  refine' wpAnyH_take (i := 8) (v := _) rfl (by kernel_rfl) (by kernel_rfl) (by kernel_rfl) (fun _ _ _ h => h) (yieldsIf_load_mid (by kernel_rfl) _ _ rfl _ _ rfl _ _ (fun w hSw => hSw) Try.underlying31 rfl HSZ.out) (by assumption) ?_
  try simp only [Act.put, Array.getInternal_eq_getElem, List.getElem_toArray, List.getElem_cons_zero, List.getElem_cons_succ, List.setIfInBounds_toArray, List.set_cons_zero, List.set_cons_succ]
  refine wpAnyH_ready (rs := [7]) (by kernel_rfl) (by simp) ?_
  refine AllReadyH.cons rfl (fun K hK => ?_) AllReadyH.nil
  (rw [if_pos (by kernel_rfl)]; go_simp; go_at_call 18; refine ((HH _).out).mono ?_; rintro e wc ⟨rfl, kc⟩; have KC : Hid (∀ S, Keeps S w2 wc) := Lib.hid (fun S => (KB.out S).trans (kc S)); clear kc)
  refine hK.out _ _ (HRG.out _ (KC.out _)) (fun hHeld => ?_)
  clear hK K
  try simp only [Act.put, Array.getInternal_eq_getElem, List.getElem_toArray, List.getElem_cons_zero, List.getElem_cons_succ, List.setIfInBounds_toArray, List.set_cons_zero, List.set_cons_succ]
  refine wpAnyH_ready (rs := [9]) (by kernel_rfl) (by simp) ?_
  refine AllReadyH.cons rfl (fun K hK => ?_) AllReadyH.nil
  (rw [if_pos (by kernel_rfl)]; go_simp; go_at_call 19; refine ((HRH _).out).mono ?_; rintro e wd ⟨rfl, kd⟩; have KD : Hid (∀ S, Keeps S w2 wd) := Lib.hid (fun S => (KC.out S).trans (kd S)); clear kd)
  refine hK.out _ _ (HRG.out _ (KD.out _)) (fun hHeld => ?_)
  clear hK K
  try simp only [Act.put, Array.getInternal_eq_getElem, List.getElem_toArray, List.getElem_cons_zero, List.getElem_cons_succ, List.setIfInBounds_toArray, List.set_cons_zero, List.set_cons_succ]
  refine wpAnyH_take (i := 10) (v := ?_) rfl (by kernel_rfl) (by kernel_rfl) (by kernel_rfl) (fun _ _ _ h => h) (Or.inl ⟨by kernel_rfl, ?_⟩) (by assumption) ?_
  rotate_left
  · (intro w hSw; (try dsimp only at hSw); go_simp) <;> (try (with_reducible rfl))
  try simp only [Act.put, Array.getInternal_eq_getElem, List.getElem_toArray, List.getElem_cons_zero, List.getElem_cons_succ, List.setIfInBounds_toArray, List.set_cons_zero, List.set_cons_succ]
  refine wpAnyH_take (i := 11) (v := ?_) rfl (by kernel_rfl) (by kernel_rfl) (by kernel_rfl) (fun _ _ _ h => h) (Or.inl ⟨by kernel_rfl, ?_⟩) (by assumption) ?_
  rotate_left
  · (intro w hSw; (try dsimp only at hSw); go_simp) <;> (try (with_reducible rfl))
  try simp only [Act.put, Array.getInternal_eq_getElem, List.getElem_toArray, List.getElem_cons_zero, List.getElem_cons_succ, List.setIfInBounds_toArray, List.set_cons_zero, List.set_cons_succ]
  refine wpAnyH_done ?_ ?_ _
  · kernel_rfl
  have HY3 : Hid (By w1 wd (.slice (some ⟨g, 0, none⟩) 39 c) (kby k)) := Lib.hid (by have := HY.out.grown KD.out; rwa [HL.out] at this)
  clear KA KB KC KD RA HY HRD HRG
  go_wp2_with fail
  go_loopw [4] (fun i wr => ∃ (m : Nat) (L : List Nat), m ≤ 39 ∧ i = .int .i64 (m : Int) ∧ By w1 wr (.slice (some ⟨g, 0, none⟩) 39 c) L ∧ L.length = 39 ∧ ∀ x ∈ L, x < 256) (fun i _ => 39 - (intOf i).toNat)
  case atStart => exact ⟨0, kby k, by omega, rfl, HY3.out, HL.out, HSM.out⟩
  case round =>
    obtain ⟨m, L, hm, rfl, hy, hl, hs⟩ := hrel
    by_cases hlt : m < 39
    · have hx := getq (bs := L) (k := m) (by rw [hl]; exact hlt)
      have hc := hy.cell hx
      have hf := hy.frozen m
      have hx8 : L.getD m 0 < 256 := hs _ (List.mem_of_getElem? hx)
      have HY4 := Lib.hid hy
      have HLS := Lib.hid (And.intro hl hs)
      clear hy hx hl hs HY3
      generalize L.getD m 0 = x at *
      obtain ⟨y, hy⟩ : ∃ y, y = (x + 1) % 256 := ⟨_, rfl⟩
      have hy2 : ((x : Int) + 1) % 256 = (y : Int) := by omega
      have hy8 : y < 256 := by omega
      have hlt' : (m : Int) < 39 := by omega
      have m0 : (0 : Int) ≤ (m : Int) := by omega
      clear hy
      go_wp2
      go_roundw
      case rel => exact ⟨m + 1, L.set m y, by omega, by go_num, HY4.out.set (by rw [HLS.out.1]; exact hlt) y, by rw [List.length_set]; exact HLS.out.1, fun z hz => by
        rcases List.mem_or_eq_of_mem_set hz with q | q
        · exact HLS.out.2 z q
        · rw [q]; exact hy8⟩
      case measure => simp [intOf]; omega
    · obtain rfl : m = 39 := by omega
      have HY4 := Lib.hid (And.intro hy hl)
      clear hy hl hs HY3
      go_wp2_with (at_builtin; refine By.wpList_append rfl _ _ rfl (HY4.out.1.alloc _) rfl (some ⟨wr.heap.size, 0, none⟩) 1 1 _ [7] rfl rfl (one_rd wr 7) (by rw [HY4.out.2]; omega) ?_; intro v5 w5 y5 k5; have Y5 := Lib.hid y5; clear y5 k5)
      obtain ⟨A5, c5, rfl, r5⟩ := Y5.out.rd
      have h40 : (L ++ ([7] : List Nat)).length = 40 := by rw [List.length_append, HY4.out.2]; rfl
      rw [h40]
      clear h40
      have K5 : Hid (∀ S, Keeps S w w5) := Lib.hid (fun S => (K1.out S).trans (Y5.out.keep S))
      have HRG5 : Hid (∀ wq, Keeps (fun _ => False) w5 wq → wq.rangeAt w.heap.size 0 C) := Lib.hid (fun wq kq => range_keeps (Blk.range HB1.out) ((Y5.out.keep (fun _ => False)).trans kq) (fun z => z))
      clear r5 Y5 HY4
      refine wp_region_held_drew (S := fun w' => w'.rangeAt w.heap.size 0 C) (by kernel_rfl) (HRG5.out _ ((Keeps.refl _ w5).drew)) (fun hHeld => ?_)
      refine' wpAnyH_take (i := 0) (v := _) rfl (by kernel_rfl) (by kernel_rfl) (by kernel_rfl) (fun _ _ _ h => h) (yieldsIf_load_mid (by kernel_rfl) _ _ rfl _ _ rfl _ _ (fun w hSw => hSw) Try.underlying31 rfl HSZ.out) (by assumption) ?_
      try simp only [Act.put, Array.getInternal_eq_getElem, List.getElem_toArray, List.getElem_cons_zero, List.getElem_cons_succ, List.setIfInBounds_toArray, List.set_cons_zero, List.set_cons_succ]
      refine' wpAnyH_take (i := 2) (v := _) rfl (by kernel_rfl) (by kernel_rfl) (by kernel_rfl) (fun _ _ _ h => h) (yieldsIf_load_mid (by kernel_rfl) _ _ rfl _ _ rfl _ _ (fun w hSw => hSw) Try.underlying31 rfl HSZ.out) (by assumption) ?_
      try simp only [Act.put, Array.getInternal_eq_getElem, List.getElem_toArray, List.getElem_cons_zero, List.getElem_cons_succ, List.setIfInBounds_toArray, List.set_cons_zero, List.set_cons_succ]
      refine wpAnyH_ready (rs := [1]) (by kernel_rfl) (by simp) ?_
      refine AllReadyH.cons rfl (fun K hK => ?_) AllReadyH.nil
      (rw [if_pos (by kernel_rfl)]; go_simp; go_at_call 15; refine ((HB _).out).mono ?_; rintro e xa ⟨va, rfl, ya⟩; obtain ⟨A1, c1, rfl, r1⟩ := ya.rd; rw [HL.out]; have KA : Hid (∀ S, Keeps S w5 xa) := Lib.hid (fun S => ((Keeps.refl S w5).drew).trans (ya.keep S)); have RA := Lib.hid r1; clear ya r1)
      refine hK.out _ _ (HRG5.out _ (KA.out _)) (fun hHeld => ?_)
      clear hK K
      try simp only [Act.put, Array.getInternal_eq_getElem, List.getElem_toArray, List.getElem_cons_zero, List.getElem_cons_succ, List.setIfInBounds_toArray, List.set_cons_zero, List.set_cons_succ]
      refine wpAnyH_ready (rs := [3]) (by kernel_rfl) (by simp) ?_
      refine AllReadyH.cons rfl (fun K hK => ?_) AllReadyH.nil
      (rw [if_pos (by kernel_rfl)]; go_simp; go_at_call 17; refine ((HRB _).out).mono ?_; rintro e xb ⟨vb, rfl, yb⟩; obtain ⟨A2, c2, rfl, r2⟩ := yb.rd; rw [HL.out]; have KB : Hid (∀ S, Keeps S w5 xb) := Lib.hid (fun S => (KA.out S).trans (yb.keep S)); have RA2 := Lib.hid (rd_keeps RA.out (yb.keep (fun _ => False))); have RB2 := Lib.hid r2; clear yb r2)
      refine hK.out _ _ (HRG5.out _ (KB.out _)) (fun hHeld => ?_)
      clear hK K
      try simp only [Act.put, Array.getInternal_eq_getElem, List.getElem_toArray, List.getElem_cons_zero, List.getElem_cons_succ, List.setIfInBounds_toArray, List.set_cons_zero, List.set_cons_succ]
      refine wpAnyH_ready (rs := [4]) (by kernel_rfl) (by simp) ?_
      refine AllReadyH.cons rfl (fun K hK => ?_) AllReadyH.nil
      (rw [if_pos (by kernel_rfl)]; go_simp; go_at_call 16; refine (same_t _ A1 A2 (kby k) 39 c1 c2 _ _ HL.out (by omega) RA2.out RB2.out).mono ?_; rintro e xc ⟨rfl, kc⟩; have KC : Hid (∀ S, Keeps S w5 xc) := Lib.hid (fun S => (KB.out S).trans (kc S)); clear kc)
      refine hK.out _ _ (HRG5.out _ (KC.out _)) (fun hHeld => ?_)
      clear hK K
      try simp only [Act.put, Array.getInternal_eq_getElem, List.getElem_toArray, List.getElem_cons_zero, List.getElem_cons_succ, List.setIfInBounds_toArray, List.set_cons_zero, List.set_cons_succ]
      refine wpAnyH_take (i := 5) (v := ?_) rfl (by kernel_rfl) (by kernel_rfl) (by kernel_rfl) (fun _ _ _ h => h) (Or.inl ⟨by kernel_rfl, ?_⟩) (by assumption) ?_
      rotate_left
      · (intro w hSw; (try dsimp only at hSw); go_simp) <;> (try (with_reducible rfl))
      try simp only [Act.put, Array.getInternal_eq_getElem, List.getElem_toArray, List.getElem_cons_zero, List.getElem_cons_succ, List.setIfInBounds_toArray, List.set_cons_zero, List.set_cons_succ]
      refine wpAnyH_take (i := 6) (v := ?_) rfl (by kernel_rfl) (by kernel_rfl) (by kernel_rfl) (fun _ _ _ h => h) (Or.inl ⟨by kernel_rfl, ?_⟩) (by assumption) ?_
      rotate_left
      · (intro w hSw; (try dsimp only at hSw); go_simp) <;> (try (with_reducible rfl))
      try simp only [Act.put, Array.getInternal_eq_getElem, List.getElem_toArray, List.getElem_cons_zero, List.getElem_cons_succ, List.setIfInBounds_toArray, List.set_cons_zero, List.set_cons_succ]
      refine wpAnyH_take (i := 7) (v := ?_) rfl (by kernel_rfl) (by kernel_rfl) (by kernel_rfl) (fun _ _ _ h => h) (Or.inl ⟨by kernel_rfl, ?_⟩) (by assumption) ?_
      rotate_left
      · (intro w hSw; (try dsimp only at hSw); go_simp) <;> (try (with_reducible rfl))
      try simp only [Act.put, Array.getInternal_eq_getElem, List.getElem_toArray, List.getElem_cons_zero, List.getElem_cons_succ, List.setIfInBounds_toArray, List.set_cons_zero, List.set_cons_succ]
      refine wpAnyH_take (i := 8) (v := ?_) rfl (by kernel_rfl) (by kernel_rfl) (by kernel_rfl) (fun _ _ _ h => h) (Or.inl ⟨by kernel_rfl, ?_⟩) (by assumption) ?_
      rotate_left
      · (intro w hSw; (try dsimp only at hSw); go_simp) <;> (try (with_reducible rfl))
      try simp only [Act.put, Array.getInternal_eq_getElem, List.getElem_toArray, List.getElem_cons_zero, List.getElem_cons_succ, List.setIfInBounds_toArray, List.set_cons_zero, List.set_cons_succ]
      refine wpAnyH_take (i := 9) (v := ?_) rfl (by kernel_rfl) (by kernel_rfl) (by kernel_rfl) (fun _ _ _ h => h) (Or.inl ⟨by kernel_rfl, ?_⟩) (by assumption) ?_
      rotate_left
      · (intro w hSw; (try dsimp only at hSw); go_simp) <;> (try (with_reducible rfl))
      try simp only [Act.put, Array.getInternal_eq_getElem, List.getElem_toArray, List.getElem_cons_zero, List.getElem_cons_succ, List.setIfInBounds_toArray, List.set_cons_zero, List.set_cons_succ]
      refine wpAnyH_take (i := 10) (v := ?_) rfl (by kernel_rfl) (by kernel_rfl) (by kernel_rfl) (fun _ _ _ h => h) (Or.inl ⟨by kernel_rfl, ?_⟩) (by assumption) ?_
      rotate_left
      · (intro w hSw; (try dsimp only at hSw); go_simp) <;> (try (with_reducible rfl))
      try simp only [Act.put, Array.getInternal_eq_getElem, List.getElem_toArray, List.getElem_cons_zero, List.getElem_cons_succ, List.setIfInBounds_toArray, List.set_cons_zero, List.set_cons_succ]
      refine wpAnyH_ready (rs := [11]) (by kernel_rfl) (by simp) ?_
      refine AllReadyH.cons rfl (fun K hK => ?_) AllReadyH.nil
      (rw [if_pos (by kernel_rfl)]; go_simp; go_at_call 14; refine ((HE _).out).mono ?_; rintro e xd ⟨rfl, kd⟩; have KD : Hid (∀ S, Keeps S w5 xd) := Lib.hid (fun S => (KC.out S).trans (kd S)); clear kd)
      refine hK.out _ _ (HRG5.out _ (KD.out _)) (fun hHeld => ?_)
      clear hK K
      try simp only [Act.put, Array.getInternal_eq_getElem, List.getElem_toArray, List.getElem_cons_zero, List.getElem_cons_succ, List.setIfInBounds_toArray, List.set_cons_zero, List.set_cons_succ]
      refine wpAnyH_take (i := 12) (v := ?_) rfl (by kernel_rfl) (by kernel_rfl) (by kernel_rfl) (fun _ _ _ h => h) (Or.inl ⟨by kernel_rfl, ?_⟩) (by assumption) ?_
      rotate_left
      · (intro w hSw; (try dsimp only at hSw); go_simp) <;> (try (with_reducible rfl))
      try simp only [Act.put, Array.getInternal_eq_getElem, List.getElem_toArray, List.getElem_cons_zero, List.getElem_cons_succ, List.setIfInBounds_toArray, List.set_cons_zero, List.set_cons_succ]
      refine wpAnyH_take (i := 13) (v := ?_) rfl (by kernel_rfl) (by kernel_rfl) (by kernel_rfl) (fun _ _ _ h => h) (Or.inl ⟨by kernel_rfl, ?_⟩) (by assumption) ?_
      rotate_left
      · (intro w hSw; (try dsimp only at hSw); go_simp) <;> (try (with_reducible rfl))
      try simp only [Act.put, Array.getInternal_eq_getElem, List.getElem_toArray, List.getElem_cons_zero, List.getElem_cons_succ, List.setIfInBounds_toArray, List.set_cons_zero, List.set_cons_succ]
      refine wpAnyH_done ?_ ?_ _
      · kernel_rfl
      go_wp2
      try rw [Exit.noGoto_ret]
      go_ret
      exact ⟨rfl, below_of (fun S => (K5.out S).trans (KD.out S))⟩
end Go.Proofs.Ytdnddlmlbnachaa.fw
