/-
  flow.Compare; the document's own.
-/
import Derived.Test.YtdnddlmlbnachaaFwL
set_option linter.unusedVariables false
set_option linter.unusedSimpArgs false
namespace Go.Proofs.Ytdnddlmlbnachaa.fw
open Go.RowKit Go.Proofs.Ytdnddlmlbnachaa.oc Go.Proofs.Ytdnddlmlbnachaa.mz Go.Proofs.Ytdnddlmlbnachaa.pf Go.Proofs.Ytdnddlmlbnachaa.wh Go.Proofs.Ytdnddlmlbnachaa.qk Go.Proofs.Ytdnddlmlbnachaa.bys
theorem by_cells {w wi : World} {g n c : Nat} {l : List Nat} (h : By w wi (.slice (some ⟨g, 0, none⟩) n c) l) : ∀ j x, l[j]? = some x → wi.cell? ⟨g, 0 + j, none⟩ = some (.int .u8 ((x : Nat) : Int)) := fun j x hx => by rw [Nat.zero_add]; exact h.cell hx
theorem bytescmp39 (w : World) (l m : List Nat) (b c n1 n2 : Nat) (hl : ∀ x ∈ l, x < 256) (hm : ∀ x ∈ m, x < 256) (e1 : l.length = 39) (e2 : m.length = 39) (h1 : ∀ j x, l[j]? = some x → w.cell? ⟨b, 0 + j, none⟩ = some (.int .u8 ((x : Nat) : Int))) (h2 : ∀ j x, m[j]? = some x → w.cell? ⟨c, 0 + j, none⟩ = some (.int .u8 ((x : Nat) : Int))) :
    Calls Try.prog 33 #[.slice (some ⟨b, 0, none⟩) 39 n1, .slice (some ⟨c, 0, none⟩) 39 n2] w fun e w' => e = .returned (.int .i64 (cmpB l m)) ∧ ∀ S, Keeps S w w' := by
  have := bytescmp_ w l m b c 0 0 n1 n2 hl hm (by rw [e1, e2]) h1 h2
  rw [e1, e2] at this
  exact this
section
variable (w : World)
set_option maxRecDepth 100000 in
set_option maxHeartbeats 4000000 in
theorem pcmp_eq (a : Ky) (ha : a.Wf) : Calls Try.prog 24 #[kv a, kv a] w fun e w' => e = .returned (.int .i64 0) ∧ ∀ S, Keeps S w w' := by
  have b := a
  obtain ⟨w1, hw1, k1, ba, bb, s1⟩ := box2 w (kvc a) (kvc a) 31 31
  have HRA := Lib.hid (Blk.range ba)
  have HRB := Lib.hid (Blk.range bb)
  have HSA := Lib.hid (key_sz ha)
  have HW := Lib.hid hw1
  have K1 : Hid (∀ S, Keeps S w w1) := Lib.hid k1
  have heq := fun W => key_eql a a ha ha W
  rw [decide_eq_true rfl] at heq
  unfold kv at heq ⊢
  clear hw1 k1 ba bb s1 ha
  generalize kvc a = CA at *
  go_enter Try.func24, Try.ntmps24
  go_wp2_with (first
    | ((try with_reducible rw [← HW.out]); refine wpList_load_mid rfl 31 _ rfl w.heap.size 0 rfl CA _ HRA.out Try.underlying31 rfl HSA.out ?_)
    | (refine wpList_load_mid rfl 31 _ rfl (w.heap.size + 1) 0 rfl CA _ HRB.out Try.underlying31 rfl HSA.out ?_))
  try rw [Exit.noGoto_ret]
  go_ret
  exact ⟨rfl, K1.out⟩
set_option maxRecDepth 100000 in
set_option maxHeartbeats 4000000 in
theorem pcmp_ne (a b : Ky) (ha : a.Wf) (hb : b.Wf) (hab : a ≠ b) : Calls Try.prog 24 #[kv a, kv b] w fun e w' => e = .returned (.int .i64 (kcmp a b)) ∧ ∀ S, Keeps S w w' := by
  obtain ⟨w1, hw1, k1, ba, bb, s1⟩ := box2 w (kvc a) (kvc b) 31 31
  have HRA := Lib.hid (Blk.range ba)
  have HRB := Lib.hid (Blk.range bb)
  have HSA := Lib.hid (key_sz ha)
  have HSB := Lib.hid (key_sz hb)
  have HW := Lib.hid hw1
  have K1 : Hid (∀ S, Keeps S w w1) := Lib.hid k1
  have heq := fun W => key_eql a b ha hb W
  rw [decide_eq_false hab] at heq
  have HBA := fun w => Lib.hid (bytes_ w a ha)
  have HBB := fun w => Lib.hid (bytes_ w b hb)
  have HL := Lib.hid (And.intro (kby_len ha) (kby_len hb))
  have HSM : Hid ((∀ x ∈ kby a, x < 256) ∧ (∀ x ∈ kby b, x < 256)) := Lib.hid ⟨kby_small ha, kby_small hb⟩
  have BA0 := Lib.hid ba.drew
  have BB0 := Lib.hid bb.drew
  unfold kcmp
  unfold kv at heq HBA HBB ⊢
  clear hw1 k1 ba bb s1 ha hb hab
  generalize kvc a = CA at *
  generalize kvc b = CB at *
  go_enter Try.func24, Try.ntmps24
  go_wp2_with (first
    | ((try with_reducible rw [← HW.out]); refine wpList_load_mid rfl 31 _ rfl w.heap.size 0 rfl CA _ HRA.out Try.underlying31 rfl HSA.out ?_)
    | (refine wpList_load_mid rfl 31 _ rfl (w.heap.size + 1) 0 rfl CB _ HRB.out Try.underlying31 rfl HSB.out ?_))
  refine wp_region_held_drew (S := fun w' => w'.rangeAt w.heap.size 0 CA ∧ w'.rangeAt (w.heap.size + 1) 0 CB) (by kernel_rfl) ⟨Blk.range BA0.out, Blk.range BB0.out⟩ (fun hHeld => ?_)
  refine' wpAnyH_take (i := 0) (v := _) rfl (by kernel_rfl) (by kernel_rfl) (by kernel_rfl) (fun _ _ _ h => h) (yieldsIf_load_mid (by kernel_rfl) _ _ rfl _ _ rfl _ _ (fun w hSw => hSw.1) Try.underlying31 rfl HSA.out) (by assumption) ?_
  try simp only [Act.put, Array.getInternal_eq_getElem, List.getElem_toArray, List.getElem_cons_zero, List.getElem_cons_succ, List.setIfInBounds_toArray, List.set_cons_zero, List.set_cons_succ]
  refine' wpAnyH_take (i := 2) (v := _) rfl (by kernel_rfl) (by kernel_rfl) (by kernel_rfl) (fun _ _ _ h => h) (yieldsIf_load_mid (by kernel_rfl) _ _ rfl _ _ rfl _ _ (fun w hSw => hSw.2) Try.underlying31 rfl HSB.out) (by assumption) ?_
  try simp only [Act.put, Array.getInternal_eq_getElem, List.getElem_toArray, List.getElem_cons_zero, List.getElem_cons_succ, List.setIfInBounds_toArray, List.set_cons_zero, List.set_cons_succ]
  refine wpAnyH_ready (rs := [1]) (by kernel_rfl) (by simp) ?_
  refine AllReadyH.cons rfl (fun K hK => ?_) AllReadyH.nil
  (rw [if_pos (by kernel_rfl)]; go_simp; go_at_call 15; refine (HBA _).out.mono ?_; rintro e wc ⟨va, rfl, ya⟩; obtain ⟨ga, ca, rfl, gla, gha⟩ := ya.form (by rw [HL.out.1]; omega); rw [HL.out.1]; have Ya := Lib.hid ya; have BAwc := Lib.hid (Blk.keeps BA0.out (ya.keep (fun _ => False)) (fun z => z)); have BBwc := Lib.hid (Blk.keeps BB0.out (ya.keep (fun _ => False)) (fun z => z)); clear ya gla gha)
  refine hK.out _ _ ⟨Blk.range BAwc.out, Blk.range BBwc.out⟩ (fun hHeld => ?_)
  clear hK K
  try simp only [Act.put, Array.getInternal_eq_getElem, List.getElem_toArray, List.getElem_cons_zero, List.getElem_cons_succ, List.setIfInBounds_toArray, List.set_cons_zero, List.set_cons_succ]
  refine wpAnyH_ready (rs := [3]) (by kernel_rfl) (by simp) ?_
  refine AllReadyH.cons rfl (fun K hK => ?_) AllReadyH.nil
  (rw [if_pos (by kernel_rfl)]; go_simp; go_at_call 15; refine (HBB _).out.mono ?_; rintro e wd ⟨vb, rfl, yb⟩; obtain ⟨gb, cb, rfl, glb, ghb⟩ := yb.form (by rw [HL.out.2]; omega); rw [HL.out.2]; have Yb := Lib.hid yb; have BAwd := Lib.hid (Blk.keeps BAwc.out (yb.keep (fun _ => False)) (fun z => z)); have BBwd := Lib.hid (Blk.keeps BBwc.out (yb.keep (fun _ => False)) (fun z => z)); clear yb glb ghb; have YYa := Lib.hid (Ya.out.grown Yb.out.keep); have YYb := Lib.hid Yb.out; have KE : Hid (∀ S, Keeps S w wd) := Lib.hid (fun S => (((K1.out S).drew).trans (Ya.out.keep S)).trans (Yb.out.keep S)))
  refine hK.out _ _ ⟨Blk.range BAwd.out, Blk.range BBwd.out⟩ (fun hHeld => ?_)
  clear hK K
  try simp only [Act.put, Array.getInternal_eq_getElem, List.getElem_toArray, List.getElem_cons_zero, List.getElem_cons_succ, List.setIfInBounds_toArray, List.set_cons_zero, List.set_cons_succ]
  refine wpAnyH_ready (rs := [4]) (by kernel_rfl) (by simp) ?_
  refine AllReadyH.cons rfl (fun K hK => ?_) AllReadyH.nil
  (rw [if_pos (by kernel_rfl)]; go_simp; go_at_call 33; refine (bytescmp39 _ (kby a) (kby b) ga gb ca cb HSM.out.1 HSM.out.2 HL.out.1 HL.out.2 (by_cells YYa.out) (by_cells YYb.out)).mono ?_; rintro e we ⟨rfl, ke⟩; have KF9 : Hid (∀ S, Keeps S w we) := Lib.hid (fun S => (KE.out S).trans (ke S)); have BAe := Lib.hid (Blk.keeps BAwd.out (ke (fun _ => False)) (fun z => z)); have BBe := Lib.hid (Blk.keeps BBwd.out (ke (fun _ => False)) (fun z => z)); clear ke)
  refine hK.out _ _ ⟨Blk.range BAe.out, Blk.range BBe.out⟩ (fun hHeld => ?_)
  clear hK K
  try simp only [Act.put, Array.getInternal_eq_getElem, List.getElem_toArray, List.getElem_cons_zero, List.getElem_cons_succ, List.setIfInBounds_toArray, List.set_cons_zero, List.set_cons_succ]
  refine wpAnyH_take (i := 5) (v := ?_) rfl (by kernel_rfl) (by kernel_rfl) (by kernel_rfl) (fun _ _ _ h => h) (Or.inl ⟨by kernel_rfl, ?_⟩) (by assumption) ?_
  rotate_left
  · (intro w hSw; (try dsimp only at hSw); go_simp) <;> (try (with_reducible rfl))
  try simp only [Act.put, Array.getInternal_eq_getElem, List.getElem_toArray, List.getElem_cons_zero, List.getElem_cons_succ, List.setIfInBounds_toArray, List.set_cons_zero, List.set_cons_succ]
  refine wpAnyH_done ?_ ?_ _
  · kernel_rfl
  go_wp2
  try rw [Exit.noGoto_ret]
  go_ret
  exact ⟨rfl, KF9.out⟩
theorem pcmp_ (a b : Ky) (ha : a.Wf) (hb : b.Wf) : Calls Try.prog 24 #[kv a, kv b] w fun e w' => e = .returned (.int .i64 (kcmp a b)) ∧ ∀ S, Keeps S w w' := by
  by_cases h : a = b
  · subst h
    rw [kcmp_self]
    exact pcmp_eq w a ha
  · exact pcmp_ne w a b ha hb h
theorem cmp_step {l m : List Nat} {k x y : Nat} (hx : l[k]? = some x) (hy : m[k]? = some y) : cmpB (l.drop k) (m.drop k) = if x < y then -1 else if y < x then 1 else cmpB (l.drop (k + 1)) (m.drop (k + 1)) := by
  have h1 := (List.getElem?_eq_some_iff.1 hx)
  have h2 := (List.getElem?_eq_some_iff.1 hy)
  rw [List.drop_eq_getElem_cons h1.1, List.drop_eq_getElem_cons h2.1, h1.2, h2.2]
  rfl
set_option maxRecDepth 100000 in
set_option maxHeartbeats 4000000 in
theorem rcmp_ (a b : Ky) (ha : a.Wf) (hb : b.Wf) : Calls Try.prog 25 #[kv a, kv b] w fun e w' => e = .returned (.int .i64 (kcmp a b)) ∧ ∀ S, Keeps S w w' := by
  obtain ⟨w1, hw1, k1, ba, bb, s1⟩ := box2 w (kvc a) (kvc b) 31 31
  have HRA := Lib.hid (Blk.range ba)
  have HRB := Lib.hid (Blk.range bb)
  have HSA := Lib.hid (key_sz ha)
  have HSB := Lib.hid (key_sz hb)
  have HW := Lib.hid hw1
  have K1 : Hid (∀ S, Keeps S w w1) := Lib.hid k1
  have HBA := fun w => Lib.hid (rbytes_ w a ha)
  have HBB := fun w => Lib.hid (rbytes_ w b hb)
  have HL := Lib.hid (And.intro (kby_len ha) (kby_len hb))
  have hsa := kby_small ha
  have hsb := kby_small hb
  have BB0 := Lib.hid bb
  obtain ⟨Z, hZ⟩ : ∃ Z, Z = kcmp a b := ⟨_, rfl⟩
  rw [← hZ]
  unfold kcmp at hZ
  unfold kv at HBA HBB ⊢
  clear hw1 k1 ba bb s1 ha hb
  generalize kvc a = CA at *
  generalize kvc b = CB at *
  generalize kby a = la at *
  generalize kby b = lb at *
  have HZ := Lib.hid hZ
  clear hZ
  go_enter Try.func25, Try.ntmps25
  go_wp2_with (first
    | ((try with_reducible rw [← HW.out]); refine wpList_load_mid rfl 31 _ rfl w.heap.size 0 rfl CA _ HRA.out Try.underlying31 rfl HSA.out ?_))
  refine (HBA _).out.mono ?_
  rintro e w2 ⟨v1, rfl, y1⟩
  have HRB2 := Lib.hid (Blk.range (Blk.keeps BB0.out (y1.keep (fun _ => False)) (fun z => z)))
  have Y1 := Lib.hid y1
  clear y1
  go_wp2_with (refine wpList_load_mid rfl 31 _ rfl (w.heap.size + 1) 0 rfl CB _ HRB2.out Try.underlying31 rfl HSB.out ?_)
  refine (HBB _).out.mono ?_
  rintro e w3 ⟨v2, rfl, y2⟩
  obtain ⟨ga, ca, rfl, gla, gha⟩ := Y1.out.form (by rw [HL.out.1]; omega)
  obtain ⟨gb, cb, rfl, glb, ghb⟩ := y2.form (by rw [HL.out.2]; omega)
  rw [HL.out.1, HL.out.2]
  have K3 : Hid (∀ S, Keeps S w w3) := Lib.hid (fun S => ((K1.out S).trans (Y1.out.keep S)).trans (y2.keep S))
  have CA3 := Lib.hid (by_cells (Y1.out.grown y2.keep))
  have CB3 := Lib.hid (by_cells y2)
  clear y2 Y1 gla gha glb ghb HBA HBB HRA HRB HRB2 BB0 HSA HSB HW
  go_wp2_with fail
  go_loopw [7] (fun i wr => ∃ m d : Nat, m ≤ 39 ∧ i = .int .i64 (m : Int) ∧ w3.drewN d = wr ∧ Z = cmpB (la.drop m) (lb.drop m)) (fun i _ => 39 - (intOf i).toNat)
  case atStart => exact ⟨0, 0, by omega, rfl, rfl, by simpa using HZ.out⟩
  case round =>
    obtain ⟨m, d, hm, rfl, rfl, hz⟩ := hrel
    by_cases hlt : m < 39
    · have hx := getq (bs := la) (k := m) (by rw [HL.out.1]; exact hlt)
      have hy := getq (bs := lb) (k := m) (by rw [HL.out.2]; exact hlt)
      have hxc := CA3.out m _ hx
      have hyc := CB3.out m _ hy
      rw [Nat.zero_add] at hxc hyc
      rw [cmp_step hx hy] at hz
      have HZ2 := Lib.hid hz
      clear hz hx hy
      generalize la.getD m 0 = x at *
      generalize lb.getD m 0 = y at *
      have hlt' : (m : Int) < 39 := by omega
      have m0 : (0 : Int) ≤ (m : Int) := by omega
      by_cases h1 : x < y
      · have d1 : (x : Int) < (y : Int) := by omega
        have e : Z = -1 := by rw [HZ2.out, if_pos h1]
        clear HZ2 HZ h1
        subst e
        go_wp2
        go_quiet (fail)
        go_wp2
        try rw [Exit.noGoto_ret]
        try simp only [Exit.inBlock, Exit.then]
        go_ret
        exact ⟨rfl, fun S => ((K3.out S).trans (Keeps.of_drew _ _)).trans (Keeps.of_drew _ _)⟩
      · have d1 : ¬ (x : Int) < (y : Int) := by omega
        by_cases h2 : y < x
        · have d2 : (y : Int) < (x : Int) := by omega
          have e : Z = 1 := by rw [HZ2.out, if_neg h1, if_pos h2]
          clear HZ2 HZ h1 h2
          subst e
          go_wp2
          go_quiet (fail)
          go_wp2
          go_quiet (fail)
          go_wp2
          try rw [Exit.noGoto_ret]
          try simp only [Exit.inBlock, Exit.then]
          go_ret
          exact ⟨rfl, fun S => (((K3.out S).trans (Keeps.of_drew _ _)).trans (Keeps.of_drew _ _)).trans (Keeps.of_drew _ _)⟩
        · have d2 : ¬ (y : Int) < (x : Int) := by omega
          have e := HZ2.out
          rw [if_neg h1, if_neg h2] at e
          have HE := Lib.hid e
          clear e HZ2 HZ h1 h2
          go_wp2
          go_quiet (fail)
          go_wp2
          go_quiet (fail)
          go_wp2
          go_roundw
          case rel => exact ⟨m + 1, _, by omega, by go_num, rfl, HE.out⟩
          case measure => simp [intOf]; omega
    · obtain rfl : m = 39 := by omega
      have e : Z = 0 := by rw [hz, List.drop_of_length_le (by rw [HL.out.1]; omega)]; rfl
      clear hz HZ
      subst e
      go_wp2
      go_ret
      exact ⟨rfl, fun S => (K3.out S).trans (Keeps.of_drew _ _)⟩
end
end Go.Proofs.Ytdnddlmlbnachaa.fw
