/-
  packet.readFour, readSix: the ways that come to a header.
-/
import Derived.Test.YtidengmcbppcoaaPkQ
import Derived.Laws.BitsAllLaws
set_option linter.unusedVariables false
set_option linter.unusedSimpArgs false
namespace Go.Proofs.Ytidengmcbppcoaa.pk
open Go.RowKit Go.Proofs.Ytidengmcbppcoaa.oc Go.Proofs.Ytidengmcbppcoaa.mz Go.Proofs.Ytidengmcbppcoaa.pf Go.Proofs.Ytidengmcbppcoaa.wh Go.Proofs.Ytidengmcbppcoaa.qk Go.Proofs.Ytidengmcbppcoaa.bys
theorem and20 (k : Nat) (h : k < 4294967296) : bits .and .u32 (k : Int) 1048575 = ((k % 1048576 : Nat) : Int) := by
  have e := u32_and_nat k 1048575 h (by omega)
  rw [show (1048575 : Int) = ((1048575 : Nat) : Int) from rfl, e, show (1048575 : Nat) = 2 ^ 20 - 1 from rfl, Nat.and_two_pow_sub_one_eq_mod]
section
variable (w : World)
set_option maxRecDepth 100000 in
set_option maxHeartbeats 1500000 in
theorem rfour_f (g o n c B : Nat) (l : List Nat) (hl : l.length = n) (h0 : 0 < n) (hn : n ≤ 140737488355328) (hc : n ≤ c) (hc9 : c ≤ 9223372036854775807) (hs : Small l) (hr : Rd w B (some ⟨g, o, none⟩) (by_ l)) (hB : B ≤ w.heap.size) (hk : 20 ≤ n) (hb : l.getD 0 0 = 69) (h6 : num2 l 6 = 16384) (he : sizeE n (num2 l 2) 20 = 0) (hx : num2 l 10 = csum (l.take 10 ++ (l.drop 12).take 8)) :
    Calls Try.prog 62 #[.slice (some ⟨g, o, none⟩) n c] w fun e w' => RH w w' e (hd4 l, num2 l 2, 0) := by
  unfold RH
  show Calls _ _ _ _ _
  obtain ⟨w1, hw1, k1, b1, s1⟩ := box1 w zhd 29
  dsimp only [zhd] at hw1
  have hr1 := rd_old hr (k1 (fun _ => False))
  have d1 : ¬ (n : Int) < 20 := by omega
  have c0 := rd_cell hr1 (k := 0) (by omega)
  rw [Nat.add_zero] at c0
  rw [hb] at c0
  have d2 : (((num2 l 6 : Nat) : Int) != 16384) = false := by rw [h6]; rfl
  have c00 := c0
  rw [hw1] at c0
  have hs9 := num2_lt hs 2
  have HN6 : Hid (Calls Try.prog 65 #[.slice (some ⟨g, o, none⟩) n c, .int .i64 6] w1 fun e w' => e = .returned (.int .u16 (num2 l 6 : Nat)) ∧ w1 = w') := Lib.hid (number_ w1 (some ⟨g, o, none⟩) l n c B 6 hl (by omega) hc hc9 hs hr1 (by omega))
  have HN2 : Hid (Calls Try.prog 65 #[.slice (some ⟨g, o, none⟩) n c, .int .i64 2] w1 fun e w' => e = .returned (.int .u16 (num2 l 2 : Nat)) ∧ w1 = w') := Lib.hid (number_ w1 (some ⟨g, o, none⟩) l n c B 2 hl (by omega) hc hc9 hs hr1 (by omega))
  obtain ⟨wL, hwL⟩ : ∃ wL, wL = (w1.alloc (.cells (#[.slice (some ⟨g, o, none⟩) 10 c, .slice (some ⟨g, o + 12, none⟩) 8 (c - 12)] : Array Value) 27)).drew := ⟨_, rfl⟩
  have kL : ∀ S, Keeps S w1 wL := fun S => by rw [hwL]; exact ((Keeps.refl S w1).alloc _).drew
  have bL : Blk wL w1.heap.size 27 [.slice (some ⟨g, o, none⟩) 10 c, .slice (some ⟨g, o + 12, none⟩) 8 (c - 12)] := by rw [hwL]; exact Blk.new w1 27 _
  have hrL := rd_old hr1 (kL (fun _ => False))
  have sL : w1.heap.size < wL.heap.size := bL.lt
  have hpt : Pt wL wL.heap.size (some ⟨w1.heap.size, 0, none⟩) [l.take 10, (l.drop 12).take 8] := by
    refine pt_row (t := 27) bL sL ?_
    intro k x hk
    rcases k with _ | _ | k
    · simp only [List.getElem?_cons_zero, Option.some.injEq] at hk
      subst hk
      refine ⟨some ⟨g, o, none⟩, c, ?_, (rd_take hrL 10).more (by omega)⟩
      rw [List.length_take, Nat.min_eq_left (by omega)]; rfl
    · simp only [List.getElem?_cons_succ, List.getElem?_cons_zero, Option.some.injEq] at hk
      subst hk
      refine ⟨some ⟨g, o + 12, none⟩, c - 12, ?_, (rd_part hrL 12 8).more (by omega)⟩
      rw [List.length_take, List.length_drop, Nat.min_eq_left (by omega)]; rfl
    · simp at hk
  have hsm : ∀ x, x ∈ ([l.take 10, (l.drop 12).take 8] : List (List Nat)) → Small x := fun x hx => by
    simp only [List.mem_cons, List.not_mem_nil, or_false] at hx
    rcases hx with rfl | rfl
    · exact hs.take _
    · exact (hs.drop _).take _
  have hsum := sum_any (some ⟨w1.heap.size, 0, none⟩) [l.take 10, (l.drop 12).take 8] 2 2 _ wL rfl (by omega) (by simp; omega) hsm hpt
  rw [show ([l.take 10, (l.drop 12).take 8] : List (List Nat)).flatten = l.take 10 ++ (l.drop 12).take 8 from by simp] at hsum
  have HSU := Lib.hid hsum
  have HWL := Lib.hid hwL
  have HKL := Lib.hid kL
  have q1 : ∀ u, (Instr.slice 27 (.slice (some ⟨g, o, none⟩) n c) none (some (.int .i64 10)) none).run Try.prog u = .ok (.slice (some ⟨g, o, none⟩) 10 c) u := fun u => cut_h (some ⟨g, o, none⟩) n c 10 (by omega) u
  have q2 : ∀ u, (Instr.slice 27 (.slice (some ⟨g, o, none⟩) n c) (some (.int .i64 12)) (some (.int .i64 20)) none).run Try.prog u = .ok (.slice (some ⟨g, o + 12, none⟩) 8 (c - 12)) u := fun u => by
    have := cut_lh (some ⟨g, o, none⟩) n c 12 20 (by omega) (by omega) u
    rw [cutA_some _ _ _ _ (by omega)] at this; exact this
  clear bL hrL sL hpt hsm hsum
  have HNA : Hid (Calls Try.prog 65 #[.slice (some ⟨g, o, none⟩) n c, .int .i64 10] w1.drew fun e w' => e = .returned (.int .u16 (num2 l 10 : Nat)) ∧ w1.drew = w') := Lib.hid (number_ w1.drew (some ⟨g, o, none⟩) l n c B 10 hl (by omega) hc hc9 hs (rd_old hr1 ((Keeps.refl _ w1).drew)) (by omega))
  have HNB : Hid (Calls Try.prog 65 #[.slice (some ⟨g, o, none⟩) n c, .int .i64 10] wL fun e w' => e = .returned (.int .u16 (num2 l 10 : Nat)) ∧ wL = w') := Lib.hid (number_ wL (some ⟨g, o, none⟩) l n c B 10 hl (by omega) hc hc9 hs (rd_old hr1 (kL _)) (by omega))
  have b1L := Blk.keeps b1 (kL (fun _ => False)) (fun z => z)
  have i9 : (9 : Int) < (n : Int) := by omega
  have i8 : (8 : Int) < (n : Int) := by omega
  have i1 : (1 : Int) < (n : Int) := by omega
  have hrL := rd_old hr1 (kL (fun _ => False))
  have gB := rd_blk hr (by omega)
  have HCL : Hid (∀ wq, Keeps (fun _ => False) wL wq → wq.cell? ⟨g, o + 9, none⟩ = some (.int .u8 ((l.getD 9 0 : Nat) : Int)) ∧ wq.cell? ⟨g, o + 8, none⟩ = some (.int .u8 ((l.getD 8 0 : Nat) : Int)) ∧ wq.cell? ⟨g, o + 1, none⟩ = some (.int .u8 ((l.getD 1 0 : Nat) : Int))) := Lib.hid (fun wq kq => ⟨rd_cell (rd_old hrL kq) (by omega), rd_cell (rd_old hrL kq) (by omega), rd_cell (rd_old hrL kq) (by omega)⟩)
  have HA1 : Hid (∀ u, Keeps (fun _ => False) wL u → Calls Try.prog 75 #[.slice (some ⟨g, o + 12, none⟩) 4 (c - 12)] u fun e w' => e = .returned (av (ad4 ((l.drop 12).take 4))) ∧ ∀ S, Keeps S u w') := Lib.hid (fun u hu => paddr4_ u g (o + 12) (c - 12) _ (by simp; omega) ((hs.drop _).take _) (rd_range (rd_old hrL hu) 12 4) (by have := hu.size; have := (kL (fun _ => False)).size; omega))
  have HA2 : Hid (∀ u, Keeps (fun _ => False) wL u → Calls Try.prog 75 #[.slice (some ⟨g, o + 16, none⟩) 4 (c - 16)] u fun e w' => e = .returned (av (ad4 ((l.drop 16).take 4))) ∧ ∀ S, Keeps S u w') := Lib.hid (fun u hu => paddr4_ u g (o + 16) (c - 16) _ (by simp; omega) ((hs.drop _).take _) (rd_range (rd_old hrL hu) 16 4) (by have := hu.size; have := (kL (fun _ => False)).size; omega))
  have HN4 : Hid (∀ u, Keeps (fun _ => False) wL u → Calls Try.prog 65 #[.slice (some ⟨g, o, none⟩) n c, .int .i64 4] u fun e w' => e = .returned (.int .u16 (num2 l 4 : Nat)) ∧ u = w') := Lib.hid (fun u hu => number_ u (some ⟨g, o, none⟩) l n c B 4 hl (by omega) hc hc9 hs (rd_old hrL hu) (by omega))
  have h49 := num2_lt hs 4
  have q3 : ∀ u, (Instr.slice 27 (.slice (some ⟨g, o, none⟩) n c) (some (.int .i64 12)) (some (.int .i64 16)) none).run Try.prog u = .ok (.slice (some ⟨g, o + 12, none⟩) 4 (c - 12)) u := fun u => by
    have := cut_lh (some ⟨g, o, none⟩) n c 12 16 (by omega) (by omega) u
    rw [cutA_some _ _ _ _ (by omega)] at this; exact this
  have q4 : ∀ u, (Instr.slice 27 (.slice (some ⟨g, o, none⟩) n c) (some (.int .i64 16)) (some (.int .i64 20)) none).run Try.prog u = .ok (.slice (some ⟨g, o + 16, none⟩) 4 (c - 16)) u := fun u => by
    have := cut_lh (some ⟨g, o, none⟩) n c 16 20 (by omega) (by omega) u
    rw [cutA_some _ _ _ _ (by omega)] at this; exact this
  have hwf : (hd4 l).Wf := hd4_wf hs (by omega)
  have HBI : Hid (Try.prog.built 29 [(0, av (ad4 ((l.drop 12).take 4))), (1, av (ad4 ((l.drop 16).take 4))), (2, .int .u8 ((l.getD 9 0 : Nat) : Int)), (5, .int .u8 ((l.getD 8 0 : Nat) : Int)), (6, .int .u8 ((l.getD 1 0 : Nat) : Int)), (7, .int .u32 ((num2 l 4 : Nat) : Int))] = some (hcs (hd4 l) nul).toArray) := Lib.hid (hfr_built hwf.s hwf.d _ _ _ _)
  have HFZ : Hid ((Try.prog.info? 29).map (·.size) = some (hcs (hd4 l) nul).length) := Lib.hid (hd_sz hwf nul)
  have HFO := Lib.hid (all_oneCell_toArray (hcs_one (h := hd4 l) (v := nul) rfl))
  have HST : Hid (∀ u, Keeps (fun _ => False) wL u → u.there w.heap.size 0 (hcs (hd4 l) nul).toArray.size ∧ Blk (u.setCells w.heap.size 0 (hcs (hd4 l) nul)) w.heap.size 29 (hcs (hd4 l) nul) ∧ Keeps (· = w.heap.size) u (u.setCells w.heap.size 0 (hcs (hd4 l) nul))) := Lib.hid (fun u hu => p_store (Blk.keeps b1L hu (fun z => z)) (by rw [hcs_len hwf]; rfl))
  have HCS : Hid (∀ u, Keeps (fun _ => False) wL u → (u.setCells w.heap.size 0 (hcs (hd4 l) nul)).cell? ⟨g, o + 9, none⟩ = some (.int .u8 ((l.getD 9 0 : Nat) : Int)) ∧ (u.setCells w.heap.size 0 (hcs (hd4 l) nul)).cell? ⟨g, o + 8, none⟩ = some (.int .u8 ((l.getD 8 0 : Nat) : Int)) ∧ (u.setCells w.heap.size 0 (hcs (hd4 l) nul)).cell? ⟨g, o + 1, none⟩ = some (.int .u8 ((l.getD 1 0 : Nat) : Int))) := Lib.hid (fun u hu => by
    have kz := (HST.out u hu).2.2
    have hh := HCL.out u hu
    have ne : ¬ g = w.heap.size := by omega
    exact ⟨Keeps.cell kz hh.1 ne, Keeps.cell kz hh.2.1 ne, Keeps.cell kz hh.2.2 ne⟩)
  have KW : Hid (∀ S, Keeps S w wL) := Lib.hid (fun S => (k1 S).trans (kL S))
  have d9 : (((num2 l 10 : Nat) : Int) != ((csum (l.take 10 ++ (l.drop 12).take 8) : Nat) : Int)) = false := by rw [hx]; exact bne_self_eq_false _
  unfold hvv
  clear b1L hrL hx hwf gB
  generalize hcs (hd4 l) nul = C at *
  generalize num2 l 4 = b4 at *
  have e4 : IntKind.u32.wrap (b4 : Int) = (b4 : Int) := by rw [IntKind.wrap_u32]; omega
  generalize l.getD 9 0 = x9 at *
  generalize l.getD 8 0 = x8 at *
  generalize l.getD 1 0 = x1 at *
  generalize av (ad4 ((l.drop 12).take 4)) = AA at *
  generalize av (ad4 ((l.drop 16).take 4)) = AB at *
  obtain ⟨s, hse⟩ : ∃ s, s = num2 l 2 := ⟨_, rfl⟩
  rw [← hse] at hs9 he HN2
  try rw [← hse]
  have HCK : Hid (Calls Try.prog 74 #[.slice (some ⟨g, o, none⟩) n c, .int .i64 (s : Int), .int .i64 20] w1 fun e w' => e = .returned (.int .i64 (sizeE n s 20)) ∧ w' = w1) := Lib.hid (checksize_ w1 (some ⟨g, o, none⟩) n c s 20 (by omega) (by omega) (by omega))
  rw [he] at HCK
  have e1 : IntKind.i64.wrap (s : Int) = (s : Int) := wi64 (by omega) (by omega)
  have HZI := Lib.hid zhd_info
  have HZB := Lib.hid zhd_built
  have HZO := Lib.hid (all_oneCell_toArray zhd_one)
  have HW := Lib.hid hw1
  have K1 := Lib.hid k1
  clear hwL kL c00
  clear hw1 k1 b1 s1 hr1 hl hs hr hB hc hc9
  generalize num2 l 6 = b6 at *
  generalize num2 l 10 = b10 at *
  generalize csum (l.take 10 ++ (l.drop 12).take 8) = cs at *
  clear hb h6 he hse
  go_enter Try.func62, Try.ntmps62
  go_wp2_with (first | ((with_reducible show Calls _ _ #[_, .int .i64 2] _ _); (try rw [← HW.out]); refine HN2.out.mono ?_; rintro e w9 ⟨rfl, h9⟩; subst w9) | ((with_reducible show Calls _ _ #[_, _, _] _ _); (try rw [← HW.out]); refine HCK.out.mono ?_; rintro e w9 ⟨rfl, h9⟩; subst w9) | ((with_reducible show Calls _ _ #[_, .int .i64 6] _ _); (try rw [← HW.out]); refine HN6.out.mono ?_; rintro e w9 ⟨rfl, h9⟩; subst w9))
  --@r9
  try rw [← HW.out]
  refine wp_region_held_drew (S := fun _ => True) (by kernel_rfl) trivial (fun hHeld => ?_)
  refine wpAnyH_take (i := 0) (v := ?_) rfl (by kernel_rfl) (by kernel_rfl) (by kernel_rfl) (fun _ _ _ h => h) (Or.inl ⟨by kernel_rfl, ?_⟩) (by assumption) ?_
  rotate_left
  · (intro w hSw; (try dsimp only at hSw); go_simp) <;> (try (with_reducible rfl))
  try simp only [Act.put, Array.getInternal_eq_getElem, List.getElem_toArray, List.getElem_cons_zero, List.getElem_cons_succ, List.setIfInBounds_toArray, List.set_cons_zero, List.set_cons_succ]
  refine wpAnyH_take (i := 2) (v := ?_) rfl (by kernel_rfl) (by kernel_rfl) (by kernel_rfl) (fun _ _ _ h => h) (Or.inl ⟨by kernel_rfl, ?_⟩) (by assumption) ?_
  rotate_left
  · (intro w hSw; (try dsimp only at hSw); go_simp) <;> (try (with_reducible rfl))
  try simp only [Act.put, Array.getInternal_eq_getElem, List.getElem_toArray, List.getElem_cons_zero, List.getElem_cons_succ, List.setIfInBounds_toArray, List.set_cons_zero, List.set_cons_succ]
  refine wpAnyH_take (i := 3) (v := ?_) rfl (by kernel_rfl) (by kernel_rfl) (by kernel_rfl) (fun _ _ _ h => h) (Or.inl ⟨by kernel_rfl, ?_⟩) (by assumption) ?_
  rotate_left
  · (intro w hSw; (try dsimp only at hSw); go_simp) <;> (try (with_reducible rfl))
  try simp only [Act.put, Array.getInternal_eq_getElem, List.getElem_toArray, List.getElem_cons_zero, List.getElem_cons_succ, List.setIfInBounds_toArray, List.set_cons_zero, List.set_cons_succ]
  refine wpAnyH_take (i := 4) (v := ?_) rfl (by kernel_rfl) (by kernel_rfl) (by kernel_rfl) (fun _ _ _ h => h) (Or.inl ⟨by kernel_rfl, ?_⟩) (by assumption) ?_
  rotate_left
  · (intro w hSw; (try dsimp only at hSw); go_simp) <;> (try (with_reducible rfl))
  try simp only [Act.put, Array.getInternal_eq_getElem, List.getElem_toArray, List.getElem_cons_zero, List.getElem_cons_succ, List.setIfInBounds_toArray, List.set_cons_zero, List.set_cons_succ]
  refine wpAnyH_take (i := 5) (v := ?_) rfl (by kernel_rfl) (by kernel_rfl) (by kernel_rfl) (fun _ _ _ h => h) (Or.inl ⟨by kernel_rfl, ?_⟩) (by assumption) ?_
  rotate_left
  · (intro w hSw; (try dsimp only at hSw); go_simp) <;> (try (with_reducible rfl))
  try simp only [Act.put, Array.getInternal_eq_getElem, List.getElem_toArray, List.getElem_cons_zero, List.getElem_cons_succ, List.setIfInBounds_toArray, List.set_cons_zero, List.set_cons_succ]
  refine wpAnyH_ready (rs := [1, 6]) (by kernel_rfl) (by simp) ?_
  refine AllReadyH.cons rfl (fun K hK => ?_) (AllReadyH.cons rfl (fun K hK => ?_) AllReadyH.nil)
  · (rw [if_pos (by kernel_rfl)]; go_simp; go_at_call 65; refine HNA.out.mono ?_; rintro e wx ⟨rfl, rfl⟩)
    refine hK.out _ _ trivial (fun hHeld => ?_)
    clear hK K
    try simp only [Act.put, Array.getInternal_eq_getElem, List.getElem_toArray, List.getElem_cons_zero, List.getElem_cons_succ, List.setIfInBounds_toArray, List.set_cons_zero, List.set_cons_succ]
    refine wpAnyH_ready (rs := [6]) (by kernel_rfl) (by simp) ?_
    refine AllReadyH.cons rfl (fun K hK => ?_) AllReadyH.nil
    (rw [if_pos (by kernel_rfl)]; go_simp; rw [← HWL.out])
    refine hK.out _ _ trivial (fun hHeld => ?_)
    clear hK K
    try simp only [Act.put, Array.getInternal_eq_getElem, List.getElem_toArray, List.getElem_cons_zero, List.getElem_cons_succ, List.setIfInBounds_toArray, List.set_cons_zero, List.set_cons_succ]
    refine wpAnyH_ready (rs := [7]) (by kernel_rfl) (by simp) ?_
    refine AllReadyH.cons rfl (fun K hK => ?_) AllReadyH.nil
    (rw [if_pos (by kernel_rfl)]; go_simp; go_at_call 55; refine HSU.out.mono ?_; rintro e wx ⟨rfl, rfl⟩)
    refine hK.out _ _ trivial (fun hHeld => ?_)
    clear hK K
    try simp only [Act.put, Array.getInternal_eq_getElem, List.getElem_toArray, List.getElem_cons_zero, List.getElem_cons_succ, List.setIfInBounds_toArray, List.set_cons_zero, List.set_cons_succ]
    refine wpAnyH_take (i := 8) (v := ?_) rfl (by kernel_rfl) (by kernel_rfl) (by kernel_rfl) (fun _ _ _ h => h) (Or.inl ⟨by kernel_rfl, ?_⟩) (by assumption) ?_
    rotate_left
    · (intro w hSw; (try dsimp only at hSw); go_simp) <;> (try (with_reducible rfl))
    try simp only [Act.put, Array.getInternal_eq_getElem, List.getElem_toArray, List.getElem_cons_zero, List.getElem_cons_succ, List.setIfInBounds_toArray, List.set_cons_zero, List.set_cons_succ]
    refine wpAnyH_done ?_ ?_ _
    · kernel_rfl
    go_wp2_with fail
    --@r11
    refine wp_region_held_drew (S := fun w' => w'.cell? ⟨g, o + 9, none⟩ = some (.int .u8 (x9 : Int)) ∧ w'.cell? ⟨g, o + 8, none⟩ = some (.int .u8 (x8 : Int)) ∧ w'.cell? ⟨g, o + 1, none⟩ = some (.int .u8 (x1 : Int))) (by kernel_rfl) (HCL.out _ ((Keeps.refl _ wL).drew)) (fun hHeld => ?_)
    refine wpAnyH_take (i := 0) (v := ?_) rfl (by kernel_rfl) (by kernel_rfl) (by kernel_rfl) (fun _ _ _ h => h) (Or.inl ⟨by kernel_rfl, ?_⟩) (by assumption) ?_
    rotate_left
    · (intro w hSw; (try dsimp only at hSw); go_simp) <;> (try (with_reducible rfl))
    try simp only [Act.put, Array.getInternal_eq_getElem, List.getElem_toArray, List.getElem_cons_zero, List.getElem_cons_succ, List.setIfInBounds_toArray, List.set_cons_zero, List.set_cons_succ]
    refine wpAnyH_take (i := 1) (v := ?_) rfl (by kernel_rfl) (by kernel_rfl) (by kernel_rfl) (fun _ _ _ h => h) (Or.inl ⟨by kernel_rfl, ?_⟩) (by assumption) ?_
    rotate_left
    · (intro w hSw; (try dsimp only at hSw); go_simp) <;> (try (with_reducible rfl))
    try simp only [Act.put, Array.getInternal_eq_getElem, List.getElem_toArray, List.getElem_cons_zero, List.getElem_cons_succ, List.setIfInBounds_toArray, List.set_cons_zero, List.set_cons_succ]
    refine wpAnyH_take (i := 3) (v := ?_) rfl (by kernel_rfl) (by kernel_rfl) (by kernel_rfl) (fun _ _ _ h => h) (Or.inl ⟨by kernel_rfl, ?_⟩) (by assumption) ?_
    rotate_left
    · (intro w hSw; (try dsimp only at hSw); go_simp) <;> (try (with_reducible rfl))
    try simp only [Act.put, Array.getInternal_eq_getElem, List.getElem_toArray, List.getElem_cons_zero, List.getElem_cons_succ, List.setIfInBounds_toArray, List.set_cons_zero, List.set_cons_succ]
    refine wpAnyH_take (i := 4) (v := ?_) rfl (by kernel_rfl) (by kernel_rfl) (by kernel_rfl) (fun _ _ _ h => h) (Or.inl ⟨by kernel_rfl, ?_⟩) (by assumption) ?_
    rotate_left
    · (intro w hSw; (try dsimp only at hSw); go_simp) <;> (try (with_reducible rfl))
    try simp only [Act.put, Array.getInternal_eq_getElem, List.getElem_toArray, List.getElem_cons_zero, List.getElem_cons_succ, List.setIfInBounds_toArray, List.set_cons_zero, List.set_cons_succ]
    refine wpAnyH_take (i := 6) (v := ?_) rfl (by kernel_rfl) (by kernel_rfl) (by kernel_rfl) (fun _ _ _ h => h) (Or.inl ⟨by kernel_rfl, ?_⟩) (by assumption) ?_
    rotate_left
    · (intro w hSw; (try dsimp only at hSw); go_simp) <;> (try (with_reducible rfl))
    try simp only [Act.put, Array.getInternal_eq_getElem, List.getElem_toArray, List.getElem_cons_zero, List.getElem_cons_succ, List.setIfInBounds_toArray, List.set_cons_zero, List.set_cons_succ]
    refine wpAnyH_take (i := 7) (v := ?_) rfl (by kernel_rfl) (by kernel_rfl) (by kernel_rfl) (fun _ _ _ h => h) (Or.inl ⟨by kernel_rfl, ?_⟩) (by assumption) ?_
    rotate_left
    · (intro w hSw; (try dsimp only at hSw); go_simp) <;> (try (with_reducible rfl))
    try simp only [Act.put, Array.getInternal_eq_getElem, List.getElem_toArray, List.getElem_cons_zero, List.getElem_cons_succ, List.setIfInBounds_toArray, List.set_cons_zero, List.set_cons_succ]
    refine wpAnyH_take (i := 8) (v := ?_) rfl (by kernel_rfl) (by kernel_rfl) (by kernel_rfl) (fun _ _ _ h => h) (Or.inl ⟨by kernel_rfl, ?_⟩) (by assumption) ?_
    rotate_left
    · (intro w hSw; have hcell := hSw.1; go_simp) <;> (try (with_reducible rfl))
    try simp only [Act.put, Array.getInternal_eq_getElem, List.getElem_toArray, List.getElem_cons_zero, List.getElem_cons_succ, List.setIfInBounds_toArray, List.set_cons_zero, List.set_cons_succ]
    refine wpAnyH_take (i := 9) (v := ?_) rfl (by kernel_rfl) (by kernel_rfl) (by kernel_rfl) (fun _ _ _ h => h) (Or.inl ⟨by kernel_rfl, ?_⟩) (by assumption) ?_
    rotate_left
    · (intro w hSw; (try dsimp only at hSw); go_simp) <;> (try (with_reducible rfl))
    try simp only [Act.put, Array.getInternal_eq_getElem, List.getElem_toArray, List.getElem_cons_zero, List.getElem_cons_succ, List.setIfInBounds_toArray, List.set_cons_zero, List.set_cons_succ]
    refine wpAnyH_take (i := 10) (v := ?_) rfl (by kernel_rfl) (by kernel_rfl) (by kernel_rfl) (fun _ _ _ h => h) (Or.inl ⟨by kernel_rfl, ?_⟩) (by assumption) ?_
    rotate_left
    · (intro w hSw; (try dsimp only at hSw); go_simp) <;> (try (with_reducible rfl))
    try simp only [Act.put, Array.getInternal_eq_getElem, List.getElem_toArray, List.getElem_cons_zero, List.getElem_cons_succ, List.setIfInBounds_toArray, List.set_cons_zero, List.set_cons_succ]
    refine wpAnyH_take (i := 11) (v := ?_) rfl (by kernel_rfl) (by kernel_rfl) (by kernel_rfl) (fun _ _ _ h => h) (Or.inl ⟨by kernel_rfl, ?_⟩) (by assumption) ?_
    rotate_left
    · (intro w hSw; have hcell := hSw.2.1; go_simp) <;> (try (with_reducible rfl))
    try simp only [Act.put, Array.getInternal_eq_getElem, List.getElem_toArray, List.getElem_cons_zero, List.getElem_cons_succ, List.setIfInBounds_toArray, List.set_cons_zero, List.set_cons_succ]
    refine wpAnyH_take (i := 12) (v := ?_) rfl (by kernel_rfl) (by kernel_rfl) (by kernel_rfl) (fun _ _ _ h => h) (Or.inl ⟨by kernel_rfl, ?_⟩) (by assumption) ?_
    rotate_left
    · (intro w hSw; (try dsimp only at hSw); go_simp) <;> (try (with_reducible rfl))
    try simp only [Act.put, Array.getInternal_eq_getElem, List.getElem_toArray, List.getElem_cons_zero, List.getElem_cons_succ, List.setIfInBounds_toArray, List.set_cons_zero, List.set_cons_succ]
    refine wpAnyH_take (i := 13) (v := ?_) rfl (by kernel_rfl) (by kernel_rfl) (by kernel_rfl) (fun _ _ _ h => h) (Or.inl ⟨by kernel_rfl, ?_⟩) (by assumption) ?_
    rotate_left
    · (intro w hSw; (try dsimp only at hSw); go_simp) <;> (try (with_reducible rfl))
    try simp only [Act.put, Array.getInternal_eq_getElem, List.getElem_toArray, List.getElem_cons_zero, List.getElem_cons_succ, List.setIfInBounds_toArray, List.set_cons_zero, List.set_cons_succ]
    refine wpAnyH_take (i := 14) (v := ?_) rfl (by kernel_rfl) (by kernel_rfl) (by kernel_rfl) (fun _ _ _ h => h) (Or.inl ⟨by kernel_rfl, ?_⟩) (by assumption) ?_
    rotate_left
    · (intro w hSw; have hcell := hSw.2.2; go_simp) <;> (try (with_reducible rfl))
    try simp only [Act.put, Array.getInternal_eq_getElem, List.getElem_toArray, List.getElem_cons_zero, List.getElem_cons_succ, List.setIfInBounds_toArray, List.set_cons_zero, List.set_cons_succ]
    refine wpAnyH_take (i := 15) (v := ?_) rfl (by kernel_rfl) (by kernel_rfl) (by kernel_rfl) (fun _ _ _ h => h) (Or.inl ⟨by kernel_rfl, ?_⟩) (by assumption) ?_
    rotate_left
    · (intro w hSw; (try dsimp only at hSw); go_simp) <;> (try (with_reducible rfl))
    try simp only [Act.put, Array.getInternal_eq_getElem, List.getElem_toArray, List.getElem_cons_zero, List.getElem_cons_succ, List.setIfInBounds_toArray, List.set_cons_zero, List.set_cons_succ]
    refine wpAnyH_take (i := 19) (v := ?_) rfl (by kernel_rfl) (by kernel_rfl) (by kernel_rfl) (fun _ _ _ h => h) (Or.inl ⟨by kernel_rfl, ?_⟩) (by assumption) ?_
    rotate_left
    · (intro w hSw; (try dsimp only at hSw); go_simp) <;> (try (with_reducible rfl))
    try simp only [Act.put, Array.getInternal_eq_getElem, List.getElem_toArray, List.getElem_cons_zero, List.getElem_cons_succ, List.setIfInBounds_toArray, List.set_cons_zero, List.set_cons_succ]
    refine wpAnyH_ready (rs := [2]) (by kernel_rfl) (by simp) ?_
    refine AllReadyH.cons rfl (fun K hK => ?_) AllReadyH.nil
    (rw [if_pos (by kernel_rfl)]; go_simp; go_at_call 75; refine (HA1.out _ ((Keeps.refl _ wL).drew)).mono ?_; rintro e wa ⟨rfl, ka⟩; have KA := Lib.hid (((Keeps.refl (fun _ => False) wL).drew).trans (ka _)); clear ka)
    refine hK.out _ _ (HCL.out _ KA.out) (fun hHeld => ?_)
    clear hK K
    try simp only [Act.put, Array.getInternal_eq_getElem, List.getElem_toArray, List.getElem_cons_zero, List.getElem_cons_succ, List.setIfInBounds_toArray, List.set_cons_zero, List.set_cons_succ]
    refine wpAnyH_ready (rs := [5]) (by kernel_rfl) (by simp) ?_
    refine AllReadyH.cons rfl (fun K hK => ?_) AllReadyH.nil
    (rw [if_pos (by kernel_rfl)]; go_simp; go_at_call 75; refine (HA2.out _ KA.out).mono ?_; rintro e wb ⟨rfl, kb⟩; have KB := Lib.hid (KA.out.trans (kb _)); clear kb)
    refine hK.out _ _ (HCL.out _ KB.out) (fun hHeld => ?_)
    clear hK K
    try simp only [Act.put, Array.getInternal_eq_getElem, List.getElem_toArray, List.getElem_cons_zero, List.getElem_cons_succ, List.setIfInBounds_toArray, List.set_cons_zero, List.set_cons_succ]
    refine wpAnyH_ready (rs := [16]) (by kernel_rfl) (by simp) ?_
    refine AllReadyH.cons rfl (fun K hK => ?_) AllReadyH.nil
    (rw [if_pos (by kernel_rfl)]; go_simp; go_at_call 65; refine (HN4.out _ KB.out).mono ?_; rintro e wx ⟨rfl, rfl⟩; skip)
    refine hK.out _ _ (HCL.out _ KB.out) (fun hHeld => ?_)
    clear hK K
    try simp only [Act.put, Array.getInternal_eq_getElem, List.getElem_toArray, List.getElem_cons_zero, List.getElem_cons_succ, List.setIfInBounds_toArray, List.set_cons_zero, List.set_cons_succ]
    refine wpAnyH_take (i := 17) (v := ?_) rfl (by kernel_rfl) (by kernel_rfl) (by kernel_rfl) (fun _ _ _ h => h) (Or.inl ⟨by kernel_rfl, ?_⟩) (by assumption) ?_
    rotate_left
    · (intro w hSw; (try dsimp only at hSw); go_simp) <;> (try (with_reducible rfl))
    try simp only [Act.put, Array.getInternal_eq_getElem, List.getElem_toArray, List.getElem_cons_zero, List.getElem_cons_succ, List.setIfInBounds_toArray, List.set_cons_zero, List.set_cons_succ]
    refine wpAnyH_take (i := 18) (v := _) rfl (by kernel_rfl) (by kernel_rfl) (by kernel_rfl) (fun _ _ _ h => h) (Or.inl ⟨by kernel_rfl, fun wq hSw => by_build wq 29 _ rfl [(0, AA), (1, AB), (2, .int .u8 (x9 : Int)), (5, .int .u8 (x8 : Int)), (6, .int .u8 (x1 : Int)), (7, .int .u32 (b4 : Int))] rfl HBI.out⟩) (by assumption) ?_
    try simp only [Act.put, Array.getInternal_eq_getElem, List.getElem_toArray, List.getElem_cons_zero, List.getElem_cons_succ, List.setIfInBounds_toArray, List.set_cons_zero, List.set_cons_succ]
    refine wpAnyH_ready (rs := [20]) (by kernel_rfl) (by simp) ?_
    refine AllReadyH.cons rfl (fun K hK => ?_) AllReadyH.nil
    (rw [if_pos (by kernel_rfl)]; simp only [Array.getInternal_eq_getElem, List.getElem_toArray, List.getElem_cons_zero, List.getElem_cons_succ]; refine wp_store_mid 29 _ _ rfl w.heap.size 0 C.toArray rfl rfl (HST.out _ KB.out).1 HFZ.out HFO.out ?_)
    refine hK.out _ _ (HCS.out _ KB.out) (fun hHeld => ?_)
    clear hK K
    try simp only [Act.put, Array.getInternal_eq_getElem, List.getElem_toArray, List.getElem_cons_zero, List.getElem_cons_succ, List.setIfInBounds_toArray, List.set_cons_zero, List.set_cons_succ]
    refine wpAnyH_take (i := 21) (v := ?_) rfl (by kernel_rfl) (by kernel_rfl) (by kernel_rfl) (fun _ _ _ h => h) (Or.inl ⟨by kernel_rfl, ?_⟩) (by assumption) ?_
    rotate_left
    · (intro w hSw; (try dsimp only at hSw); go_simp) <;> (try (with_reducible rfl))
    try simp only [Act.put, Array.getInternal_eq_getElem, List.getElem_toArray, List.getElem_cons_zero, List.getElem_cons_succ, List.setIfInBounds_toArray, List.set_cons_zero, List.set_cons_succ]
    refine wpAnyH_take (i := 22) (v := ?_) rfl (by kernel_rfl) (by kernel_rfl) (by kernel_rfl) (fun _ _ _ h => h) (Or.inl ⟨by kernel_rfl, ?_⟩) (by assumption) ?_
    rotate_left
    · (intro w hSw; (try dsimp only at hSw); go_simp) <;> (try (with_reducible rfl))
    try simp only [Act.put, Array.getInternal_eq_getElem, List.getElem_toArray, List.getElem_cons_zero, List.getElem_cons_succ, List.setIfInBounds_toArray, List.set_cons_zero, List.set_cons_succ]
    refine wpAnyH_done ?_ ?_ _
    · kernel_rfl
    go_wp2_with fail
    try rw [Exit.noGoto_ret]
    refine bodyPost_ret (ret_cell2 (p := 2) (u := 3) (v := 4) (ty := 29) (by kernel_rfl) _ _ _ w.heap.size _ _ _ (by rfl) (HST.out _ KB.out).2.1 Try.underlying29 rfl HFZ.out) rfl ?_
    refine ⟨rfl, fun S => ?_⟩
    exact keeps_own (fun S => (KW.out S).trans (KB.out.mono (fun _ _ z => z.elim))) (HST.out _ KB.out).2.2 (Nat.le_refl _) S
  · (rw [if_pos (by kernel_rfl)]; go_simp; rw [← HWL.out])
    refine hK.out _ _ trivial (fun hHeld => ?_)
    clear hK K
    try simp only [Act.put, Array.getInternal_eq_getElem, List.getElem_toArray, List.getElem_cons_zero, List.getElem_cons_succ, List.setIfInBounds_toArray, List.set_cons_zero, List.set_cons_succ]
    refine wpAnyH_ready (rs := [1]) (by kernel_rfl) (by simp) ?_
    refine AllReadyH.cons rfl (fun K hK => ?_) AllReadyH.nil
    (rw [if_pos (by kernel_rfl)]; go_simp; go_at_call 65; refine HNB.out.mono ?_; rintro e wx ⟨rfl, rfl⟩)
    refine hK.out _ _ trivial (fun hHeld => ?_)
    clear hK K
    try simp only [Act.put, Array.getInternal_eq_getElem, List.getElem_toArray, List.getElem_cons_zero, List.getElem_cons_succ, List.setIfInBounds_toArray, List.set_cons_zero, List.set_cons_succ]
    refine wpAnyH_ready (rs := [7]) (by kernel_rfl) (by simp) ?_
    refine AllReadyH.cons rfl (fun K hK => ?_) AllReadyH.nil
    (rw [if_pos (by kernel_rfl)]; go_simp; go_at_call 55; refine HSU.out.mono ?_; rintro e wx ⟨rfl, rfl⟩)
    refine hK.out _ _ trivial (fun hHeld => ?_)
    clear hK K
    try simp only [Act.put, Array.getInternal_eq_getElem, List.getElem_toArray, List.getElem_cons_zero, List.getElem_cons_succ, List.setIfInBounds_toArray, List.set_cons_zero, List.set_cons_succ]
    refine wpAnyH_take (i := 8) (v := ?_) rfl (by kernel_rfl) (by kernel_rfl) (by kernel_rfl) (fun _ _ _ h => h) (Or.inl ⟨by kernel_rfl, ?_⟩) (by assumption) ?_
    rotate_left
    · (intro w hSw; (try dsimp only at hSw); go_simp) <;> (try (with_reducible rfl))
    try simp only [Act.put, Array.getInternal_eq_getElem, List.getElem_toArray, List.getElem_cons_zero, List.getElem_cons_succ, List.setIfInBounds_toArray, List.set_cons_zero, List.set_cons_succ]
    refine wpAnyH_done ?_ ?_ _
    · kernel_rfl
    go_wp2_with fail
    --@r11
    refine wp_region_held_drew (S := fun w' => w'.cell? ⟨g, o + 9, none⟩ = some (.int .u8 (x9 : Int)) ∧ w'.cell? ⟨g, o + 8, none⟩ = some (.int .u8 (x8 : Int)) ∧ w'.cell? ⟨g, o + 1, none⟩ = some (.int .u8 (x1 : Int))) (by kernel_rfl) (HCL.out _ ((Keeps.refl _ wL).drew)) (fun hHeld => ?_)
    refine wpAnyH_take (i := 0) (v := ?_) rfl (by kernel_rfl) (by kernel_rfl) (by kernel_rfl) (fun _ _ _ h => h) (Or.inl ⟨by kernel_rfl, ?_⟩) (by assumption) ?_
    rotate_left
    · (intro w hSw; (try dsimp only at hSw); go_simp) <;> (try (with_reducible rfl))
    try simp only [Act.put, Array.getInternal_eq_getElem, List.getElem_toArray, List.getElem_cons_zero, List.getElem_cons_succ, List.setIfInBounds_toArray, List.set_cons_zero, List.set_cons_succ]
    refine wpAnyH_take (i := 1) (v := ?_) rfl (by kernel_rfl) (by kernel_rfl) (by kernel_rfl) (fun _ _ _ h => h) (Or.inl ⟨by kernel_rfl, ?_⟩) (by assumption) ?_
    rotate_left
    · (intro w hSw; (try dsimp only at hSw); go_simp) <;> (try (with_reducible rfl))
    try simp only [Act.put, Array.getInternal_eq_getElem, List.getElem_toArray, List.getElem_cons_zero, List.getElem_cons_succ, List.setIfInBounds_toArray, List.set_cons_zero, List.set_cons_succ]
    refine wpAnyH_take (i := 3) (v := ?_) rfl (by kernel_rfl) (by kernel_rfl) (by kernel_rfl) (fun _ _ _ h => h) (Or.inl ⟨by kernel_rfl, ?_⟩) (by assumption) ?_
    rotate_left
    · (intro w hSw; (try dsimp only at hSw); go_simp) <;> (try (with_reducible rfl))
    try simp only [Act.put, Array.getInternal_eq_getElem, List.getElem_toArray, List.getElem_cons_zero, List.getElem_cons_succ, List.setIfInBounds_toArray, List.set_cons_zero, List.set_cons_succ]
    refine wpAnyH_take (i := 4) (v := ?_) rfl (by kernel_rfl) (by kernel_rfl) (by kernel_rfl) (fun _ _ _ h => h) (Or.inl ⟨by kernel_rfl, ?_⟩) (by assumption) ?_
    rotate_left
    · (intro w hSw; (try dsimp only at hSw); go_simp) <;> (try (with_reducible rfl))
    try simp only [Act.put, Array.getInternal_eq_getElem, List.getElem_toArray, List.getElem_cons_zero, List.getElem_cons_succ, List.setIfInBounds_toArray, List.set_cons_zero, List.set_cons_succ]
    refine wpAnyH_take (i := 6) (v := ?_) rfl (by kernel_rfl) (by kernel_rfl) (by kernel_rfl) (fun _ _ _ h => h) (Or.inl ⟨by kernel_rfl, ?_⟩) (by assumption) ?_
    rotate_left
    · (intro w hSw; (try dsimp only at hSw); go_simp) <;> (try (with_reducible rfl))
    try simp only [Act.put, Array.getInternal_eq_getElem, List.getElem_toArray, List.getElem_cons_zero, List.getElem_cons_succ, List.setIfInBounds_toArray, List.set_cons_zero, List.set_cons_succ]
    refine wpAnyH_take (i := 7) (v := ?_) rfl (by kernel_rfl) (by kernel_rfl) (by kernel_rfl) (fun _ _ _ h => h) (Or.inl ⟨by kernel_rfl, ?_⟩) (by assumption) ?_
    rotate_left
    · (intro w hSw; (try dsimp only at hSw); go_simp) <;> (try (with_reducible rfl))
    try simp only [Act.put, Array.getInternal_eq_getElem, List.getElem_toArray, List.getElem_cons_zero, List.getElem_cons_succ, List.setIfInBounds_toArray, List.set_cons_zero, List.set_cons_succ]
    refine wpAnyH_take (i := 8) (v := ?_) rfl (by kernel_rfl) (by kernel_rfl) (by kernel_rfl) (fun _ _ _ h => h) (Or.inl ⟨by kernel_rfl, ?_⟩) (by assumption) ?_
    rotate_left
    · (intro w hSw; have hcell := hSw.1; go_simp) <;> (try (with_reducible rfl))
    try simp only [Act.put, Array.getInternal_eq_getElem, List.getElem_toArray, List.getElem_cons_zero, List.getElem_cons_succ, List.setIfInBounds_toArray, List.set_cons_zero, List.set_cons_succ]
    refine wpAnyH_take (i := 9) (v := ?_) rfl (by kernel_rfl) (by kernel_rfl) (by kernel_rfl) (fun _ _ _ h => h) (Or.inl ⟨by kernel_rfl, ?_⟩) (by assumption) ?_
    rotate_left
    · (intro w hSw; (try dsimp only at hSw); go_simp) <;> (try (with_reducible rfl))
    try simp only [Act.put, Array.getInternal_eq_getElem, List.getElem_toArray, List.getElem_cons_zero, List.getElem_cons_succ, List.setIfInBounds_toArray, List.set_cons_zero, List.set_cons_succ]
    refine wpAnyH_take (i := 10) (v := ?_) rfl (by kernel_rfl) (by kernel_rfl) (by kernel_rfl) (fun _ _ _ h => h) (Or.inl ⟨by kernel_rfl, ?_⟩) (by assumption) ?_
    rotate_left
    · (intro w hSw; (try dsimp only at hSw); go_simp) <;> (try (with_reducible rfl))
    try simp only [Act.put, Array.getInternal_eq_getElem, List.getElem_toArray, List.getElem_cons_zero, List.getElem_cons_succ, List.setIfInBounds_toArray, List.set_cons_zero, List.set_cons_succ]
    refine wpAnyH_take (i := 11) (v := ?_) rfl (by kernel_rfl) (by kernel_rfl) (by kernel_rfl) (fun _ _ _ h => h) (Or.inl ⟨by kernel_rfl, ?_⟩) (by assumption) ?_
    rotate_left
    · (intro w hSw; have hcell := hSw.2.1; go_simp) <;> (try (with_reducible rfl))
    try simp only [Act.put, Array.getInternal_eq_getElem, List.getElem_toArray, List.getElem_cons_zero, List.getElem_cons_succ, List.setIfInBounds_toArray, List.set_cons_zero, List.set_cons_succ]
    refine wpAnyH_take (i := 12) (v := ?_) rfl (by kernel_rfl) (by kernel_rfl) (by kernel_rfl) (fun _ _ _ h => h) (Or.inl ⟨by kernel_rfl, ?_⟩) (by assumption) ?_
    rotate_left
    · (intro w hSw; (try dsimp only at hSw); go_simp) <;> (try (with_reducible rfl))
    try simp only [Act.put, Array.getInternal_eq_getElem, List.getElem_toArray, List.getElem_cons_zero, List.getElem_cons_succ, List.setIfInBounds_toArray, List.set_cons_zero, List.set_cons_succ]
    refine wpAnyH_take (i := 13) (v := ?_) rfl (by kernel_rfl) (by kernel_rfl) (by kernel_rfl) (fun _ _ _ h => h) (Or.inl ⟨by kernel_rfl, ?_⟩) (by assumption) ?_
    rotate_left
    · (intro w hSw; (try dsimp only at hSw); go_simp) <;> (try (with_reducible rfl))
    try simp only [Act.put, Array.getInternal_eq_getElem, List.getElem_toArray, List.getElem_cons_zero, List.getElem_cons_succ, List.setIfInBounds_toArray, List.set_cons_zero, List.set_cons_succ]
    refine wpAnyH_take (i := 14) (v := ?_) rfl (by kernel_rfl) (by kernel_rfl) (by kernel_rfl) (fun _ _ _ h => h) (Or.inl ⟨by kernel_rfl, ?_⟩) (by assumption) ?_
    rotate_left
    · (intro w hSw; have hcell := hSw.2.2; go_simp) <;> (try (with_reducible rfl))
    try simp only [Act.put, Array.getInternal_eq_getElem, List.getElem_toArray, List.getElem_cons_zero, List.getElem_cons_succ, List.setIfInBounds_toArray, List.set_cons_zero, List.set_cons_succ]
    refine wpAnyH_take (i := 15) (v := ?_) rfl (by kernel_rfl) (by kernel_rfl) (by kernel_rfl) (fun _ _ _ h => h) (Or.inl ⟨by kernel_rfl, ?_⟩) (by assumption) ?_
    rotate_left
    · (intro w hSw; (try dsimp only at hSw); go_simp) <;> (try (with_reducible rfl))
    try simp only [Act.put, Array.getInternal_eq_getElem, List.getElem_toArray, List.getElem_cons_zero, List.getElem_cons_succ, List.setIfInBounds_toArray, List.set_cons_zero, List.set_cons_succ]
    refine wpAnyH_take (i := 19) (v := ?_) rfl (by kernel_rfl) (by kernel_rfl) (by kernel_rfl) (fun _ _ _ h => h) (Or.inl ⟨by kernel_rfl, ?_⟩) (by assumption) ?_
    rotate_left
    · (intro w hSw; (try dsimp only at hSw); go_simp) <;> (try (with_reducible rfl))
    try simp only [Act.put, Array.getInternal_eq_getElem, List.getElem_toArray, List.getElem_cons_zero, List.getElem_cons_succ, List.setIfInBounds_toArray, List.set_cons_zero, List.set_cons_succ]
    refine wpAnyH_ready (rs := [2]) (by kernel_rfl) (by simp) ?_
    refine AllReadyH.cons rfl (fun K hK => ?_) AllReadyH.nil
    (rw [if_pos (by kernel_rfl)]; go_simp; go_at_call 75; refine (HA1.out _ ((Keeps.refl _ wL).drew)).mono ?_; rintro e wa ⟨rfl, ka⟩; have KA := Lib.hid (((Keeps.refl (fun _ => False) wL).drew).trans (ka _)); clear ka)
    refine hK.out _ _ (HCL.out _ KA.out) (fun hHeld => ?_)
    clear hK K
    try simp only [Act.put, Array.getInternal_eq_getElem, List.getElem_toArray, List.getElem_cons_zero, List.getElem_cons_succ, List.setIfInBounds_toArray, List.set_cons_zero, List.set_cons_succ]
    refine wpAnyH_ready (rs := [5]) (by kernel_rfl) (by simp) ?_
    refine AllReadyH.cons rfl (fun K hK => ?_) AllReadyH.nil
    (rw [if_pos (by kernel_rfl)]; go_simp; go_at_call 75; refine (HA2.out _ KA.out).mono ?_; rintro e wb ⟨rfl, kb⟩; have KB := Lib.hid (KA.out.trans (kb _)); clear kb)
    refine hK.out _ _ (HCL.out _ KB.out) (fun hHeld => ?_)
    clear hK K
    try simp only [Act.put, Array.getInternal_eq_getElem, List.getElem_toArray, List.getElem_cons_zero, List.getElem_cons_succ, List.setIfInBounds_toArray, List.set_cons_zero, List.set_cons_succ]
    refine wpAnyH_ready (rs := [16]) (by kernel_rfl) (by simp) ?_
    refine AllReadyH.cons rfl (fun K hK => ?_) AllReadyH.nil
    (rw [if_pos (by kernel_rfl)]; go_simp; go_at_call 65; refine (HN4.out _ KB.out).mono ?_; rintro e wx ⟨rfl, rfl⟩; skip)
    refine hK.out _ _ (HCL.out _ KB.out) (fun hHeld => ?_)
    clear hK K
    try simp only [Act.put, Array.getInternal_eq_getElem, List.getElem_toArray, List.getElem_cons_zero, List.getElem_cons_succ, List.setIfInBounds_toArray, List.set_cons_zero, List.set_cons_succ]
    refine wpAnyH_take (i := 17) (v := ?_) rfl (by kernel_rfl) (by kernel_rfl) (by kernel_rfl) (fun _ _ _ h => h) (Or.inl ⟨by kernel_rfl, ?_⟩) (by assumption) ?_
    rotate_left
    · (intro w hSw; (try dsimp only at hSw); go_simp) <;> (try (with_reducible rfl))
    try simp only [Act.put, Array.getInternal_eq_getElem, List.getElem_toArray, List.getElem_cons_zero, List.getElem_cons_succ, List.setIfInBounds_toArray, List.set_cons_zero, List.set_cons_succ]
    refine wpAnyH_take (i := 18) (v := _) rfl (by kernel_rfl) (by kernel_rfl) (by kernel_rfl) (fun _ _ _ h => h) (Or.inl ⟨by kernel_rfl, fun wq hSw => by_build wq 29 _ rfl [(0, AA), (1, AB), (2, .int .u8 (x9 : Int)), (5, .int .u8 (x8 : Int)), (6, .int .u8 (x1 : Int)), (7, .int .u32 (b4 : Int))] rfl HBI.out⟩) (by assumption) ?_
    try simp only [Act.put, Array.getInternal_eq_getElem, List.getElem_toArray, List.getElem_cons_zero, List.getElem_cons_succ, List.setIfInBounds_toArray, List.set_cons_zero, List.set_cons_succ]
    refine wpAnyH_ready (rs := [20]) (by kernel_rfl) (by simp) ?_
    refine AllReadyH.cons rfl (fun K hK => ?_) AllReadyH.nil
    (rw [if_pos (by kernel_rfl)]; simp only [Array.getInternal_eq_getElem, List.getElem_toArray, List.getElem_cons_zero, List.getElem_cons_succ]; refine wp_store_mid 29 _ _ rfl w.heap.size 0 C.toArray rfl rfl (HST.out _ KB.out).1 HFZ.out HFO.out ?_)
    refine hK.out _ _ (HCS.out _ KB.out) (fun hHeld => ?_)
    clear hK K
    try simp only [Act.put, Array.getInternal_eq_getElem, List.getElem_toArray, List.getElem_cons_zero, List.getElem_cons_succ, List.setIfInBounds_toArray, List.set_cons_zero, List.set_cons_succ]
    refine wpAnyH_take (i := 21) (v := ?_) rfl (by kernel_rfl) (by kernel_rfl) (by kernel_rfl) (fun _ _ _ h => h) (Or.inl ⟨by kernel_rfl, ?_⟩) (by assumption) ?_
    rotate_left
    · (intro w hSw; (try dsimp only at hSw); go_simp) <;> (try (with_reducible rfl))
    try simp only [Act.put, Array.getInternal_eq_getElem, List.getElem_toArray, List.getElem_cons_zero, List.getElem_cons_succ, List.setIfInBounds_toArray, List.set_cons_zero, List.set_cons_succ]
    refine wpAnyH_take (i := 22) (v := ?_) rfl (by kernel_rfl) (by kernel_rfl) (by kernel_rfl) (fun _ _ _ h => h) (Or.inl ⟨by kernel_rfl, ?_⟩) (by assumption) ?_
    rotate_left
    · (intro w hSw; (try dsimp only at hSw); go_simp) <;> (try (with_reducible rfl))
    try simp only [Act.put, Array.getInternal_eq_getElem, List.getElem_toArray, List.getElem_cons_zero, List.getElem_cons_succ, List.setIfInBounds_toArray, List.set_cons_zero, List.set_cons_succ]
    refine wpAnyH_done ?_ ?_ _
    · kernel_rfl
    go_wp2_with fail
    try rw [Exit.noGoto_ret]
    refine bodyPost_ret (ret_cell2 (p := 2) (u := 3) (v := 4) (ty := 29) (by kernel_rfl) _ _ _ w.heap.size _ _ _ (by rfl) (HST.out _ KB.out).2.1 Try.underlying29 rfl HFZ.out) rfl ?_
    refine ⟨rfl, fun S => ?_⟩
    exact keeps_own (fun S => (KW.out S).trans (KB.out.mono (fun _ _ z => z.elim))) (HST.out _ KB.out).2.2 (Nat.le_refl _) S
set_option maxRecDepth 100000 in
set_option maxHeartbeats 1500000 in
theorem rsix_d (g o n c B : Nat) (l : List Nat) (hl : l.length = n) (h0 : 0 < n) (hn : n ≤ 140737488355328) (hc : n ≤ c) (hc9 : c ≤ 9223372036854775807) (hs : Small l) (hr : Rd w B (some ⟨g, o, none⟩) (by_ l)) (hB : B ≤ w.heap.size) (hk : 40 ≤ n) (he : sizeE n (40 + num2 l 4) 40 ≠ 0) :
    Calls Try.prog 63 #[.slice (some ⟨g, o, none⟩) n c] w fun e w' => RH w w' e (hz, 0, sizeE n (40 + num2 l 4) 40) := by
  unfold RH
  show Calls _ _ _ _ _
  obtain ⟨w1, hw1, k1, b1, s1⟩ := box1 w zhd 29
  dsimp only [zhd] at hw1
  have hr1 := rd_old hr (k1 (fun _ => False))
  have d1 : ¬ (n : Int) < 40 := by omega
  have hs9 := num2_lt hs 4
  have HN4 : Hid (Calls Try.prog 65 #[.slice (some ⟨g, o, none⟩) n c, .int .i64 4] w1 fun e w' => e = .returned (.int .u16 (num2 l 4 : Nat)) ∧ w1 = w') := Lib.hid (number_ w1 (some ⟨g, o, none⟩) l n c B 4 hl (by omega) hc hc9 hs hr1 (by omega))
  obtain ⟨t2, b2, k2⟩ := p_store b1 (cs := zhd) rfl
  have kk : ∀ S, Keeps S w (w1.setCells w.heap.size 0 zhd) := fun S => ⟨Nat.le_trans (k1 S).size k2.size, fun x hx hn => by rw [k2.block x (Nat.lt_of_lt_of_le hx (k1 S).size) (by omega), (k1 S).block x hx hn], (k1 S).same.trans k2.same⟩
  have HT2 := Lib.hid t2
  have HB2 := Lib.hid b2
  have HK2 := Lib.hid kk
  obtain ⟨p4, hp4⟩ : ∃ p4, p4 = num2 l 4 := ⟨_, rfl⟩
  obtain ⟨s, hse⟩ : ∃ s, s = 40 + p4 := ⟨_, rfl⟩
  rw [← hp4] at hs9 he HN4
  try rw [← hp4]
  rw [← hse] at he
  try rw [← hse]
  have HCK : Hid (Calls Try.prog 74 #[.slice (some ⟨g, o, none⟩) n c, .int .i64 (s : Int), .int .i64 40] w1 fun e w' => e = .returned (.int .i64 (sizeE n s 40)) ∧ w' = w1) := Lib.hid (checksize_ w1 (some ⟨g, o, none⟩) n c s 40 (by omega) (by omega) (by omega))
  have e1 : IntKind.i64.wrap (p4 : Int) = (p4 : Int) := wi64 (by omega) (by omega)
  have e2 : IntKind.i64.wrap ((40 : Int) + (p4 : Int)) = (s : Int) := by rw [wi64 (by omega) (by omega)]; omega
  have d3 : (sizeE n s 40 != 0) = true := bne_iff_ne.2 he
  generalize sizeE n s 40 = E at *
  have HZI := Lib.hid zhd_info
  have HZB := Lib.hid zhd_built
  have HZO := Lib.hid (all_oneCell_toArray zhd_one)
  have HW := Lib.hid hw1
  have K1 := Lib.hid k1
  clear hw1 k1 b1 s1 hr1 t2 b2 k2 kk hl hs hr hB hc hc9
  clear he hse hp4
  go_enter Try.func63, Try.ntmps63
  go_wp2_with (first
    | ((with_reducible show Calls _ _ #[_, .int .i64 4] _ _); (try rw [← HW.out]); refine HN4.out.mono ?_; rintro e w9 ⟨rfl, h9⟩; subst w9)
    | ((with_reducible show Calls _ _ #[_, _, _] _ _); (try rw [← HW.out]); refine HCK.out.mono ?_; rintro e w9 ⟨rfl, h9⟩; subst w9)
    | ((try with_reducible rw [← HW.out]); refine p_build rfl 29 _ rfl _ rfl _ HZB.out ?_)
    | (refine' wpList_store_mid rfl 29 _ _ rfl w.heap.size 0 (zhd).toArray ?hx rfl ?ht HZI.out HZO.out ?_; (case hx => rfl); (case ht => exact HT2.out)))
  try rw [Exit.noGoto_ret]
  refine bodyPost_ret (ret_cell2 (p := 2) (u := 3) (v := 4) (ty := 29) (by kernel_rfl) _ _ _ w.heap.size _ _ _ (by rfl) HB2.out Try.underlying29 rfl HZI.out) rfl ?_
  exact ⟨rfl, HK2.out⟩
set_option maxRecDepth 100000 in
set_option maxHeartbeats 1500000 in
theorem rsix_f (g o n c B : Nat) (l : List Nat) (hl : l.length = n) (h0 : 0 < n) (hn : n ≤ 140737488355328) (hc : n ≤ c) (hc9 : c ≤ 9223372036854775807) (hs : Small l) (hr : Rd w B (some ⟨g, o, none⟩) (by_ l)) (hB : B ≤ w.heap.size) (hk : 40 ≤ n) (he : sizeE n (40 + num2 l 4) 40 = 0) :
    Calls Try.prog 63 #[.slice (some ⟨g, o, none⟩) n c] w fun e w' => RH w w' e (hd6 l, 40 + num2 l 4, 0) := by
  unfold RH
  show Calls _ _ _ _ _
  obtain ⟨w1, hw1, k1, b1, s1⟩ := box1 w zhd 29
  dsimp only [zhd] at hw1
  have hr1 := rd_old hr (k1 (fun _ => False))
  have d1 : ¬ (n : Int) < 40 := by omega
  have hs9 := num2_lt hs 4
  have HN4 : Hid (Calls Try.prog 65 #[.slice (some ⟨g, o, none⟩) n c, .int .i64 4] w1 fun e w' => e = .returned (.int .u16 (num2 l 4 : Nat)) ∧ w1 = w') := Lib.hid (number_ w1 (some ⟨g, o, none⟩) l n c B 4 hl (by omega) hc hc9 hs hr1 (by omega))
  have i7 : (7 : Int) < (n : Int) := by omega
  have i6 : (6 : Int) < (n : Int) := by omega
  have gB := rd_blk hr (by omega)
  have HCL : Hid (∀ wq, Keeps (fun _ => False) w1 wq → wq.cell? ⟨g, o + 6, none⟩ = some (.int .u8 ((l.getD 6 0 : Nat) : Int)) ∧ wq.cell? ⟨g, o + 7, none⟩ = some (.int .u8 ((l.getD 7 0 : Nat) : Int))) := Lib.hid (fun wq kq => ⟨rd_cell (rd_old hr1 kq) (by omega), rd_cell (rd_old hr1 kq) (by omega)⟩)
  have HA1 : Hid (∀ u, Keeps (fun _ => False) w1 u → Calls Try.prog 76 #[.slice (some ⟨g, o + 8, none⟩) 16 (c - 8)] u fun e w' => e = .returned (av (ad6 ((l.drop 8).take 16))) ∧ ∀ S, Keeps S u w') := Lib.hid (fun u hu => paddr6_ u g (o + 8) (c - 8) _ (by simp; omega) ((hs.drop _).take _) (rd_range (rd_old hr1 hu) 8 16) (by have := hu.size; omega))
  have HA2 : Hid (∀ u, Keeps (fun _ => False) w1 u → Calls Try.prog 76 #[.slice (some ⟨g, o + 24, none⟩) 16 (c - 24)] u fun e w' => e = .returned (av (ad6 ((l.drop 24).take 16))) ∧ ∀ S, Keeps S u w') := Lib.hid (fun u hu => paddr6_ u g (o + 24) (c - 24) _ (by simp; omega) ((hs.drop _).take _) (rd_range (rd_old hr1 hu) 24 16) (by have := hu.size; omega))
  have HT32 : Hid (Calls Try.prog 66 #[.slice (some ⟨g, o, none⟩) n c, .int .i64 0] w1 fun e w' => e = .returned (.tuple #[.int .u32 (num4 l 0 : Nat), .int .i64 0]) ∧ w1 = w') := Lib.hid (take32_yes (some ⟨g, o, none⟩) l n c B 0 w1 hl (by omega) hc hc9 hs hr1 (by omega))
  have h49 := num4_lt hs 0
  have q3 : ∀ u, (Instr.slice 27 (.slice (some ⟨g, o, none⟩) n c) (some (.int .i64 8)) (some (.int .i64 24)) none).run Try.prog u = .ok (.slice (some ⟨g, o + 8, none⟩) 16 (c - 8)) u := fun u => by
    have := cut_lh (some ⟨g, o, none⟩) n c 8 24 (by omega) (by omega) u
    rw [cutA_some _ _ _ _ (by omega)] at this; exact this
  have q4 : ∀ u, (Instr.slice 27 (.slice (some ⟨g, o, none⟩) n c) (some (.int .i64 24)) (some (.int .i64 40)) none).run Try.prog u = .ok (.slice (some ⟨g, o + 24, none⟩) 16 (c - 24)) u := fun u => by
    have := cut_lh (some ⟨g, o, none⟩) n c 24 40 (by omega) (by omega) u
    rw [cutA_some _ _ _ _ (by omega)] at this; exact this
  have hwf : (hd6 l).Wf := hd6_wf hs (by omega)
  have HBI : Hid (Try.prog.built 29 [(0, av (ad6 ((l.drop 8).take 16))), (1, av (ad6 ((l.drop 24).take 16))), (2, .int .u8 ((l.getD 6 0 : Nat) : Int)), (5, .int .u8 ((l.getD 7 0 : Nat) : Int)), (6, .int .u8 ((num4 l 0 / 1048576 % 256 : Nat) : Int)), (7, .int .u32 ((num4 l 0 % 1048576 : Nat) : Int))] = some (hcs (hd6 l) nul).toArray) := Lib.hid (hfr_built hwf.s hwf.d _ _ _ _)
  have HFZ : Hid ((Try.prog.info? 29).map (·.size) = some (hcs (hd6 l) nul).length) := Lib.hid (hd_sz hwf nul)
  have HFO := Lib.hid (all_oneCell_toArray (hcs_one (h := hd6 l) (v := nul) rfl))
  have HST : Hid (∀ u, Keeps (fun _ => False) w1 u → u.there w.heap.size 0 (hcs (hd6 l) nul).toArray.size ∧ Blk (u.setCells w.heap.size 0 (hcs (hd6 l) nul)) w.heap.size 29 (hcs (hd6 l) nul) ∧ Keeps (· = w.heap.size) u (u.setCells w.heap.size 0 (hcs (hd6 l) nul))) := Lib.hid (fun u hu => p_store (Blk.keeps b1 hu (fun z => z)) (by rw [hcs_len hwf]; rfl))
  have HCS : Hid (∀ u, Keeps (fun _ => False) w1 u → (u.setCells w.heap.size 0 (hcs (hd6 l) nul)).cell? ⟨g, o + 6, none⟩ = some (.int .u8 ((l.getD 6 0 : Nat) : Int)) ∧ (u.setCells w.heap.size 0 (hcs (hd6 l) nul)).cell? ⟨g, o + 7, none⟩ = some (.int .u8 ((l.getD 7 0 : Nat) : Int))) := Lib.hid (fun u hu => by
    have kz := (HST.out u hu).2.2
    have hh := HCL.out u hu
    have ne : ¬ g = w.heap.size := by omega
    exact ⟨Keeps.cell kz hh.1 ne, Keeps.cell kz hh.2 ne⟩)
  have KW : Hid (∀ S, Keeps S w w1) := Lib.hid k1
  unfold hvv
  clear hwf gB
  generalize hcs (hd6 l) nul = C at *
  obtain ⟨wd, hwd⟩ : ∃ wd, wd = num4 l 0 := ⟨_, rfl⟩
  obtain ⟨q, hq⟩ : ∃ q, q = wd / 1048576 := ⟨_, rfl⟩
  obtain ⟨cl, hcl⟩ : ∃ cl, cl = q % 256 := ⟨_, rfl⟩
  obtain ⟨idn, hid⟩ : ∃ idn, idn = wd % 1048576 := ⟨_, rfl⟩
  rw [← hwd] at HBI HT32 h49
  rw [← hq, ← hid, ← hcl] at HBI
  have z1 : (wd : Int) / 1048576 = (q : Int) := by omega
  have z2 : IntKind.u8.wrap (q : Int) = (cl : Int) := by rw [IntKind.wrap_u8]; omega
  have z3 : bits .and .u32 (wd : Int) 1048575 = (idn : Int) := by
    rw [hid]; exact and20 wd (by omega)
  clear hwd hq hcl hid
  generalize l.getD 6 0 = x6 at *
  generalize l.getD 7 0 = x7 at *
  generalize av (ad6 ((l.drop 8).take 16)) = AA at *
  generalize av (ad6 ((l.drop 24).take 16)) = AB at *
  obtain ⟨p4, hp4⟩ : ∃ p4, p4 = num2 l 4 := ⟨_, rfl⟩
  obtain ⟨s, hse⟩ : ∃ s, s = 40 + p4 := ⟨_, rfl⟩
  rw [← hp4] at hs9 he HN4
  try rw [← hp4]
  rw [← hse] at he
  try rw [← hse]
  have HCK : Hid (Calls Try.prog 74 #[.slice (some ⟨g, o, none⟩) n c, .int .i64 (s : Int), .int .i64 40] w1 fun e w' => e = .returned (.int .i64 (sizeE n s 40)) ∧ w' = w1) := Lib.hid (checksize_ w1 (some ⟨g, o, none⟩) n c s 40 (by omega) (by omega) (by omega))
  have e1 : IntKind.i64.wrap (p4 : Int) = (p4 : Int) := wi64 (by omega) (by omega)
  have e2 : IntKind.i64.wrap ((40 : Int) + (p4 : Int)) = (s : Int) := by rw [wi64 (by omega) (by omega)]; omega
  rw [he] at HCK
  have HZI := Lib.hid zhd_info
  have HZB := Lib.hid zhd_built
  have HZO := Lib.hid (all_oneCell_toArray zhd_one)
  have HW := Lib.hid hw1
  have K1 := Lib.hid k1
  clear hw1 k1 b1 s1 hr1 hl hs hr hB hc hc9
  clear he hse hp4
  go_enter Try.func63, Try.ntmps63
  go_wp2_with (first | ((with_reducible show Calls _ _ #[_, .int .i64 4] _ _); (try rw [← HW.out]); refine HN4.out.mono ?_; rintro e w9 ⟨rfl, h9⟩; subst w9) | ((with_reducible show Calls _ _ #[_, _, _] _ _); (try rw [← HW.out]); refine HCK.out.mono ?_; rintro e w9 ⟨rfl, h9⟩; subst w9) | ((with_reducible show Calls _ _ #[_, .int .i64 0] _ _); (try rw [← HW.out]); refine HT32.out.mono ?_; rintro e w9 ⟨rfl, h9⟩; subst w9))
  --@r8
  try rw [← HW.out]
  refine wp_region_held_drew (S := fun w' => w'.cell? ⟨g, o + 6, none⟩ = some (.int .u8 (x6 : Int)) ∧ w'.cell? ⟨g, o + 7, none⟩ = some (.int .u8 (x7 : Int))) (by kernel_rfl) (HCL.out _ ((Keeps.refl _ w1).drew)) (fun hHeld => ?_)
  refine wpAnyH_take (i := 0) (v := ?_) rfl (by kernel_rfl) (by kernel_rfl) (by kernel_rfl) (fun _ _ _ h => h) (Or.inl ⟨by kernel_rfl, ?_⟩) (by assumption) ?_
  rotate_left
  · (intro w hSw; (try dsimp only at hSw); go_simp) <;> (try (with_reducible rfl))
  try simp only [Act.put, Array.getInternal_eq_getElem, List.getElem_toArray, List.getElem_cons_zero, List.getElem_cons_succ, List.setIfInBounds_toArray, List.set_cons_zero, List.set_cons_succ]
  refine wpAnyH_take (i := 1) (v := ?_) rfl (by kernel_rfl) (by kernel_rfl) (by kernel_rfl) (fun _ _ _ h => h) (Or.inl ⟨by kernel_rfl, ?_⟩) (by assumption) ?_
  rotate_left
  · (intro w hSw; (try dsimp only at hSw); go_simp) <;> (try (with_reducible rfl))
  try simp only [Act.put, Array.getInternal_eq_getElem, List.getElem_toArray, List.getElem_cons_zero, List.getElem_cons_succ, List.setIfInBounds_toArray, List.set_cons_zero, List.set_cons_succ]
  refine wpAnyH_take (i := 3) (v := ?_) rfl (by kernel_rfl) (by kernel_rfl) (by kernel_rfl) (fun _ _ _ h => h) (Or.inl ⟨by kernel_rfl, ?_⟩) (by assumption) ?_
  rotate_left
  · (intro w hSw; (try dsimp only at hSw); go_simp) <;> (try (with_reducible rfl))
  try simp only [Act.put, Array.getInternal_eq_getElem, List.getElem_toArray, List.getElem_cons_zero, List.getElem_cons_succ, List.setIfInBounds_toArray, List.set_cons_zero, List.set_cons_succ]
  refine wpAnyH_take (i := 4) (v := ?_) rfl (by kernel_rfl) (by kernel_rfl) (by kernel_rfl) (fun _ _ _ h => h) (Or.inl ⟨by kernel_rfl, ?_⟩) (by assumption) ?_
  rotate_left
  · (intro w hSw; (try dsimp only at hSw); go_simp) <;> (try (with_reducible rfl))
  try simp only [Act.put, Array.getInternal_eq_getElem, List.getElem_toArray, List.getElem_cons_zero, List.getElem_cons_succ, List.setIfInBounds_toArray, List.set_cons_zero, List.set_cons_succ]
  refine wpAnyH_take (i := 6) (v := ?_) rfl (by kernel_rfl) (by kernel_rfl) (by kernel_rfl) (fun _ _ _ h => h) (Or.inl ⟨by kernel_rfl, ?_⟩) (by assumption) ?_
  rotate_left
  · (intro w hSw; (try dsimp only at hSw); go_simp) <;> (try (with_reducible rfl))
  try simp only [Act.put, Array.getInternal_eq_getElem, List.getElem_toArray, List.getElem_cons_zero, List.getElem_cons_succ, List.setIfInBounds_toArray, List.set_cons_zero, List.set_cons_succ]
  refine wpAnyH_take (i := 7) (v := ?_) rfl (by kernel_rfl) (by kernel_rfl) (by kernel_rfl) (fun _ _ _ h => h) (Or.inl ⟨by kernel_rfl, ?_⟩) (by assumption) ?_
  rotate_left
  · (intro w hSw; (try dsimp only at hSw); go_simp) <;> (try (with_reducible rfl))
  try simp only [Act.put, Array.getInternal_eq_getElem, List.getElem_toArray, List.getElem_cons_zero, List.getElem_cons_succ, List.setIfInBounds_toArray, List.set_cons_zero, List.set_cons_succ]
  refine wpAnyH_take (i := 8) (v := ?_) rfl (by kernel_rfl) (by kernel_rfl) (by kernel_rfl) (fun _ _ _ h => h) (Or.inl ⟨by kernel_rfl, ?_⟩) (by assumption) ?_
  rotate_left
  · (intro w hSw; have hcell := hSw.1; go_simp) <;> (try (with_reducible rfl))
  try simp only [Act.put, Array.getInternal_eq_getElem, List.getElem_toArray, List.getElem_cons_zero, List.getElem_cons_succ, List.setIfInBounds_toArray, List.set_cons_zero, List.set_cons_succ]
  refine wpAnyH_take (i := 9) (v := ?_) rfl (by kernel_rfl) (by kernel_rfl) (by kernel_rfl) (fun _ _ _ h => h) (Or.inl ⟨by kernel_rfl, ?_⟩) (by assumption) ?_
  rotate_left
  · (intro w hSw; (try dsimp only at hSw); go_simp) <;> (try (with_reducible rfl))
  try simp only [Act.put, Array.getInternal_eq_getElem, List.getElem_toArray, List.getElem_cons_zero, List.getElem_cons_succ, List.setIfInBounds_toArray, List.set_cons_zero, List.set_cons_succ]
  refine wpAnyH_take (i := 10) (v := ?_) rfl (by kernel_rfl) (by kernel_rfl) (by kernel_rfl) (fun _ _ _ h => h) (Or.inl ⟨by kernel_rfl, ?_⟩) (by assumption) ?_
  rotate_left
  · (intro w hSw; (try dsimp only at hSw); go_simp) <;> (try (with_reducible rfl))
  try simp only [Act.put, Array.getInternal_eq_getElem, List.getElem_toArray, List.getElem_cons_zero, List.getElem_cons_succ, List.setIfInBounds_toArray, List.set_cons_zero, List.set_cons_succ]
  refine wpAnyH_take (i := 11) (v := ?_) rfl (by kernel_rfl) (by kernel_rfl) (by kernel_rfl) (fun _ _ _ h => h) (Or.inl ⟨by kernel_rfl, ?_⟩) (by assumption) ?_
  rotate_left
  · (intro w hSw; have hcell := hSw.2; go_simp) <;> (try (with_reducible rfl))
  try simp only [Act.put, Array.getInternal_eq_getElem, List.getElem_toArray, List.getElem_cons_zero, List.getElem_cons_succ, List.setIfInBounds_toArray, List.set_cons_zero, List.set_cons_succ]
  refine wpAnyH_take (i := 12) (v := ?_) rfl (by kernel_rfl) (by kernel_rfl) (by kernel_rfl) (fun _ _ _ h => h) (Or.inl ⟨by kernel_rfl, ?_⟩) (by assumption) ?_
  rotate_left
  · (intro w hSw; (try dsimp only at hSw); go_simp) <;> (try (with_reducible rfl))
  try simp only [Act.put, Array.getInternal_eq_getElem, List.getElem_toArray, List.getElem_cons_zero, List.getElem_cons_succ, List.setIfInBounds_toArray, List.set_cons_zero, List.set_cons_succ]
  refine wpAnyH_take (i := 13) (v := ?_) rfl (by kernel_rfl) (by kernel_rfl) (by kernel_rfl) (fun _ _ _ h => h) (Or.inl ⟨by kernel_rfl, ?_⟩) (by assumption) ?_
  rotate_left
  · (intro w hSw; (try dsimp only at hSw); go_simp) <;> (try (with_reducible rfl))
  try simp only [Act.put, Array.getInternal_eq_getElem, List.getElem_toArray, List.getElem_cons_zero, List.getElem_cons_succ, List.setIfInBounds_toArray, List.set_cons_zero, List.set_cons_succ]
  refine wpAnyH_take (i := 14) (v := ?_) rfl (by kernel_rfl) (by kernel_rfl) (by kernel_rfl) (fun _ _ _ h => h) (Or.inl ⟨by kernel_rfl, ?_⟩) (by assumption) ?_
  rotate_left
  · (intro w hSw; (try dsimp only at hSw); go_simp) <;> (try (with_reducible rfl))
  try simp only [Act.put, Array.getInternal_eq_getElem, List.getElem_toArray, List.getElem_cons_zero, List.getElem_cons_succ, List.setIfInBounds_toArray, List.set_cons_zero, List.set_cons_succ]
  refine wpAnyH_take (i := 15) (v := ?_) rfl (by kernel_rfl) (by kernel_rfl) (by kernel_rfl) (fun _ _ _ h => h) (Or.inl ⟨by kernel_rfl, ?_⟩) (by assumption) ?_
  rotate_left
  · (intro w hSw; (try dsimp only at hSw); go_simp) <;> (try (with_reducible rfl))
  try simp only [Act.put, Array.getInternal_eq_getElem, List.getElem_toArray, List.getElem_cons_zero, List.getElem_cons_succ, List.setIfInBounds_toArray, List.set_cons_zero, List.set_cons_succ]
  refine wpAnyH_take (i := 16) (v := ?_) rfl (by kernel_rfl) (by kernel_rfl) (by kernel_rfl) (fun _ _ _ h => h) (Or.inl ⟨by kernel_rfl, ?_⟩) (by assumption) ?_
  rotate_left
  · (intro w hSw; (try dsimp only at hSw); go_simp) <;> (try (with_reducible rfl))
  try simp only [Act.put, Array.getInternal_eq_getElem, List.getElem_toArray, List.getElem_cons_zero, List.getElem_cons_succ, List.setIfInBounds_toArray, List.set_cons_zero, List.set_cons_succ]
  refine wpAnyH_take (i := 18) (v := ?_) rfl (by kernel_rfl) (by kernel_rfl) (by kernel_rfl) (fun _ _ _ h => h) (Or.inl ⟨by kernel_rfl, ?_⟩) (by assumption) ?_
  rotate_left
  · (intro w hSw; (try dsimp only at hSw); go_simp) <;> (try (with_reducible rfl))
  try simp only [Act.put, Array.getInternal_eq_getElem, List.getElem_toArray, List.getElem_cons_zero, List.getElem_cons_succ, List.setIfInBounds_toArray, List.set_cons_zero, List.set_cons_succ]
  refine wpAnyH_ready (rs := [2]) (by kernel_rfl) (by simp) ?_
  refine AllReadyH.cons rfl (fun K hK => ?_) AllReadyH.nil
  (rw [if_pos (by kernel_rfl)]; go_simp; go_at_call 76; refine (HA1.out _ ((Keeps.refl _ w1).drew)).mono ?_; rintro e wa ⟨rfl, ka⟩; have KA := Lib.hid (((Keeps.refl (fun _ => False) w1).drew).trans (ka _)); clear ka)
  refine hK.out _ _ (HCL.out _ KA.out) (fun hHeld => ?_)
  clear hK K
  try simp only [Act.put, Array.getInternal_eq_getElem, List.getElem_toArray, List.getElem_cons_zero, List.getElem_cons_succ, List.setIfInBounds_toArray, List.set_cons_zero, List.set_cons_succ]
  refine wpAnyH_ready (rs := [5]) (by kernel_rfl) (by simp) ?_
  refine AllReadyH.cons rfl (fun K hK => ?_) AllReadyH.nil
  (rw [if_pos (by kernel_rfl)]; go_simp; go_at_call 76; refine (HA2.out _ KA.out).mono ?_; rintro e wb ⟨rfl, kb⟩; have KB := Lib.hid (KA.out.trans (kb _)); clear kb)
  refine hK.out _ _ (HCL.out _ KB.out) (fun hHeld => ?_)
  clear hK K
  try simp only [Act.put, Array.getInternal_eq_getElem, List.getElem_toArray, List.getElem_cons_zero, List.getElem_cons_succ, List.setIfInBounds_toArray, List.set_cons_zero, List.set_cons_succ]
  refine wpAnyH_take (i := 17) (v := _) rfl (by kernel_rfl) (by kernel_rfl) (by kernel_rfl) (fun _ _ _ h => h) (Or.inl ⟨by kernel_rfl, fun wq hSw => by_build wq 29 _ rfl [(0, AA), (1, AB), (2, .int .u8 (x6 : Int)), (5, .int .u8 (x7 : Int)), (6, .int .u8 (cl : Int)), (7, .int .u32 (idn : Int))] rfl HBI.out⟩) (by assumption) ?_
  try simp only [Act.put, Array.getInternal_eq_getElem, List.getElem_toArray, List.getElem_cons_zero, List.getElem_cons_succ, List.setIfInBounds_toArray, List.set_cons_zero, List.set_cons_succ]
  refine wpAnyH_ready (rs := [19]) (by kernel_rfl) (by simp) ?_
  refine AllReadyH.cons rfl (fun K hK => ?_) AllReadyH.nil
  (rw [if_pos (by kernel_rfl)]; simp only [Array.getInternal_eq_getElem, List.getElem_toArray, List.getElem_cons_zero, List.getElem_cons_succ]; refine wp_store_mid 29 _ _ rfl w.heap.size 0 C.toArray rfl rfl (HST.out _ KB.out).1 HFZ.out HFO.out ?_)
  refine hK.out _ _ (HCS.out _ KB.out) (fun hHeld => ?_)
  clear hK K
  try simp only [Act.put, Array.getInternal_eq_getElem, List.getElem_toArray, List.getElem_cons_zero, List.getElem_cons_succ, List.setIfInBounds_toArray, List.set_cons_zero, List.set_cons_succ]
  refine wpAnyH_take (i := 20) (v := ?_) rfl (by kernel_rfl) (by kernel_rfl) (by kernel_rfl) (fun _ _ _ h => h) (Or.inl ⟨by kernel_rfl, ?_⟩) (by assumption) ?_
  rotate_left
  · (intro w hSw; (try dsimp only at hSw); go_simp) <;> (try (with_reducible rfl))
  try simp only [Act.put, Array.getInternal_eq_getElem, List.getElem_toArray, List.getElem_cons_zero, List.getElem_cons_succ, List.setIfInBounds_toArray, List.set_cons_zero, List.set_cons_succ]
  refine wpAnyH_take (i := 21) (v := ?_) rfl (by kernel_rfl) (by kernel_rfl) (by kernel_rfl) (fun _ _ _ h => h) (Or.inl ⟨by kernel_rfl, ?_⟩) (by assumption) ?_
  rotate_left
  · (intro w hSw; (try dsimp only at hSw); go_simp) <;> (try (with_reducible rfl))
  try simp only [Act.put, Array.getInternal_eq_getElem, List.getElem_toArray, List.getElem_cons_zero, List.getElem_cons_succ, List.setIfInBounds_toArray, List.set_cons_zero, List.set_cons_succ]
  refine wpAnyH_done ?_ ?_ _
  · kernel_rfl
  go_wp2_with fail
  try rw [Exit.noGoto_ret]
  refine bodyPost_ret (ret_cell2 (p := 2) (u := 3) (v := 4) (ty := 29) (by kernel_rfl) _ _ _ w.heap.size _ _ _ (by rfl) (HST.out _ KB.out).2.1 Try.underlying29 rfl HFZ.out) rfl ?_
  refine ⟨rfl, fun S => ?_⟩
  exact keeps_own (fun S => (KW.out S).trans (KB.out.mono (fun _ _ z => z.elim))) (HST.out _ KB.out).2.2 (Nat.le_refl _) S
end
end Go.Proofs.Ytidengmcbppcoaa.pk
