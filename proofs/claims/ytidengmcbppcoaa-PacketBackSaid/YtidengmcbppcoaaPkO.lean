/-
  Addresses out of a packet's bytes: addrOfFour.
-/
import Derived.Test.YtidengmcbppcoaaPkM
import Derived.Laws.CopyRow
import Derived.Laws.CopyOwn
import Derived.Shelf.Spec.SlicesInsert
set_option linter.unusedVariables false
set_option linter.unusedSimpArgs false
namespace Go.Proofs.Ytidengmcbppcoaa.pk
open Go.RowKit Go.Proofs Go.Proofs.Ytidengmcbppcoaa.oc Go.Proofs.Ytidengmcbppcoaa.mz Go.Proofs.Ytidengmcbppcoaa.pf Go.Proofs.Ytidengmcbppcoaa.wh Go.Proofs.Ytidengmcbppcoaa.qk Go.Proofs.Ytidengmcbppcoaa.bys
theorem four_ {l : List Nat} (h : l.length = 4) : ∃ q0 q1 q2 q3, l = [q0, q1, q2, q3] := by
  match l, h with
  | [q0, q1, q2, q3], _ => exact ⟨q0, q1, q2, q3, rfl⟩
def z12 : List Nat := [0, 0, 0, 0, 0, 0, 0, 0, 0, 0, 0, 0]
/-- an address of IPv4 out of its four bytes -/
def ad4 (l : List Nat) : Ad := ⟨false, l ++ z12⟩
def ad6 (l : List Nat) : Ad := ⟨true, l⟩
theorem ad4_wf {l : List Nat} (hl : l.length = 4) (hs : ∀ x ∈ l, x < 256) : (ad4 l).Wf := by
  refine ⟨by simp [ad4, z12, hl], fun x hx => ?_⟩
  unfold ad4 at hx
  rcases List.mem_append.1 hx with h | h
  · exact hs x h
  · simp [z12] at h; omega
theorem keeps_below_row {w0 w : World} (k : ∀ S, Keeps S w0 w) {g : Nat} (hg : w0.heap.size ≤ g) (cs : Array Value) : ∀ S, Keeps S w0 (w.setRow g cs) := fun S =>
  keeps_of_below (below_setRow ⟨(k (fun _ => False)).same.1, (k (fun _ => False)).same.2, (k (fun _ => False)).same.3, (k (fun _ => False)).size, fun b hb => (k (fun _ => False)).block b hb (fun z => z)⟩ hg cs) S
def z4 : List Value := [.int .u8 0, .int .u8 0, .int .u8 0, .int .u8 0]
section
variable (w : World)
set_option maxRecDepth 100000 in
set_option maxHeartbeats 1500000 in
theorem paddr4_ (b o c : Nat) (l : List Nat) (hl : l.length = 4) (hs : ∀ x ∈ l, x < 256) (hr : w.rangeAt b o (b8s l)) (hb : b < w.heap.size) :
    Calls Try.prog 75 #[.slice (some ⟨b, o, none⟩) 4 c] w fun e w' => e = .returned (av (ad4 l)) ∧ ∀ S, Keeps S w w' := by
  have hwf := ad4_wf hl hs
  obtain ⟨w1, hw1, k1, b1⟩ := zad_box w
  have hr1 : w1.rangeAt b o (b8s l) := fun j v hj => Keeps.cell (k1 (fun _ => False)) (hr j v hj) (fun z => z)
  obtain ⟨wz, hwz, kz, bz, sz⟩ := box1 w1 z4 94
  obtain ⟨t2, b2, k2⟩ := p_mid bz 0 (b8s l) (by simp [b8s, hl, z4])
  have e2 : z4.take 0 ++ b8s l ++ z4.drop (0 + (b8s l).length) = b8s l := by
    rw [List.take_zero, List.nil_append, show (b8s l).length = 4 from by simp [b8s, hl]]
    exact List.append_nil _
  rw [e2] at b2
  obtain ⟨w2, hw2⟩ : ∃ w2, w2 = wz.setCells w1.heap.size 0 (b8s l) := ⟨_, rfl⟩
  rw [← hw2] at b2 k2
  obtain ⟨w3, hw3, k3, b3⟩ := zad_box w2
  have s1 : w1.heap.size = w.heap.size + 1 := by rw [hw1]; simp
  have s2 : w1.heap.size + 1 ≤ w2.heap.size := by have := k2.size; omega
  have kA : ∀ S, Keeps S w w2 := fun S => ⟨by omega, fun x hx hn => by rw [k2.block x (by omega) (by omega), (kz S).block x (by omega) hn, (k1 S).block x hx hn], ((k1 S).same.trans (kz S).same).trans k2.same⟩
  have kB : ∀ S, Keeps S w w3.drew := fun S => ((kA S).trans (k3 S)).drew
  have hcp : (Builtin.copy_ #[27, 27] 3 #[.slice (some ⟨w2.heap.size, 1, none⟩) 16 16, .slice (some ⟨w1.heap.size, 0, none⟩) 4 4]).run Try.prog w3.drew = .ok (goInt (b8s l).length) (w3.drew.setRow w2.heap.size (zad.toArray.toList.take 1 ++ b8s l ++ zad.toArray.toList.drop (1 + (b8s l).length)).toArray) := by
    refine run_copy_row Try.prog w3.drew 27 27 3 5 w2.heap.size 1 16 16 ⟨w1.heap.size, 0, none⟩ 4 4 zad.toArray 24 (b8s l) Try.underlying27 byte_size ?_ (by simp [b8s, hl]) ?_ (by simp [b8s, hl, zad]) (b8_one l)
    · exact Blk.keeps b3 ((Keeps.refl (fun _ => False) w3).drew) (fun z => z)
    · intro j v hj
      have hbx := Blk.keeps (Blk.keeps b2 (k3 (fun _ => False)) (fun z => z)) ((Keeps.refl (fun _ => False) w3).drew) (fun z => z)
      have := Blk.range hbx j v hj
      rw [Addr.add_lit]; exact this
  have ecs : (zad.toArray.toList.take 1 ++ b8s l ++ zad.toArray.toList.drop (1 + (b8s l).length)) = adc (ad4 l) := by
    obtain ⟨q0, q1, q2, q3, rfl⟩ := four_ hl
    rfl
  rw [ecs] at hcp
  have k4 := keeps_below_row kB (show w.heap.size ≤ w2.heap.size by omega) (adc (ad4 l)).toArray
  have b4 : Blk (w3.drew.setRow w2.heap.size (adc (ad4 l)).toArray) w2.heap.size 24 (adc (ad4 l)) := setRow_heap _ _ zad.toArray (adc (ad4 l)).toArray _ _ (Blk.keeps b3 ((Keeps.refl (fun _ => False) w3).drew) (fun z => z))
  have b5 : Blk (w3.drew.setRow w2.heap.size (adc (ad4 l)).toArray) w.heap.size 24 zad := by
    have hx : Blk w3.drew w.heap.size 24 zad := Blk.keeps (Blk.keeps (Blk.keeps (Blk.keeps b1 (kz (fun _ => False)) (fun z => z)) k2 (by omega)) (k3 (fun _ => False)) (fun z => z)) ((Keeps.refl (fun _ => False) w3).drew) (fun z => z)
    unfold Blk at hx ⊢
    rw [setRow_other _ _ _ _ (by omega)]; exact hx
  obtain ⟨w5, hw5⟩ : ∃ w5, w5 = w3.drew.setRow w2.heap.size (adc (ad4 l)).toArray := ⟨_, rfl⟩
  rw [← hw5] at hcp k4 b4 b5
  obtain ⟨t6, b6, k6⟩ := p_mid b5 0 (adc (ad4 l)) (by rw [adc_len hwf]; decide)
  have e6 : zad.take 0 ++ adc (ad4 l) ++ zad.drop (0 + (adc (ad4 l)).length) = adc (ad4 l) := by
    rw [adc_len hwf, List.take_zero, List.nil_append]
    exact List.append_nil _
  rw [e6] at b6
  have kk : ∀ S, Keeps S w (w5.setCells w.heap.size 0 (adc (ad4 l))) := fun S => ⟨Nat.le_trans (k4 S).size k6.size, fun x hx hn => by rw [k6.block x (Nat.lt_of_lt_of_le hx (k4 S).size) (by omega), (k4 S).block x hx hn], (k4 S).same.trans k6.same⟩
  have hat : (Instr.arrayAt 94 (.slice (some ⟨b, o, none⟩) 4 c)).run Try.prog w1 = .ok (.pointer (some ⟨b, o, none⟩)) w1 := by
    simp [Instr.arrayAt, run_underlying Try.underlying94]
  unfold zad at hw1 hw3
  unfold z4 at hwz
  have HR := Lib.hid hr1
  have HSZ : Hid ((Try.prog.info? 94).map (·.size) = some (b8s l).length) := Lib.hid (by rw [show (b8s l).length = 4 from by simp [b8s, hl]]; kernel_rfl)
  have HZT := Lib.hid (show (Try.prog.info? 24).map (·.size) = some (adc (ad4 l)).toArray.size from by rw [List.size_toArray]; exact ad_sz hwf)
  have HZL := Lib.hid (ad_sz hwf)
  have HOK := Lib.hid (all_oneCell_toArray (adc_one (ad4 l)))
  have HO4 : Hid (∀ v ∈ (b8s l), v.oneCell' = true) := Lib.hid (b8_one l)
  have HB4 := Lib.hid b4
  have HW := Lib.hid hw1
  have HWZ := Lib.hid hwz
  have HW2 := Lib.hid hw2
  have HW3 := Lib.hid hw3
  have HW5 := Lib.hid hw5
  have HT2 := Lib.hid t2
  have HT6 := Lib.hid t6
  have HB6 := Lib.hid b6
  have HK := Lib.hid kk
  have HCP := Lib.hid hcp
  unfold av
  rw [hw1] at hat
  clear hw1 k1 b1 hr1 t2 b2 k2 e2 kk hwf hl hs hr hb hwz kz bz sz hw2 hw3 k3 b3 s1 s2 kA kB hcp ecs k4 b4 b5 hw5 t6 b6 k6 e6
  generalize b8s l = BS at *
  generalize adc (ad4 l) = CS at *
  go_enter Try.func75, Try.ntmps75
  go_wp2_with (first
    | ((with_reducible show wpList _ _ _ (⟨some 7, _, _, _, _, _⟩ :: _) _ _); (try with_reducible rw [← HW.out]); refine wpList_load_mid rfl 94 _ rfl b o rfl BS _ HR.out Try.underlying94 rfl HSZ.out ?_)
    | ((with_reducible show wpList _ _ _ (⟨none, _, _, _, _, _⟩ :: _) _ _); (try rw [← HWZ.out]); refine' wpList_store_mid rfl 94 _ _ rfl w1.heap.size 0 BS.toArray ?hx rfl ?ht (by rw [List.size_toArray]; exact HSZ.out) (all_oneCell_toArray HO4.out) ?_; (case hx => rfl); (case ht => exact HT2.out); (try rw [← HW2.out])))
  --@1
  try rw [← HW3.out]
  refine wp_region_held_drew (S := fun _ => True) (by kernel_rfl) trivial (fun hHeld => ?_)
  refine wpAnyH_take (i := 0) (v := ?_) rfl (by kernel_rfl) (by kernel_rfl) (by kernel_rfl) (fun _ _ _ h => h) (Or.inl ⟨by kernel_rfl, ?_⟩) (by assumption) ?_
  rotate_left
  · (intro w hSw; (try dsimp only at hSw); go_simp) <;> (try (with_reducible rfl))
  try simp only [Act.put, Array.getInternal_eq_getElem, List.getElem_toArray, List.getElem_cons_zero, List.getElem_cons_succ, List.setIfInBounds_toArray, List.set_cons_zero, List.set_cons_succ]
  refine wpAnyH_take (i := 1) (v := ?_) rfl (by kernel_rfl) (by kernel_rfl) (by kernel_rfl) (fun _ _ _ h => h) (Or.inl ⟨by kernel_rfl, ?_⟩) (by assumption) ?_
  rotate_left
  · (intro w hSw; (try dsimp only at hSw); go_simp) <;> (try (with_reducible rfl))
  try simp only [Act.put, Array.getInternal_eq_getElem, List.getElem_toArray, List.getElem_cons_zero, List.getElem_cons_succ, List.setIfInBounds_toArray, List.set_cons_zero, List.set_cons_succ]
  refine wpAnyH_take (i := 2) (v := ?_) rfl (by kernel_rfl) (by kernel_rfl) (by kernel_rfl) (fun _ _ _ h => h) (Or.inl ⟨by kernel_rfl, ?_⟩) (by assumption) ?_
  rotate_left
  · (intro w hSw; (try dsimp only at hSw); go_simp) <;> (try (with_reducible rfl))
  try simp only [Act.put, Array.getInternal_eq_getElem, List.getElem_toArray, List.getElem_cons_zero, List.getElem_cons_succ, List.setIfInBounds_toArray, List.set_cons_zero, List.set_cons_succ]
  refine wpAnyH_ready (rs := [3]) (by kernel_rfl) (by simp) ?_
  refine AllReadyH.cons rfl (fun K hK => ?_) AllReadyH.nil
  (rw [if_pos (by kernel_rfl)]; simp only [Array.getInternal_eq_getElem, List.getElem_toArray, List.getElem_cons_zero, List.getElem_cons_succ]; refine wp_copy_runI _ _ _ 27 27 rfl (.slice (some ⟨w2.heap.size, 1, none⟩) 16 16) (.slice (some ⟨w1.heap.size, 0, none⟩) 4 4) rfl rfl HCP.out ?_)
  refine hK.out _ _ trivial (fun hHeld => ?_)
  clear hK K
  try simp only [Act.put, Array.getInternal_eq_getElem, List.getElem_toArray, List.getElem_cons_zero, List.getElem_cons_succ, List.setIfInBounds_toArray, List.set_cons_zero, List.set_cons_succ]
  refine wpAnyH_done ?_ ?_ _
  · kernel_rfl
  try rw [← HW5.out]
  go_wp2_with (first
    | (refine wpList_load_mid rfl 24 _ rfl w2.heap.size 0 rfl CS _ (Blk.range HB4.out) Try.underlying24 rfl HZL.out ?_)
    | (refine' wpList_store_mid rfl 24 _ _ rfl w.heap.size 0 CS.toArray ?hx rfl ?ht HZT.out HOK.out ?_; (case hx => rfl); (case ht => exact HT6.out)))
  --@2
  try rw [Exit.noGoto_ret]
  refine bodyPost_ret (results_cell_row (p := 2) (ty := 24) (by kernel_rfl) _ _ w.heap.size _ _ _ _ (by rfl) HB6.out Try.underlying24 rfl HZT.out) rfl ?_
  exact ⟨rfl, HK.out⟩
end
end Go.Proofs.Ytidengmcbppcoaa.pk
