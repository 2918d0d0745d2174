/-
  The law FlowOf, walked.
-/
import Derived.Test.YtdnddlmlbnachaaFwLn
set_option linter.unusedVariables false
set_option linter.unusedSimpArgs false
namespace Go.Proofs.Ytdnddlmlbnachaa.fw
open Go.RowKit Go.Proofs.Ytdnddlmlbnachaa.oc Go.Proofs.Ytdnddlmlbnachaa.mz Go.Proofs.Ytdnddlmlbnachaa.pf Go.Proofs.Ytdnddlmlbnachaa.wh Go.Proofs.Ytdnddlmlbnachaa.qk Go.Proofs.Ytdnddlmlbnachaa.bys
theorem kof_back (k : Ky) : kof (kback k) = kback (kof k) := by
  unfold kof kback
  simp only
  by_cases h : k.pr = 6 ∨ k.pr = 17
  · rw [if_pos h, if_pos h]
  · rw [if_neg h, if_neg h]
theorem hd_info : (Try.prog.info? 29).map (·.size) = some 43 := by kernel_rfl
theorem hd_len {k : Ky} {t : List Value} (hk : k.Wf) (ht : t.length = 6) : (kvc k ++ t).length = 43 := by rw [List.length_append, kvc_len hk, ht]
theorem put_range {w : World} {g : Nat} {k : Ky} {t : List Value} (hk : k.Wf) (h : Blk w g 29 (kvc k ++ t)) : KF w g 0 k := KF.of_range hk (fun j v hj => by
  have hl : j < (kvc k).length := (List.getElem?_eq_some_iff.1 hj).1
  rw [Nat.zero_add, h.cell, List.getElem?_append_left hl]; exact hj)
theorem put_src {w : World} {g : Nat} {k : Ky} {t : List Value} (hk : k.Wf) (h : Blk w g 29 (kvc k ++ t)) (x : Ad) (hx : x.Wf) : w.there g 0 (adc x).toArray.size ∧ Blk (w.setCells g 0 (adc x)) g 29 (kvc ⟨x, k.dst, k.pr, k.sp, k.dp⟩ ++ t) ∧ Keeps (· = g) w (w.setCells g 0 (adc x)) := by
  obtain ⟨a, b, c⟩ := over_mid h 0 (adc x) (by rw [adc_len hx, List.length_append, kvc_len hk]; omega)
  refine ⟨a, ?_, c⟩
  have e : (kvc k ++ t).take 0 ++ adc x ++ (kvc k ++ t).drop (0 + (adc x).length) = kvc ⟨x, k.dst, k.pr, k.sp, k.dp⟩ ++ t := by
    rw [adc_len hx, List.take_zero, List.nil_append, Nat.zero_add]
    show adc x ++ ((adc k.src ++ (adc k.dst ++ _)) ++ t).drop 17 = (adc x ++ (adc k.dst ++ _)) ++ t
    rw [List.append_assoc, List.drop_left' (adc_len hk.s)]
    simp
  rw [e] at b
  exact b
theorem put_dst {w : World} {g : Nat} {k : Ky} {t : List Value} (hk : k.Wf) (h : Blk w g 29 (kvc k ++ t)) (x : Ad) (hx : x.Wf) : w.there g 17 (adc x).toArray.size ∧ Blk (w.setCells g 17 (adc x)) g 29 (kvc ⟨k.src, x, k.pr, k.sp, k.dp⟩ ++ t) ∧ Keeps (· = g) w (w.setCells g 17 (adc x)) := by
  obtain ⟨a, b, c⟩ := over_mid h 17 (adc x) (by rw [adc_len hx, List.length_append, kvc_len hk]; omega)
  refine ⟨a, ?_, c⟩
  have e : (kvc k ++ t).take 17 ++ adc x ++ (kvc k ++ t).drop (17 + (adc x).length) = kvc ⟨k.src, x, k.pr, k.sp, k.dp⟩ ++ t := by
    rw [adc_len hx]
    show ((adc k.src ++ (adc k.dst ++ _)) ++ t).take 17 ++ adc x ++ ((adc k.src ++ (adc k.dst ++ _)) ++ t).drop 34 = (adc k.src ++ (adc x ++ _)) ++ t
    rw [List.append_assoc (adc k.src), List.take_left' (adc_len hk.s), List.append_assoc (adc k.dst), ← List.append_assoc (adc k.src) (adc k.dst), List.drop_left' (by rw [List.length_append, adc_len hk.s, adc_len hk.d])]
    simp
  rw [e] at b
  exact b
theorem put_cell {w : World} {g : Nat} {k : Ky} {t : List Value} (j : Nat) (u : Value) (l : List Value) (h : Blk w g 29 (kvc k ++ t)) (e : (kvc k).set j u = l) (hj : j < (kvc k).length) : Blk (w.setCell ⟨g, j, none⟩ u) g 29 (l ++ t) ∧ Keeps (· = g) w (w.setCell ⟨g, j, none⟩ u) ∧ w.frozen? ⟨g, j, none⟩ = false := by
  refine ⟨?_, (Keeps.refl (· = g) w).setCell (p := ⟨g, j, none⟩) (.inl rfl) _, h.frozen j⟩
  have := h.put j u
  rw [List.set_append_left _ _ hj, e] at this
  exact this
theorem kvc_set_pr {k : Ky} (h : k.Wf) (x : Nat) : (kvc k).set 34 (.int .u8 (x : Int)) = kvc ⟨k.src, k.dst, x, k.sp, k.dp⟩ := by
  unfold kvc
  rw [List.set_append_right _ _ (by rw [adc_len h.s]; omega), adc_len h.s, List.set_append_right _ _ (by rw [adc_len h.d]; omega), adc_len h.d]; rfl
theorem glue_new {w wa wb : World} {g : Nat} (hg : w.heap.size ≤ g) (k : ∀ S, Keeps S w wa) (h : Keeps (· = g) wa wb) : ∀ S, Keeps S w wb := fun S => by
  have q := (k (fun x => w.heap.size ≤ x)).trans (h.mono (S' := fun x => w.heap.size ≤ x) (fun x _ e => by omega))
  exact (q.only (fun b hb => hb)).mono (fun _ _ z => z.elim)
theorem copy_hdr (w4 : World) (k : Ky) (t : List Value) (hk : k.Wf) (ht : t.length = 6) : ∃ w5, w5 = (w4.alloc (.cells #[.bool false, .int .u8 0, .int .u8 0, .int .u8 0, .int .u8 0, .int .u8 0, .int .u8 0, .int .u8 0, .int .u8 0, .int .u8 0, .int .u8 0, .int .u8 0, .int .u8 0, .int .u8 0, .int .u8 0, .int .u8 0, .int .u8 0, .bool false, .int .u8 0, .int .u8 0, .int .u8 0, .int .u8 0, .int .u8 0, .int .u8 0, .int .u8 0, .int .u8 0, .int .u8 0, .int .u8 0, .int .u8 0, .int .u8 0, .int .u8 0, .int .u8 0, .int .u8 0, .int .u8 0, .int .u8 0, .int .u16 0, .int .u16 0, .int .u8 0, .int .u8 0, .int .u32 0, .int .u8 0, .int .u32 0, .slice none 0 0] 29)).setCells w4.heap.size 0 (kvc k ++ t) ∧ (w4.alloc (.cells #[.bool false, .int .u8 0, .int .u8 0, .int .u8 0, .int .u8 0, .int .u8 0, .int .u8 0, .int .u8 0, .int .u8 0, .int .u8 0, .int .u8 0, .int .u8 0, .int .u8 0, .int .u8 0, .int .u8 0, .int .u8 0, .int .u8 0, .bool false, .int .u8 0, .int .u8 0, .int .u8 0, .int .u8 0, .int .u8 0, .int .u8 0, .int .u8 0, .int .u8 0, .int .u8 0, .int .u8 0, .int .u8 0, .int .u8 0, .int .u8 0, .int .u8 0, .int .u8 0, .int .u8 0, .int .u8 0, .int .u16 0, .int .u16 0, .int .u8 0, .int .u8 0, .int .u32 0, .int .u8 0, .int .u32 0, .slice none 0 0] 29)).there w4.heap.size 0 (kvc k ++ t).toArray.size ∧ Blk w5 w4.heap.size 29 (kvc k ++ t) ∧ ∀ S, Keeps S w4 w5 := by
  have b := Blk.new w4 29 #[.bool false, .int .u8 0, .int .u8 0, .int .u8 0, .int .u8 0, .int .u8 0, .int .u8 0, .int .u8 0, .int .u8 0, .int .u8 0, .int .u8 0, .int .u8 0, .int .u8 0, .int .u8 0, .int .u8 0, .int .u8 0, .int .u8 0, .bool false, .int .u8 0, .int .u8 0, .int .u8 0, .int .u8 0, .int .u8 0, .int .u8 0, .int .u8 0, .int .u8 0, .int .u8 0, .int .u8 0, .int .u8 0, .int .u8 0, .int .u8 0, .int .u8 0, .int .u8 0, .int .u8 0, .int .u8 0, .int .u16 0, .int .u16 0, .int .u8 0, .int .u8 0, .int .u32 0, .int .u8 0, .int .u32 0, .slice none 0 0]
  obtain ⟨a, b', c⟩ := over_mid b 0 (kvc k ++ t) (by rw [hd_len hk ht]; decide)
  rw [hd_len hk ht, List.take_zero, List.nil_append, List.drop_of_length_le (by decide), List.append_nil] at b'
  exact ⟨_, rfl, a, b', glue_new (Nat.le_refl _) (fun S => (Keeps.refl S w4).alloc _) c⟩
theorem copy_key (w4 : World) (C : List Value) (hC : C.length = 37) : ∃ w5, w5 = (w4.alloc (.cells #[.bool false, .int .u8 0, .int .u8 0, .int .u8 0, .int .u8 0, .int .u8 0, .int .u8 0, .int .u8 0, .int .u8 0, .int .u8 0, .int .u8 0, .int .u8 0, .int .u8 0, .int .u8 0, .int .u8 0, .int .u8 0, .int .u8 0, .bool false, .int .u8 0, .int .u8 0, .int .u8 0, .int .u8 0, .int .u8 0, .int .u8 0, .int .u8 0, .int .u8 0, .int .u8 0, .int .u8 0, .int .u8 0, .int .u8 0, .int .u8 0, .int .u8 0, .int .u8 0, .int .u8 0, .int .u8 0, .int .u16 0, .int .u16 0] 31)).setCells w4.heap.size 0 C ∧ (w4.alloc (.cells #[.bool false, .int .u8 0, .int .u8 0, .int .u8 0, .int .u8 0, .int .u8 0, .int .u8 0, .int .u8 0, .int .u8 0, .int .u8 0, .int .u8 0, .int .u8 0, .int .u8 0, .int .u8 0, .int .u8 0, .int .u8 0, .int .u8 0, .bool false, .int .u8 0, .int .u8 0, .int .u8 0, .int .u8 0, .int .u8 0, .int .u8 0, .int .u8 0, .int .u8 0, .int .u8 0, .int .u8 0, .int .u8 0, .int .u8 0, .int .u8 0, .int .u8 0, .int .u8 0, .int .u8 0, .int .u8 0, .int .u16 0, .int .u16 0] 31)).there w4.heap.size 0 C.toArray.size ∧ Blk w5 w4.heap.size 31 C ∧ ∀ S, Keeps S w4 w5 := by
  have b := Blk.new w4 31 #[.bool false, .int .u8 0, .int .u8 0, .int .u8 0, .int .u8 0, .int .u8 0, .int .u8 0, .int .u8 0, .int .u8 0, .int .u8 0, .int .u8 0, .int .u8 0, .int .u8 0, .int .u8 0, .int .u8 0, .int .u8 0, .int .u8 0, .bool false, .int .u8 0, .int .u8 0, .int .u8 0, .int .u8 0, .int .u8 0, .int .u8 0, .int .u8 0, .int .u8 0, .int .u8 0, .int .u8 0, .int .u8 0, .int .u8 0, .int .u8 0, .int .u8 0, .int .u8 0, .int .u8 0, .int .u8 0, .int .u16 0, .int .u16 0]
  obtain ⟨a, b', c⟩ := over_mid b 0 C (by rw [hC]; decide)
  rw [hC, List.take_zero, List.nil_append, List.drop_of_length_le (by decide), List.append_nil] at b'
  exact ⟨_, rfl, a, b', glue_new (Nat.le_refl _) (fun S => (Keeps.refl S w4).alloc _) c⟩
/-- the header turned about -/
theorem turned_world (w4 : World) (k : Ky) (t : List Value) (hk : k.Wf) (ht : t.length = 6) : ∃ w5 w6 w7 w7a w8, w5 = (w4.alloc (.cells #[.bool false, .int .u8 0, .int .u8 0, .int .u8 0, .int .u8 0, .int .u8 0, .int .u8 0, .int .u8 0, .int .u8 0, .int .u8 0, .int .u8 0, .int .u8 0, .int .u8 0, .int .u8 0, .int .u8 0, .int .u8 0, .int .u8 0, .bool false, .int .u8 0, .int .u8 0, .int .u8 0, .int .u8 0, .int .u8 0, .int .u8 0, .int .u8 0, .int .u8 0, .int .u8 0, .int .u8 0, .int .u8 0, .int .u8 0, .int .u8 0, .int .u8 0, .int .u8 0, .int .u8 0, .int .u8 0, .int .u16 0, .int .u16 0, .int .u8 0, .int .u8 0, .int .u32 0, .int .u8 0, .int .u32 0, .slice none 0 0] 29)).setCells w4.heap.size 0 (kvc k ++ t) ∧ w6 = w5.setCells w4.heap.size 0 (adc k.dst) ∧ w7 = w6.setCells w4.heap.size 17 (adc k.src) ∧ w7a = (w7.setCell ⟨w4.heap.size, 35, none⟩ (.int .u16 (k.dp : Int))) ∧ w8 = (w7a.setCell ⟨w4.heap.size, 36, none⟩ (.int .u16 (k.sp : Int))) ∧
    (w4.alloc (.cells #[.bool false, .int .u8 0, .int .u8 0, .int .u8 0, .int .u8 0, .int .u8 0, .int .u8 0, .int .u8 0, .int .u8 0, .int .u8 0, .int .u8 0, .int .u8 0, .int .u8 0, .int .u8 0, .int .u8 0, .int .u8 0, .int .u8 0, .bool false, .int .u8 0, .int .u8 0, .int .u8 0, .int .u8 0, .int .u8 0, .int .u8 0, .int .u8 0, .int .u8 0, .int .u8 0, .int .u8 0, .int .u8 0, .int .u8 0, .int .u8 0, .int .u8 0, .int .u8 0, .int .u8 0, .int .u8 0, .int .u16 0, .int .u16 0, .int .u8 0, .int .u8 0, .int .u32 0, .int .u8 0, .int .u32 0, .slice none 0 0] 29)).there w4.heap.size 0 (kvc k ++ t).toArray.size ∧ w5.there w4.heap.size 0 (adc k.dst).toArray.size ∧ w6.there w4.heap.size 17 (adc k.src).toArray.size ∧
    (w7.cell? ⟨w4.heap.size, 35, none⟩ = some (.int .u16 (k.sp : Int)) ∧ w7.frozen? ⟨w4.heap.size, 35, none⟩ = false ∧ w7a.cell? ⟨w4.heap.size, 36, none⟩ = some (.int .u16 (k.dp : Int)) ∧ w7a.frozen? ⟨w4.heap.size, 36, none⟩ = false) ∧
    Blk w8 w4.heap.size 29 (kvc (kback k) ++ t) ∧ (∀ S, Keeps S w4 w5) ∧ (∀ S, Keeps S w4 w6) ∧ (∀ S, Keeps S w4 w7) ∧ (∀ S, Keeps S w4 w7a) ∧ (∀ S, Keeps S w4 w8) := by
  obtain ⟨w5, h5, t5, b5, k5⟩ := copy_hdr w4 k t hk ht
  obtain ⟨t6, b6, k6⟩ := put_src hk b5 k.dst hk.d
  have hk6 : (⟨k.dst, k.dst, k.pr, k.sp, k.dp⟩ : Ky).Wf := ⟨hk.d, hk.d, hk.p, hk.sl, hk.dl⟩
  obtain ⟨t7, b7, k7⟩ := put_dst hk6 b6 k.src hk.s
  have hk7 : (⟨k.dst, k.src, k.pr, k.sp, k.dp⟩ : Ky).Wf := ⟨hk.d, hk.s, hk.p, hk.sl, hk.dl⟩
  have c35 := (put_range hk7 b7).sp
  obtain ⟨b8, k8, f8⟩ := put_cell 35 (.int .u16 (k.dp : Int)) _ b7 (kvc_set_sp hk7 k.dp) (by rw [kvc_len hk7]; omega)
  have hk8 : (⟨k.dst, k.src, k.pr, k.dp, k.dp⟩ : Ky).Wf := ⟨hk.d, hk.s, hk.p, hk.dl, hk.dl⟩
  have c36 := (put_range hk8 b8).dp
  obtain ⟨b9, k9, f9⟩ := put_cell 36 (.int .u16 (k.sp : Int)) _ b8 (kvc_set_dp hk8 k.sp) (by rw [kvc_len hk8]; omega)
  rw [Nat.zero_add] at c35 c36
  have q6 := glue_new (Nat.le_refl _) k5 k6
  have q7 := glue_new (Nat.le_refl _) q6 k7
  have q8 := glue_new (Nat.le_refl _) q7 k8
  exact ⟨w5, _, _, _, _, h5, rfl, rfl, rfl, rfl, t5, t6, t7, ⟨c35, f8, c36, f9⟩, b9, k5, q6, q7, q8, glue_new (Nat.le_refl _) q8 k9⟩
/-- another header with this one's key -/
theorem mixed_world (w8 : World) (k k2 : Ky) (t : List Value) (hk : k.Wf) (hk2 : k2.Wf) (ht : t.length = 6) : ∃ w9 w10 w11 w11a w11b w12, w9 = (w8.alloc (.cells #[.bool false, .int .u8 0, .int .u8 0, .int .u8 0, .int .u8 0, .int .u8 0, .int .u8 0, .int .u8 0, .int .u8 0, .int .u8 0, .int .u8 0, .int .u8 0, .int .u8 0, .int .u8 0, .int .u8 0, .int .u8 0, .int .u8 0, .bool false, .int .u8 0, .int .u8 0, .int .u8 0, .int .u8 0, .int .u8 0, .int .u8 0, .int .u8 0, .int .u8 0, .int .u8 0, .int .u8 0, .int .u8 0, .int .u8 0, .int .u8 0, .int .u8 0, .int .u8 0, .int .u8 0, .int .u8 0, .int .u16 0, .int .u16 0, .int .u8 0, .int .u8 0, .int .u32 0, .int .u8 0, .int .u32 0, .slice none 0 0] 29)).setCells w8.heap.size 0 (kvc k2 ++ t) ∧ w10 = w9.setCells w8.heap.size 0 (adc k.src) ∧ w11 = w10.setCells w8.heap.size 17 (adc k.dst) ∧ w11a = (w11.setCell ⟨w8.heap.size, 34, none⟩ (.int .u8 (k.pr : Int))) ∧ w11b = (w11a.setCell ⟨w8.heap.size, 35, none⟩ (.int .u16 (k.sp : Int))) ∧ w12 = (w11b.setCell ⟨w8.heap.size, 36, none⟩ (.int .u16 (k.dp : Int))) ∧
    (w8.alloc (.cells #[.bool false, .int .u8 0, .int .u8 0, .int .u8 0, .int .u8 0, .int .u8 0, .int .u8 0, .int .u8 0, .int .u8 0, .int .u8 0, .int .u8 0, .int .u8 0, .int .u8 0, .int .u8 0, .int .u8 0, .int .u8 0, .int .u8 0, .bool false, .int .u8 0, .int .u8 0, .int .u8 0, .int .u8 0, .int .u8 0, .int .u8 0, .int .u8 0, .int .u8 0, .int .u8 0, .int .u8 0, .int .u8 0, .int .u8 0, .int .u8 0, .int .u8 0, .int .u8 0, .int .u8 0, .int .u8 0, .int .u16 0, .int .u16 0, .int .u8 0, .int .u8 0, .int .u32 0, .int .u8 0, .int .u32 0, .slice none 0 0] 29)).there w8.heap.size 0 (kvc k2 ++ t).toArray.size ∧ w9.there w8.heap.size 0 (adc k.src).toArray.size ∧ w10.there w8.heap.size 17 (adc k.dst).toArray.size ∧
    (w11.cell? ⟨w8.heap.size, 34, none⟩ = some (.int .u8 (k2.pr : Int)) ∧ w11.frozen? ⟨w8.heap.size, 34, none⟩ = false ∧ w11a.cell? ⟨w8.heap.size, 35, none⟩ = some (.int .u16 (k2.sp : Int)) ∧ w11a.frozen? ⟨w8.heap.size, 35, none⟩ = false ∧ w11b.cell? ⟨w8.heap.size, 36, none⟩ = some (.int .u16 (k2.dp : Int)) ∧ w11b.frozen? ⟨w8.heap.size, 36, none⟩ = false) ∧
    Blk w12 w8.heap.size 29 (kvc k ++ t) ∧ (∀ S, Keeps S w8 w9) ∧ (∀ S, Keeps S w8 w10) ∧ (∀ S, Keeps S w8 w11) ∧ (∀ S, Keeps S w8 w11a) ∧ (∀ S, Keeps S w8 w11b) ∧ (∀ S, Keeps S w8 w12) := by
  obtain ⟨w5, h5, t5, b5, k5⟩ := copy_hdr w8 k2 t hk2 ht
  obtain ⟨t6, b6, k6⟩ := put_src hk2 b5 k.src hk.s
  have hk6 : (⟨k.src, k2.dst, k2.pr, k2.sp, k2.dp⟩ : Ky).Wf := ⟨hk.s, hk2.d, hk2.p, hk2.sl, hk2.dl⟩
  obtain ⟨t7, b7, k7⟩ := put_dst hk6 b6 k.dst hk.d
  have hk7 : (⟨k.src, k.dst, k2.pr, k2.sp, k2.dp⟩ : Ky).Wf := ⟨hk.s, hk.d, hk2.p, hk2.sl, hk2.dl⟩
  have c34 := (put_range hk7 b7).pr
  obtain ⟨b8, k8, f8⟩ := put_cell 34 (.int .u8 (k.pr : Int)) _ b7 (kvc_set_pr hk7 k.pr) (by rw [kvc_len hk7]; omega)
  have hk8 : (⟨k.src, k.dst, k.pr, k2.sp, k2.dp⟩ : Ky).Wf := ⟨hk.s, hk.d, hk.p, hk2.sl, hk2.dl⟩
  have c35 := (put_range hk8 b8).sp
  obtain ⟨b9, k9, f9⟩ := put_cell 35 (.int .u16 (k.sp : Int)) _ b8 (kvc_set_sp hk8 k.sp) (by rw [kvc_len hk8]; omega)
  have hk9 : (⟨k.src, k.dst, k.pr, k.sp, k2.dp⟩ : Ky).Wf := ⟨hk.s, hk.d, hk.p, hk.sl, hk2.dl⟩
  have c36 := (put_range hk9 b9).dp
  obtain ⟨ba, ka, fa⟩ := put_cell 36 (.int .u16 (k.dp : Int)) _ b9 (kvc_set_dp hk9 k.dp) (by rw [kvc_len hk9]; omega)
  rw [Nat.zero_add] at c34 c35 c36
  have q6 := glue_new (Nat.le_refl _) k5 k6
  have q7 := glue_new (Nat.le_refl _) q6 k7
  have q8 := glue_new (Nat.le_refl _) q7 k8
  have q9 := glue_new (Nat.le_refl _) q8 k9
  exact ⟨w5, _, _, _, _, _, h5, rfl, rfl, rfl, rfl, rfl, t5, t6, t7, ⟨c34, f8, c35, f9, c36, fa⟩, ba, k5, q6, q7, q8, q9, glue_new (Nat.le_refl _) q9 ka⟩
set_option maxRecDepth 100000 in
set_option maxHeartbeats 8000000 in
theorem walk_flowOf (w : World) (k : Ky) (t : List Value) (hk : k.Wf) (ht : t.length = 6) (h1 : ∀ u ∈ t, u.oneCell' = true) (k2 : Ky) (t2 : List Value) (hk2 : k2.Wf) (ht2 : t2.length = 6) (h12 : ∀ u ∈ t2, u.oneCell' = true) :
    Calls Try.prog 3 #[hv k t, hv k2 t2] w fun e w' => e = .returned (.bool true) ∧ Below w.heap.size w w' := by
  obtain ⟨w1, hw1, kk1, b0, b1, s1⟩ := box2 w (kvc k ++ t) (kvc k2 ++ t2) 29 29
  have HSH := Lib.hid (show (Try.prog.info? 29).map (·.size) = some (kvc k ++ t).length from by rw [hd_len hk ht]; exact hd_info)
  have HSH2 := Lib.hid (show (Try.prog.info? 29).map (·.size) = some (kvc k2 ++ t2).length from by rw [hd_len hk2 ht2]; exact hd_info)
  have HST := Lib.hid (show (Try.prog.info? 29).map (·.size) = some (kvc (kback k) ++ t).length from by rw [hd_len hk.back ht]; exact hd_info)
  have HSM := Lib.hid (show (Try.prog.info? 29).map (·.size) = some (kvc k ++ t2).length from by rw [hd_len hk ht2]; exact hd_info)
  have HZH := Lib.hid (show (Try.prog.info? 29).map (·.size) = some (kvc k ++ t).toArray.size from by rw [List.size_toArray, hd_len hk ht]; exact hd_info)
  have HZH2 := Lib.hid (show (Try.prog.info? 29).map (·.size) = some (kvc k2 ++ t2).toArray.size from by rw [List.size_toArray, hd_len hk2 ht2]; exact hd_info)
  have HOH := Lib.hid (all_oneCell_toArray (show ∀ v ∈ kvc k ++ t, v.oneCell' = true from fun v hv => (List.mem_append.1 hv).elim (kvc_one k v) (h1 v)))
  have HOH2 := Lib.hid (all_oneCell_toArray (show ∀ v ∈ kvc k2 ++ t2, v.oneCell' = true from fun v hv => (List.mem_append.1 hv).elim (kvc_one k2 v) (h12 v)))
  have hko := kof_wf hk
  have HSK := Lib.hid (key_sz hko)
  have HLK := Lib.hid (kvc_len hko)
  have HZK := Lib.hid (show (Try.prog.info? 31).map (·.size) = some (kvc (kof k)).toArray.size from by rw [List.size_toArray]; exact key_sz hko)
  have HOK := Lib.hid (all_oneCell_toArray (kvc_one (kof k)))
  have HZS := Lib.hid (ad_sz hk.s)
  have HZD := Lib.hid (ad_sz hk.d)
  have HZS' := Lib.hid (show (Try.prog.info? 24).map (·.size) = some (adc k.src).toArray.size from by rw [List.size_toArray]; exact ad_sz hk.s)
  have HZD' := Lib.hid (show (Try.prog.info? 24).map (·.size) = some (adc k.dst).toArray.size from by rw [List.size_toArray]; exact ad_sz hk.d)
  have HOS := Lib.hid (all_oneCell_toArray (adc_one k.src))
  have HOD := Lib.hid (all_oneCell_toArray (adc_one k.dst))
  have HR := fun w => Lib.hid (rof_ w k t hk)
  have HO := fun w => Lib.hid (pof_ w k t hk)
  have HB := fun w => Lib.hid (pback_ w (kof k) hko)
  have HRB := fun w => Lib.hid (rback_ w (kof k) hko)
  have HOT := fun w => Lib.hid (pof_ w (kback k) t hk.back)
  rw [kof_back] at HOT
  have HOM := fun w => Lib.hid (pof_ w k t2 hk)
  have HE := fun w => Lib.hid (awake_ w)
  have HNE := fun w => key_neq (kof k) (kof k) hko hko w
  have HNB := fun w => key_neq (kback (kof k)) (kback (kof k)) hko.back hko.back w
  have HEK := fun w => key_eql (kof k) (kof k) hko hko w
  have HEB := fun w => key_eql (kback (kof k)) (kback (kof k)) hko.back hko.back w
  rw [decide_eq_true rfl] at HNE HNB HEK HEB
  simp only [Bool.not_true] at HNE HNB
  have HK := Lib.hid (And.intro hk (And.intro hk2 hko))
  have HT := Lib.hid (And.intro ht ht2)
  have HB0 := Lib.hid b0
  have HB1 := Lib.hid b1
  have HW := Lib.hid hw1
  have K1 : Hid (∀ S, Keeps S w w1) := Lib.hid kk1
  unfold kv at HR HO HB HRB HOT HOM HNE HNB HEK HEB
  unfold hv at HR HO HOT HOM ⊢
  clear hw1 kk1 b0 b1 s1 hk hk2 ht ht2 h1 h12 hko
  have TW := fun w4 => Lib.hid (turned_world w4 k t HK.out.1 HT.out.1)
  have MW := fun w8 => Lib.hid (mixed_world w8 k k2 t2 HK.out.1 HK.out.2.1 HT.out.2)
  have HKF : Hid (∀ wq, Keeps (fun _ => False) w1 wq → KF wq w.heap.size 0 k) := Lib.hid (fun wq kq => (put_range HK.out.1 HB0.out).keeps HK.out.1 kq (fun z => z))
  generalize kvc k ++ t = CH at *
  generalize kvc k2 ++ t2 = CH2 at *
  generalize kvc (kback k) ++ t = CT at *
  generalize kvc k ++ t2 = CM at *
  generalize kvc (kof k) = CK at *
  generalize kvc (kback (kof k)) = CB at *
  go_enter Try.func3, Try.ntmps3
  go_wp2_with (first | (with_reducible rw [← HW.out]; refine wpList_load_mid rfl 29 _ rfl w.heap.size 0 rfl (CH) _ (Blk.range HB0.out) Try.underlying29 rfl HSH.out ?_))
  refine (HR _).out.mono ?_
  rintro e w2 ⟨rfl, q2⟩
  have HB02 := Lib.hid (Blk.keeps HB0.out (q2 (fun _ => False)) (fun z => z))
  have HB12 := Lib.hid (Blk.keeps HB1.out (q2 (fun _ => False)) (fun z => z))
  obtain ⟨w3, h3, t3, b3, q3⟩ := copy_key w2 CK HLK.out
  have HT3 := Lib.hid t3
  have HW3 := Lib.hid h3
  have HBK := Lib.hid b3
  have Q3 : Hid (∀ S, Keeps S w1 w3) := Lib.hid (fun S => (q2 S).trans (q3 S))
  have HFH := fun (wq : World) (hC : Old w3 wq) => Blk.range (hC.blk (Blk.keeps HB02.out (q3 (fun _ => False)) (fun z => z)))
  have HFK := fun (wq : World) (hC : Old w3 wq) => Blk.range (hC.blk HBK.out)
  clear q2 h3 t3 b3 q3
  go_wp2_with (refine' wpList_store_mid rfl 31 _ _ rfl w2.heap.size 0 (CK).toArray ?hx rfl ?ht HZK.out HOK.out ?_; (case hx => rfl); (case ht => exact HT3.out); rw [← HW3.out])
  refine q_region (by kernel_rfl) (by kernel_rfl) (Old.refl w3) ?_
  --@0
  refine q_load (by kernel_rfl) 29 _ rfl w.heap.size 0 rfl CH _ (fun wq hC => HFH wq hC) Try.underlying29 rfl HSH.out ?_
  try simp only [Act.put, Array.getInternal_eq_getElem, List.getElem_toArray, List.getElem_cons_zero, List.getElem_cons_succ, List.setIfInBounds_toArray, List.set_cons_zero, List.set_cons_succ]
  --@1
  refine q_call (by kernel_rfl) (fun wq hC => old_call hC (HO wq).out) (fun wq => ?_) ?_
  · go_simp <;> (try (with_reducible rfl))
  try simp only [Act.put, Array.getInternal_eq_getElem, List.getElem_toArray, List.getElem_cons_zero, List.getElem_cons_succ, List.setIfInBounds_toArray, List.set_cons_zero, List.set_cons_succ]
  --@2
  refine q_load (by kernel_rfl) 31 _ rfl w2.heap.size 0 rfl CK _ (fun wq hC => HFK wq hC) Try.underlying31 rfl HSK.out ?_
  try simp only [Act.put, Array.getInternal_eq_getElem, List.getElem_toArray, List.getElem_cons_zero, List.getElem_cons_succ, List.setIfInBounds_toArray, List.set_cons_zero, List.set_cons_succ]
  --@3
  refine q_any (by kernel_rfl) ?_ (fun wq hC => ?_) ?_
  rotate_left
  · (have hz := HNE wq; go_simp) <;> (try (with_reducible rfl))
  try simp only [Act.put, Array.getInternal_eq_getElem, List.getElem_toArray, List.getElem_cons_zero, List.getElem_cons_succ, List.setIfInBounds_toArray, List.set_cons_zero, List.set_cons_succ]
  --@4
  refine q_any (by kernel_rfl) ?_ (fun wq hC => ?_) ?_
  rotate_left
  · (go_simp) <;> (try (with_reducible rfl))
  try simp only [Act.put, Array.getInternal_eq_getElem, List.getElem_toArray, List.getElem_cons_zero, List.getElem_cons_succ, List.setIfInBounds_toArray, List.set_cons_zero, List.set_cons_succ]
  --@5
  refine q_load (by kernel_rfl) 31 _ rfl w2.heap.size 0 rfl CK _ (fun wq hC => HFK wq hC) Try.underlying31 rfl HSK.out ?_
  try simp only [Act.put, Array.getInternal_eq_getElem, List.getElem_toArray, List.getElem_cons_zero, List.getElem_cons_succ, List.setIfInBounds_toArray, List.set_cons_zero, List.set_cons_succ]
  --@6
  refine q_call (by kernel_rfl) (fun wq hC => old_call hC (HB wq).out) (fun wq => ?_) ?_
  · go_simp <;> (try (with_reducible rfl))
  try simp only [Act.put, Array.getInternal_eq_getElem, List.getElem_toArray, List.getElem_cons_zero, List.getElem_cons_succ, List.setIfInBounds_toArray, List.set_cons_zero, List.set_cons_succ]
  --@7
  refine q_load (by kernel_rfl) 31 _ rfl w2.heap.size 0 rfl CK _ (fun wq hC => HFK wq hC) Try.underlying31 rfl HSK.out ?_
  try simp only [Act.put, Array.getInternal_eq_getElem, List.getElem_toArray, List.getElem_cons_zero, List.getElem_cons_succ, List.setIfInBounds_toArray, List.set_cons_zero, List.set_cons_succ]
  --@8
  refine q_call (by kernel_rfl) (fun wq hC => old_call hC (HRB wq).out) (fun wq => ?_) ?_
  · go_simp <;> (try (with_reducible rfl))
  try simp only [Act.put, Array.getInternal_eq_getElem, List.getElem_toArray, List.getElem_cons_zero, List.getElem_cons_succ, List.setIfInBounds_toArray, List.set_cons_zero, List.set_cons_succ]
  --@9
  refine q_any (by kernel_rfl) ?_ (fun wq hC => ?_) ?_
  rotate_left
  · (have hz := HNB wq; go_simp) <;> (try (with_reducible rfl))
  try simp only [Act.put, Array.getInternal_eq_getElem, List.getElem_toArray, List.getElem_cons_zero, List.getElem_cons_succ, List.setIfInBounds_toArray, List.set_cons_zero, List.set_cons_succ]
  --@10
  refine q_any (by kernel_rfl) ?_ (fun wq hC => ?_) ?_
  rotate_left
  · (go_simp) <;> (try (with_reducible rfl))
  try simp only [Act.put, Array.getInternal_eq_getElem, List.getElem_toArray, List.getElem_cons_zero, List.getElem_cons_succ, List.setIfInBounds_toArray, List.set_cons_zero, List.set_cons_succ]
  refine q_nil ?_
  intro w4 kw4
  clear HFH HFK HR HO HB HNE HNB
  have Q4 : Hid (∀ S, Keeps S w1 w4) := Lib.hid (fun S => (Q3.out S).trans (kw4.all S))
  have HBK4 := Lib.hid (kw4.blk HBK.out)
  have HB04 := Lib.hid (Blk.keeps HB0.out (Q4.out (fun _ => False)) (fun z => z))
  have HB14 := Lib.hid (Blk.keeps HB1.out (Q4.out (fun _ => False)) (fun z => z))
  obtain ⟨w5, w6, w7, w7a, w8, h5, h6, h7, h7a, h8, t5, t6, t7, ⟨c35, f35, c36, f36⟩, b8, p5, p6, p7, p7a, p8⟩ := (TW w4).out
  have HW5 := Lib.hid h5
  have HW6 := Lib.hid h6
  have HW7 := Lib.hid h7
  have HW8 : Hid (w8 = ((w7.setCell ⟨w4.heap.size, 35, none⟩ (.int .u16 (k.dp : Int))).setCell ⟨w4.heap.size, 36, none⟩ (.int .u16 (k.sp : Int)))) := Lib.hid (by rw [h8, h7a])
  have HT5 := Lib.hid (And.intro t5 (And.intro t6 t7))
  have HBT := Lib.hid b8
  have x1 := (HKF.out w7 ((Q4.out _).trans (p7 _))).dp
  have x2 := (HKF.out w7a ((Q4.out _).trans (p7a _))).sp
  have HF5 := Lib.hid (HKF.out w5 ((Q4.out _).trans (p5 _))).dst
  have HF6 := Lib.hid (HKF.out w6 ((Q4.out _).trans (p6 _))).src
  rw [Nat.zero_add] at x1 x2
  rw [h7a] at c36 f36 x2
  have Q8 : Hid (∀ S, Keeps S w1 w8) := Lib.hid (fun S => (Q4.out S).trans (p8 S))
  have HBK8 := Lib.hid (Blk.keeps HBK4.out (p8 (fun _ => False)) (fun z => z))
  have HB18 := Lib.hid (Blk.keeps HB14.out (p8 (fun _ => False)) (fun z => z))
  clear h5 h6 h7 h8 h7a t5 t6 t7 b8 p5 p6 p7 p7a p8 TW
  obtain ⟨w9, w10, w11, w11a, w11b, w12, h9, h10, h11, h11a, h11b, h12, t9, t10, t11, ⟨c34, f34, d35, g35, d36, g36⟩, b12, p9, p10, p11, p11a, p11b, p12⟩ := (MW w8).out
  have HW9 := Lib.hid h9
  have HW10 := Lib.hid h10
  have HW11 := Lib.hid h11
  have HW12 : Hid (w12 = (((w11.setCell ⟨w8.heap.size, 34, none⟩ (.int .u8 (k.pr : Int))).setCell ⟨w8.heap.size, 35, none⟩ (.int .u16 (k.sp : Int))).setCell ⟨w8.heap.size, 36, none⟩ (.int .u16 (k.dp : Int)))) := Lib.hid (by rw [h12, h11b, h11a])
  have HT9 := Lib.hid (And.intro t9 (And.intro t10 t11))
  have HBM := Lib.hid b12
  have y1 := (HKF.out w11 ((Q8.out _).trans (p11 _))).pr
  have y2 := (HKF.out w11a ((Q8.out _).trans (p11a _))).sp
  have y3 := (HKF.out w11b ((Q8.out _).trans (p11b _))).dp
  have HF9 := Lib.hid (HKF.out w9 ((Q8.out _).trans (p9 _))).src
  have HF10 := Lib.hid (HKF.out w10 ((Q8.out _).trans (p10 _))).dst
  rw [Nat.zero_add] at y1 y2 y3
  rw [h11b] at y3 d36 g36
  rw [h11a] at y2 d35 g35 y3 d36 g36
  have Q12 : Hid (∀ S, Keeps S w1 w12) := Lib.hid (fun S => (Q8.out S).trans (p12 S))
  have HFT := fun (wq : World) (hC : Old w12 wq) => Blk.range (hC.blk (Blk.keeps HBT.out (p12 (fun _ => False)) (fun z => z)))
  have HFM := fun (wq : World) (hC : Old w12 wq) => Blk.range (hC.blk HBM.out)
  have HFK2 := fun (wq : World) (hC : Old w12 wq) => Blk.range (hC.blk (Blk.keeps HBK8.out (p12 (fun _ => False)) (fun z => z)))
  clear h9 h10 h11 h12 h11a h11b t9 t10 t11 b12 p9 p10 p11 p11a p11b p12 MW
  go_wp2_with (first
    | (refine wpList_load_mid rfl 29 _ rfl w.heap.size 0 rfl (CH) _ (Blk.range HB04.out) Try.underlying29 rfl HSH.out ?_)
    | (refine' wpList_store_mid rfl 29 _ _ rfl w4.heap.size 0 (CH).toArray ?hx rfl ?ht HZH.out HOH.out ?_; (case hx => rfl); (case ht => exact HT5.out.1); rw [← HW5.out])
    | (refine wpList_load_mid rfl 24 _ rfl w.heap.size 17 rfl (adc k.dst) _ HF5.out Try.underlying24 rfl HZD.out ?_)
    | (refine' wpList_store_mid rfl 24 _ _ rfl w4.heap.size 0 (adc k.dst).toArray ?hx rfl ?ht HZD'.out HOD.out ?_; (case hx => rfl); (case ht => exact HT5.out.2.1); rw [← HW6.out])
    | (refine wpList_load_mid rfl 24 _ rfl w.heap.size 0 rfl (adc k.src) _ HF6.out Try.underlying24 rfl HZS.out ?_)
    | (refine' wpList_store_mid rfl 24 _ _ rfl w4.heap.size 17 (adc k.src).toArray ?hx rfl ?ht HZS'.out HOS.out ?_; (case hx => rfl); (case ht => exact HT5.out.2.2); rw [← HW7.out])
    | ((try with_reducible rw [← HW8.out]); refine wpList_load_mid rfl 29 _ rfl (w.heap.size + 1) 0 rfl (CH2) _ (Blk.range HB18.out) Try.underlying29 rfl HSH2.out ?_)
    | (refine' wpList_store_mid rfl 29 _ _ rfl w8.heap.size 0 (CH2).toArray ?hx rfl ?ht HZH2.out HOH2.out ?_; (case hx => rfl); (case ht => exact HT9.out.1); rw [← HW9.out])
    | (refine wpList_load_mid rfl 24 _ rfl w.heap.size 0 rfl (adc k.src) _ HF9.out Try.underlying24 rfl HZS.out ?_)
    | (refine' wpList_store_mid rfl 24 _ _ rfl w8.heap.size 0 (adc k.src).toArray ?hx rfl ?ht HZS'.out HOS.out ?_; (case hx => rfl); (case ht => exact HT9.out.2.1); rw [← HW10.out])
    | (refine wpList_load_mid rfl 24 _ rfl w.heap.size 17 rfl (adc k.dst) _ HF10.out Try.underlying24 rfl HZD.out ?_)
    | (refine' wpList_store_mid rfl 24 _ _ rfl w8.heap.size 17 (adc k.dst).toArray ?hx rfl ?ht HZD'.out HOD.out ?_; (case hx => rfl); (case ht => exact HT9.out.2.2); rw [← HW11.out]))
  rw [← HW12.out]
  refine q_region (by kernel_rfl) (by kernel_rfl) (Old.refl w12) ?_
  --@0
  refine q_load (by kernel_rfl) 29 _ rfl w4.heap.size 0 rfl CT _ (fun wq hC => HFT wq hC) Try.underlying29 rfl HST.out ?_
  try simp only [Act.put, Array.getInternal_eq_getElem, List.getElem_toArray, List.getElem_cons_zero, List.getElem_cons_succ, List.setIfInBounds_toArray, List.set_cons_zero, List.set_cons_succ]
  --@1
  refine q_call (by kernel_rfl) (fun wq hC => old_call hC (HOT wq).out) (fun wq => ?_) ?_
  · go_simp <;> (try (with_reducible rfl))
  try simp only [Act.put, Array.getInternal_eq_getElem, List.getElem_toArray, List.getElem_cons_zero, List.getElem_cons_succ, List.setIfInBounds_toArray, List.set_cons_zero, List.set_cons_succ]
  --@2
  refine q_load (by kernel_rfl) 31 _ rfl w2.heap.size 0 rfl CK _ (fun wq hC => HFK2 wq hC) Try.underlying31 rfl HSK.out ?_
  try simp only [Act.put, Array.getInternal_eq_getElem, List.getElem_toArray, List.getElem_cons_zero, List.getElem_cons_succ, List.setIfInBounds_toArray, List.set_cons_zero, List.set_cons_succ]
  --@3
  refine q_call (by kernel_rfl) (fun wq hC => old_call hC (HRB wq).out) (fun wq => ?_) ?_
  · go_simp <;> (try (with_reducible rfl))
  try simp only [Act.put, Array.getInternal_eq_getElem, List.getElem_toArray, List.getElem_cons_zero, List.getElem_cons_succ, List.setIfInBounds_toArray, List.set_cons_zero, List.set_cons_succ]
  --@4
  refine q_any (by kernel_rfl) ?_ (fun wq hC => ?_) ?_
  rotate_left
  · (have hz := HEB wq; go_simp) <;> (try (with_reducible rfl))
  try simp only [Act.put, Array.getInternal_eq_getElem, List.getElem_toArray, List.getElem_cons_zero, List.getElem_cons_succ, List.setIfInBounds_toArray, List.set_cons_zero, List.set_cons_succ]
  --@5
  refine q_any (by kernel_rfl) ?_ (fun wq hC => ?_) ?_
  rotate_left
  · (go_simp) <;> (try (with_reducible rfl))
  try simp only [Act.put, Array.getInternal_eq_getElem, List.getElem_toArray, List.getElem_cons_zero, List.getElem_cons_succ, List.setIfInBounds_toArray, List.set_cons_zero, List.set_cons_succ]
  --@6
  refine q_load (by kernel_rfl) 29 _ rfl w8.heap.size 0 rfl CM _ (fun wq hC => HFM wq hC) Try.underlying29 rfl HSM.out ?_
  try simp only [Act.put, Array.getInternal_eq_getElem, List.getElem_toArray, List.getElem_cons_zero, List.getElem_cons_succ, List.setIfInBounds_toArray, List.set_cons_zero, List.set_cons_succ]
  --@7
  refine q_call (by kernel_rfl) (fun wq hC => old_call hC (HOM wq).out) (fun wq => ?_) ?_
  · go_simp <;> (try (with_reducible rfl))
  try simp only [Act.put, Array.getInternal_eq_getElem, List.getElem_toArray, List.getElem_cons_zero, List.getElem_cons_succ, List.setIfInBounds_toArray, List.set_cons_zero, List.set_cons_succ]
  --@8
  refine q_load (by kernel_rfl) 31 _ rfl w2.heap.size 0 rfl CK _ (fun wq hC => HFK2 wq hC) Try.underlying31 rfl HSK.out ?_
  try simp only [Act.put, Array.getInternal_eq_getElem, List.getElem_toArray, List.getElem_cons_zero, List.getElem_cons_succ, List.setIfInBounds_toArray, List.set_cons_zero, List.set_cons_succ]
  --@9
  refine q_any (by kernel_rfl) ?_ (fun wq hC => ?_) ?_
  rotate_left
  · (have hz := HEK wq; go_simp) <;> (try (with_reducible rfl))
  try simp only [Act.put, Array.getInternal_eq_getElem, List.getElem_toArray, List.getElem_cons_zero, List.getElem_cons_succ, List.setIfInBounds_toArray, List.set_cons_zero, List.set_cons_succ]
  --@10
  refine q_any (by kernel_rfl) ?_ (fun wq hC => ?_) ?_
  rotate_left
  · (go_simp) <;> (try (with_reducible rfl))
  try simp only [Act.put, Array.getInternal_eq_getElem, List.getElem_toArray, List.getElem_cons_zero, List.getElem_cons_succ, List.setIfInBounds_toArray, List.set_cons_zero, List.set_cons_succ]
  --@11
  refine q_any (by kernel_rfl) ?_ (fun wq hC => ?_) ?_
  rotate_left
  · (go_simp) <;> (try (with_reducible rfl))
  try simp only [Act.put, Array.getInternal_eq_getElem, List.getElem_toArray, List.getElem_cons_zero, List.getElem_cons_succ, List.setIfInBounds_toArray, List.set_cons_zero, List.set_cons_succ]
  --@12
  refine q_call (by kernel_rfl) (fun wq hC => old_call hC (HE wq).out) (fun wq => ?_) ?_
  · go_simp <;> (try (with_reducible rfl))
  try simp only [Act.put, Array.getInternal_eq_getElem, List.getElem_toArray, List.getElem_cons_zero, List.getElem_cons_succ, List.setIfInBounds_toArray, List.set_cons_zero, List.set_cons_succ]
  --@13
  refine q_any (by kernel_rfl) ?_ (fun wq hC => ?_) ?_
  rotate_left
  · (go_simp) <;> (try (with_reducible rfl))
  try simp only [Act.put, Array.getInternal_eq_getElem, List.getElem_toArray, List.getElem_cons_zero, List.getElem_cons_succ, List.setIfInBounds_toArray, List.set_cons_zero, List.set_cons_succ]
  --@14
  refine q_any (by kernel_rfl) ?_ (fun wq hC => ?_) ?_
  rotate_left
  · (go_simp) <;> (try (with_reducible rfl))
  try simp only [Act.put, Array.getInternal_eq_getElem, List.getElem_toArray, List.getElem_cons_zero, List.getElem_cons_succ, List.setIfInBounds_toArray, List.set_cons_zero, List.set_cons_succ]
  refine q_nil ?_
  intro wz kwz
  go_wp2
  try rw [Exit.noGoto_ret]
  go_ret
  exact ⟨rfl, below_of (fun S => (K1.out S).trans ((Q12.out S).trans (kwz.all S)))⟩
end Go.Proofs.Ytdnddlmlbnachaa.fw
