/-
  flow: addrBytes, Bytes.
-/
import Derived.Test.YtdnddlmlbnachaaFwE
import Derived.Test.YtdnddlmlbnachaaFwK
import Derived.Test.YtdnddlmlbnachaaBy
import Derived.Test.YtdnddlmlbnachaaOcPut
import Derived.Test.YtdnddlmlbnachaaFwH
set_option linter.unusedVariables false
set_option linter.unusedSimpArgs false
namespace Go.Proofs.Ytdnddlmlbnachaa.fw
open Go.RowKit Go.Proofs.Ytdnddlmlbnachaa.oc Go.Proofs.Ytdnddlmlbnachaa.mz Go.Proofs.Ytdnddlmlbnachaa.pf Go.Proofs.Ytdnddlmlbnachaa.wh Go.Proofs.Ytdnddlmlbnachaa.qk Go.Proofs.Ytdnddlmlbnachaa.bys
theorem box1 (w : World) (cs : List Value) (T : TypeId) : ∃ w1, w1 = w.alloc (.cells cs.toArray T) ∧ (∀ S, Keeps S w w1) ∧ Blk w1 w.heap.size T cs ∧ w1.heap.size = w.heap.size + 1 :=
  ⟨_, rfl, fun S => (Keeps.refl S w).alloc _, by simpa using Blk.new w T cs.toArray, by simp⟩
theorem box2 (w : World) (cs ds : List Value) (T U : TypeId) : ∃ w1, w1 = (w.alloc (.cells cs.toArray T)).alloc (.cells ds.toArray U) ∧ (∀ S, Keeps S w w1) ∧ Blk w1 w.heap.size T cs ∧ Blk w1 (w.heap.size + 1) U ds ∧ w1.heap.size = w.heap.size + 1 + 1 := by
  refine ⟨_, rfl, fun S => ((Keeps.refl S w).alloc _).alloc _, ?_, ?_, by simp⟩
  · exact (by simpa using Blk.new w T cs.toArray : Blk _ w.heap.size T cs).alloc _
  · have := Blk.new (w.alloc (.cells cs.toArray T)) U ds.toArray
    rw [World.size_alloc] at this
    simpa using this
theorem by_b8 (l : List Nat) : by_ l = b8s l := rfl
theorem ad_sz {a : Ad} (ha : a.Wf) : (Try.prog.info? 24).map (·.size) = some (adc a).length := by rw [adc_len ha]; exact ad_info
theorem key_sz {k : Ky} (hk : k.Wf) : (Try.prog.info? 31).map (·.size) = some (kvc k).length := by rw [kvc_len hk]; exact key_info
/-- what a key in a block of its own says -/
structure KF (w : World) (g o : Nat) (k : Ky) : Prop where
  all : w.rangeAt g o (kvc k)
  src : w.rangeAt g o (adc k.src)
  dst : w.rangeAt g (o + 17) (adc k.dst)
  pr : w.cell? ⟨g, o + 34, none⟩ = some (.int .u8 (k.pr : Int))
  sp : w.cell? ⟨g, o + 35, none⟩ = some (.int .u16 (k.sp : Int))
  dp : w.cell? ⟨g, o + 36, none⟩ = some (.int .u16 (k.dp : Int))
theorem KF.of_range {w : World} {g o : Nat} {k : Ky} (hk : k.Wf) (h : w.rangeAt g o (kvc k)) : KF w g o k := by
  refine ⟨h, fun j v hj => ?_, fun j v hj => ?_, h 34 _ (kvc_pr hk), h 35 _ (kvc_sp hk), h 36 _ (kvc_dp hk)⟩
  · have hl : j < (adc k.src).length := (List.getElem?_eq_some_iff.1 hj).1
    exact h j v (by unfold kvc; rw [List.getElem?_append_left hl]; exact hj)
  · have hl : j < (adc k.dst).length := (List.getElem?_eq_some_iff.1 hj).1
    have := h (17 + j) v (by unfold kvc; rw [List.getElem?_append_right (by rw [adc_len hk.s]; omega), adc_len hk.s, Nat.add_sub_cancel_left, List.getElem?_append_left hl]; exact hj)
    rw [Nat.add_assoc]; exact this
theorem range_keeps {w w' : World} {S : Nat → Prop} {g o : Nat} {cs : List Value} (h : w.rangeAt g o cs) (k : Keeps S w w') (hs : ¬ S g) : w'.rangeAt g o cs := fun j v hj => Keeps.cell k (h j v hj) hs
theorem KF.keeps {w w' : World} {S : Nat → Prop} {g o : Nat} {k : Ky} (hk : k.Wf) (h : KF w g o k) (kk : Keeps S w w') (hs : ¬ S g) : KF w' g o k := KF.of_range hk (range_keeps h.all kk hs)
section
variable (w : World)
set_option maxRecDepth 100000 in
set_option maxHeartbeats 2000000 in
theorem addrbytes_ (a : Ad) (ha : a.Wf) : Calls Try.prog 29 #[av a] w fun e w' => ∃ v, e = .returned v ∧ By w w' v (aby a) := by
  obtain ⟨w1, hw1, k1, b1, s1⟩ := box1 w (adc a) 24
  have xv : w1.cell? ⟨w.heap.size, 0, none⟩ = some (.bool a.v6) := by rw [b1.cell]; rfl
  rw [hw1] at xv
  have hr : Rd w1 (w.heap.size + 1) (some ⟨w.heap.size, 1, none⟩) (by_ a.B) := b1.rdAt 1
  have hl := ha.len
  have HW := Lib.hid hw1
  have HR := Lib.hid hr
  have HL := Lib.hid hl
  have K1 : Hid (∀ S, Keeps S w w1) := Lib.hid k1
  have HS := Lib.hid s1
  unfold av
  clear hw1 k1 b1 hr s1 hl ha
  have hab : aby a = kd a :: a.B := rfl
  rw [hab]
  unfold kd
  generalize a.B = B at *
  generalize adc a = C at *
  generalize a.v6 = b6 at *
  have key : ∀ (d : Nat) (W : World), W = w1.alloc (.cells #[.int .u8 (d : Int)] 5) → By w W (.slice (some ⟨w.heap.size + 1, 0, none⟩) 1 1) [d] ∧ Rd W (w.heap.size + 1) (some ⟨w.heap.size, 1, none⟩) (by_ B) := by
    intro d W hW
    subst hW
    refine ⟨By.of_blk ?_ rfl (by omega) (by omega) (fun S => (K1.out S).alloc _), HR.out.alloc (by rw [HS.out]; omega) _⟩
    rw [← HS.out]
    simpa [by_] using Blk.new w1 5 #[.int .u8 (d : Int)]
  have K0 := Lib.hid (key 0 _ rfl)
  have K9 := Lib.hid (key 1 _ rfl)
  clear key
  cases b6
  · go_enter Try.func29, Try.ntmps29
    go_wp2_with (first
      | (at_builtin; (try rw [← HW.out]); refine By.wpList_append rfl _ _ rfl K0.out.1 rfl (some ⟨w.heap.size, 1, none⟩) 16 16 _ B rfl HL.out K0.out.2 (by decide) ?_; intro v9 w9 h9 k9; have H9 := Lib.hid h9; clear h9 k9))
    try rw [Exit.noGoto_ret]
    go_ret
    exact ⟨_, rfl, H9.out⟩
  · go_enter Try.func29, Try.ntmps29
    go_wp2_with (first
      | (at_builtin; (try rw [← HW.out]); refine By.wpList_append rfl _ _ rfl K9.out.1 rfl (some ⟨w.heap.size, 1, none⟩) 16 16 _ B rfl HL.out K9.out.2 (by decide) ?_; intro v9 w9 h9 k9; have H9 := Lib.hid h9; clear h9 k9))
    try rw [Exit.noGoto_ret]
    go_ret
    exact ⟨_, rfl, H9.out⟩
end
end Go.Proofs.Ytdnddlmlbnachaa.fw
