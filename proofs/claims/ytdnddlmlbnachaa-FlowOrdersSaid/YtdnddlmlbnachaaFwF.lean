/-
  flow: hasPorts, Of, Back; the document's own Of, Back.
-/
import Derived.Test.YtdnddlmlbnachaaFwD
set_option linter.unusedVariables false
set_option linter.unusedSimpArgs false
namespace Go.Proofs.Ytdnddlmlbnachaa.fw
open Go.RowKit Go.Proofs.Ytdnddlmlbnachaa.oc Go.Proofs.Ytdnddlmlbnachaa.mz Go.Proofs.Ytdnddlmlbnachaa.pf Go.Proofs.Ytdnddlmlbnachaa.wh Go.Proofs.Ytdnddlmlbnachaa.qk Go.Proofs.Ytdnddlmlbnachaa.bys
/-- the key of a header, whose first cells are a key's -/
def kof (k : Ky) : Ky := if k.pr = 6 ∨ k.pr = 17 then k else ⟨k.src, k.dst, k.pr, 0, 0⟩
def kbare (k : Ky) : Ky := ⟨k.src, k.dst, k.pr, 0, 0⟩
theorem kbare_wf {k : Ky} (h : k.Wf) : (kbare k).Wf := ⟨h.s, h.d, h.p, by show (0 : Nat) < 65536; omega, by show (0 : Nat) < 65536; omega⟩
theorem kof_wf {k : Ky} (h : k.Wf) : (kof k).Wf := by
  unfold kof; split
  · exact h
  · exact kbare_wf h
def hv (k : Ky) (r : List Value) : Value := .agg (kvc k ++ r).toArray
theorem sixteen {l : List Nat} (h : l.length = 16) : ∃ q0 q1 q2 q3 q4 q5 q6 q7 q8 q9 q10 q11 q12 q13 q14 q15 : Nat, l = [q0, q1, q2, q3, q4, q5, q6, q7, q8, q9, q10, q11, q12, q13, q14, q15] := by
  match l, h with
  | [q0, q1, q2, q3, q4, q5, q6, q7, q8, q9, q10, q11, q12, q13, q14, q15], _ => exact ⟨q0, q1, q2, q3, q4, q5, q6, q7, q8, q9, q10, q11, q12, q13, q14, q15, rfl⟩
theorem built3 {k : Ky} (h : k.Wf) : Try.prog.built 31 [(0, .agg (adc k.src).toArray), (1, .agg (adc k.dst).toArray), (2, .int .u8 (k.pr : Int))] = some (kvc (kbare k)).toArray := by
  obtain ⟨q0, q1, q2, q3, q4, q5, q6, q7, q8, q9, q10, q11, q12, q13, q14, q15, h1⟩ := sixteen h.s.len
  obtain ⟨r0, r1, r2, r3, r4, r5, r6, r7, r8, r9, r10, r11, r12, r13, r14, r15, h2⟩ := sixteen h.d.len
  have e1 : adc k.src = .bool k.src.v6 :: b8s [q0, q1, q2, q3, q4, q5, q6, q7, q8, q9, q10, q11, q12, q13, q14, q15] := by rw [← h1]; rfl
  have e2 : adc k.dst = .bool k.dst.v6 :: b8s [r0, r1, r2, r3, r4, r5, r6, r7, r8, r9, r10, r11, r12, r13, r14, r15] := by rw [← h2]; rfl
  unfold kvc kbare
  simp only
  rw [e1, e2]
  show _ = _
  kernel_rfl
theorem built5 {k : Ky} (h : k.Wf) : Try.prog.built 31 [(0, .agg (adc k.src).toArray), (1, .agg (adc k.dst).toArray), (2, .int .u8 (k.pr : Int)), (3, .int .u16 (k.sp : Int)), (4, .int .u16 (k.dp : Int))] = some (kvc k).toArray := by
  obtain ⟨q0, q1, q2, q3, q4, q5, q6, q7, q8, q9, q10, q11, q12, q13, q14, q15, h1⟩ := sixteen h.s.len
  obtain ⟨r0, r1, r2, r3, r4, r5, r6, r7, r8, r9, r10, r11, r12, r13, r14, r15, h2⟩ := sixteen h.d.len
  have e1 : adc k.src = .bool k.src.v6 :: b8s [q0, q1, q2, q3, q4, q5, q6, q7, q8, q9, q10, q11, q12, q13, q14, q15] := by rw [← h1]; rfl
  have e2 : adc k.dst = .bool k.dst.v6 :: b8s [r0, r1, r2, r3, r4, r5, r6, r7, r8, r9, r10, r11, r12, r13, r14, r15] := by rw [← h2]; rfl
  unfold kvc
  rw [e1, e2]
  show _ = _
  kernel_rfl
theorem wpList_build {P : Program} {ops : Array Oper} {rest : List Oper} {op : Oper} {a : Act} {w : World} {Q : Exit → Act → World → Prop} (hgd : op.guard = none) (t : TypeId) (parts : Array (Nat × Operand)) (ho : op.op = .build t parts)
    (ps : List (Nat × Value)) (hp : (parts.toList.map fun (i, x) => (i, a.eval x)) = ps) (cells : Array Value) (hb : P.built t ps = some cells) (h : wpList P ops Q rest (a.put op.dst (.agg cells)) w) : wpList P ops Q (op :: rest) a w := by
  refine wpList_plain hgd fun _ hK => ?_
  subst hp
  have hr := run_build (P := P) w t (parts.map fun (i, x) => (i, a.eval x)) cells (by rw [Array.toList_map]; exact hb)
  unfold Oper.wp execOp
  simp only [ho, Sem.run_bind, hr, Result.andThen_ok]
  exact hK _ _ h
theorem over_mid {w : World} {g : Nat} {T : TypeId} {cs : List Value} (h : Blk w g T cs) (o : Nat) (vs : List Value) (hl : o + vs.length ≤ cs.length) : w.there g o vs.toArray.size ∧ Blk (w.setCells g o vs) g T (cs.take o ++ vs ++ cs.drop (o + vs.length)) ∧ Keeps (· = g) w (w.setCells g o vs) := by
  refine ⟨fun j hj => ?_, Blk.setMid vs w cs o h hl, keeps_setCells g vs w o⟩
  have hj' : j < vs.length := by simpa using hj
  refine ⟨?_, h.frozen _⟩
  rw [h.cell, List.getElem?_eq_getElem (by omega)]; rfl
theorem kvc_set_sp {k : Ky} (h : k.Wf) (x : Nat) : (kvc k).set 35 (.int .u16 (x : Int)) = kvc ⟨k.src, k.dst, k.pr, x, k.dp⟩ := by
  unfold kvc
  rw [List.set_append_right _ _ (by rw [adc_len h.s]; omega), adc_len h.s, List.set_append_right _ _ (by rw [adc_len h.d]; omega), adc_len h.d]; rfl
theorem kvc_set_dp {k : Ky} (h : k.Wf) (x : Nat) : (kvc k).set 36 (.int .u16 (x : Int)) = kvc ⟨k.src, k.dst, k.pr, k.sp, x⟩ := by
  unfold kvc
  rw [List.set_append_right _ _ (by rw [adc_len h.s]; omega), adc_len h.s, List.set_append_right _ _ (by rw [adc_len h.d]; omega), adc_len h.d]; rfl
theorem zk_len : ([.bool false, .int .u8 0, .int .u8 0, .int .u8 0, .int .u8 0, .int .u8 0, .int .u8 0, .int .u8 0, .int .u8 0, .int .u8 0, .int .u8 0, .int .u8 0, .int .u8 0, .int .u8 0, .int .u8 0, .int .u8 0, .int .u8 0, .bool false, .int .u8 0, .int .u8 0, .int .u8 0, .int .u8 0, .int .u8 0, .int .u8 0, .int .u8 0, .int .u8 0, .int .u8 0, .int .u8 0, .int .u8 0, .int .u8 0, .int .u8 0, .int .u8 0, .int .u8 0, .int .u8 0, .int .u8 0, .int .u16 0, .int .u16 0] : List Value).length = 37 := rfl
section
variable (w : World)
set_option maxRecDepth 100000 in
set_option maxHeartbeats 1000000 in
theorem hasports_ (p : Nat) : Calls Try.prog 28 #[.int .u8 (p : Int)] w fun e w' => e = .returned (.bool (decide (p = 6 ∨ p = 17))) ∧ w' = w := by
  by_cases h6 : p = 6
  · subst h6
    go_enter Try.func28, Try.ntmps28
    go_wp2
    try rw [Exit.noGoto_ret]
    go_ret
    exact ⟨rfl, rfl⟩
  · by_cases h7 : p = 17
    · subst h7
      go_enter Try.func28, Try.ntmps28
      go_wp2
      try rw [Exit.noGoto_ret]
      go_ret
      exact ⟨rfl, rfl⟩
    · have e : decide (p = 6 ∨ p = 17) = false := decide_eq_false (by omega)
      rw [e]
      have d1 : ((p : Int) == 6) = false := beq_eq_false_iff_ne.2 (by omega)
      have d2 : ((p : Int) == 17) = false := beq_eq_false_iff_ne.2 (by omega)
      clear e h6 h7
      go_enter Try.func28, Try.ntmps28
      go_wp2
      try rw [Exit.noGoto_ret]
      go_ret
      exact ⟨rfl, rfl⟩

end
/-- what a header's call lays at its entry: the header, the answer's place, the key's own place, which is then filled -/
theorem of_enter (w : World) (k : Ky) (r : List Value) (hk : k.Wf) : ∃ w1 w3, w1 = (w.alloc (.cells (kvc k ++ r).toArray 29)).alloc (.cells #[.bool false, .int .u8 0, .int .u8 0, .int .u8 0, .int .u8 0, .int .u8 0, .int .u8 0, .int .u8 0, .int .u8 0, .int .u8 0, .int .u8 0, .int .u8 0, .int .u8 0, .int .u8 0, .int .u8 0, .int .u8 0, .int .u8 0, .bool false, .int .u8 0, .int .u8 0, .int .u8 0, .int .u8 0, .int .u8 0, .int .u8 0, .int .u8 0, .int .u8 0, .int .u8 0, .int .u8 0, .int .u8 0, .int .u8 0, .int .u8 0, .int .u8 0, .int .u8 0, .int .u8 0, .int .u8 0, .int .u16 0, .int .u16 0] 31) ∧ w3 = (w1.alloc (.cells #[.bool false, .int .u8 0, .int .u8 0, .int .u8 0, .int .u8 0, .int .u8 0, .int .u8 0, .int .u8 0, .int .u8 0, .int .u8 0, .int .u8 0, .int .u8 0, .int .u8 0, .int .u8 0, .int .u8 0, .int .u8 0, .int .u8 0, .bool false, .int .u8 0, .int .u8 0, .int .u8 0, .int .u8 0, .int .u8 0, .int .u8 0, .int .u8 0, .int .u8 0, .int .u8 0, .int .u8 0, .int .u8 0, .int .u8 0, .int .u8 0, .int .u8 0, .int .u8 0, .int .u8 0, .int .u8 0, .int .u16 0, .int .u16 0] 31)).setCells w1.heap.size 0 (kvc (kbare k)) ∧
    KF w1 w.heap.size 0 k ∧ KF w3 w.heap.size 0 k ∧ Blk w3 (w.heap.size + 1) 31 [.bool false, .int .u8 0, .int .u8 0, .int .u8 0, .int .u8 0, .int .u8 0, .int .u8 0, .int .u8 0, .int .u8 0, .int .u8 0, .int .u8 0, .int .u8 0, .int .u8 0, .int .u8 0, .int .u8 0, .int .u8 0, .int .u8 0, .bool false, .int .u8 0, .int .u8 0, .int .u8 0, .int .u8 0, .int .u8 0, .int .u8 0, .int .u8 0, .int .u8 0, .int .u8 0, .int .u8 0, .int .u8 0, .int .u8 0, .int .u8 0, .int .u8 0, .int .u8 0, .int .u8 0, .int .u8 0, .int .u16 0, .int .u16 0] ∧ Blk w3 w1.heap.size 31 (kvc (kbare k)) ∧ Keeps (fun x => w.heap.size ≤ x) w w3 ∧ w1.heap.size = w.heap.size + 1 + 1 ∧ (w1.alloc (.cells #[.bool false, .int .u8 0, .int .u8 0, .int .u8 0, .int .u8 0, .int .u8 0, .int .u8 0, .int .u8 0, .int .u8 0, .int .u8 0, .int .u8 0, .int .u8 0, .int .u8 0, .int .u8 0, .int .u8 0, .int .u8 0, .int .u8 0, .bool false, .int .u8 0, .int .u8 0, .int .u8 0, .int .u8 0, .int .u8 0, .int .u8 0, .int .u8 0, .int .u8 0, .int .u8 0, .int .u8 0, .int .u8 0, .int .u8 0, .int .u8 0, .int .u8 0, .int .u8 0, .int .u8 0, .int .u8 0, .int .u16 0, .int .u16 0] 31)).there w1.heap.size 0 (kvc (kbare k)).toArray.size := by
  obtain ⟨w1, hw1, k1, b0, b1, s1⟩ := box2 w (kvc k ++ r) [.bool false, .int .u8 0, .int .u8 0, .int .u8 0, .int .u8 0, .int .u8 0, .int .u8 0, .int .u8 0, .int .u8 0, .int .u8 0, .int .u8 0, .int .u8 0, .int .u8 0, .int .u8 0, .int .u8 0, .int .u8 0, .int .u8 0, .bool false, .int .u8 0, .int .u8 0, .int .u8 0, .int .u8 0, .int .u8 0, .int .u8 0, .int .u8 0, .int .u8 0, .int .u8 0, .int .u8 0, .int .u8 0, .int .u8 0, .int .u8 0, .int .u8 0, .int .u8 0, .int .u8 0, .int .u8 0, .int .u16 0, .int .u16 0] 29 31
  have f1 : KF w1 w.heap.size 0 k := KF.of_range hk (fun j v hj => by
    have hl : j < (kvc k).length := (List.getElem?_eq_some_iff.1 hj).1
    rw [Nat.zero_add, b0.cell, List.getElem?_append_left hl]; exact hj)
  have b2 : Blk (w1.alloc (.cells #[.bool false, .int .u8 0, .int .u8 0, .int .u8 0, .int .u8 0, .int .u8 0, .int .u8 0, .int .u8 0, .int .u8 0, .int .u8 0, .int .u8 0, .int .u8 0, .int .u8 0, .int .u8 0, .int .u8 0, .int .u8 0, .int .u8 0, .bool false, .int .u8 0, .int .u8 0, .int .u8 0, .int .u8 0, .int .u8 0, .int .u8 0, .int .u8 0, .int .u8 0, .int .u8 0, .int .u8 0, .int .u8 0, .int .u8 0, .int .u8 0, .int .u8 0, .int .u8 0, .int .u8 0, .int .u8 0, .int .u16 0, .int .u16 0] 31)) w1.heap.size 31 [.bool false, .int .u8 0, .int .u8 0, .int .u8 0, .int .u8 0, .int .u8 0, .int .u8 0, .int .u8 0, .int .u8 0, .int .u8 0, .int .u8 0, .int .u8 0, .int .u8 0, .int .u8 0, .int .u8 0, .int .u8 0, .int .u8 0, .bool false, .int .u8 0, .int .u8 0, .int .u8 0, .int .u8 0, .int .u8 0, .int .u8 0, .int .u8 0, .int .u8 0, .int .u8 0, .int .u8 0, .int .u8 0, .int .u8 0, .int .u8 0, .int .u8 0, .int .u8 0, .int .u8 0, .int .u8 0, .int .u16 0, .int .u16 0] := Blk.new w1 31 #[.bool false, .int .u8 0, .int .u8 0, .int .u8 0, .int .u8 0, .int .u8 0, .int .u8 0, .int .u8 0, .int .u8 0, .int .u8 0, .int .u8 0, .int .u8 0, .int .u8 0, .int .u8 0, .int .u8 0, .int .u8 0, .int .u8 0, .bool false, .int .u8 0, .int .u8 0, .int .u8 0, .int .u8 0, .int .u8 0, .int .u8 0, .int .u8 0, .int .u8 0, .int .u8 0, .int .u8 0, .int .u8 0, .int .u8 0, .int .u8 0, .int .u8 0, .int .u8 0, .int .u8 0, .int .u8 0, .int .u16 0, .int .u16 0]
  have b1' := b1.alloc (.cells #[.bool false, .int .u8 0, .int .u8 0, .int .u8 0, .int .u8 0, .int .u8 0, .int .u8 0, .int .u8 0, .int .u8 0, .int .u8 0, .int .u8 0, .int .u8 0, .int .u8 0, .int .u8 0, .int .u8 0, .int .u8 0, .int .u8 0, .bool false, .int .u8 0, .int .u8 0, .int .u8 0, .int .u8 0, .int .u8 0, .int .u8 0, .int .u8 0, .int .u8 0, .int .u8 0, .int .u8 0, .int .u8 0, .int .u8 0, .int .u8 0, .int .u8 0, .int .u8 0, .int .u8 0, .int .u8 0, .int .u16 0, .int .u16 0] 31)
  have k2 : ∀ S, Keeps S w1 (w1.alloc (.cells #[.bool false, .int .u8 0, .int .u8 0, .int .u8 0, .int .u8 0, .int .u8 0, .int .u8 0, .int .u8 0, .int .u8 0, .int .u8 0, .int .u8 0, .int .u8 0, .int .u8 0, .int .u8 0, .int .u8 0, .int .u8 0, .int .u8 0, .bool false, .int .u8 0, .int .u8 0, .int .u8 0, .int .u8 0, .int .u8 0, .int .u8 0, .int .u8 0, .int .u8 0, .int .u8 0, .int .u8 0, .int .u8 0, .int .u8 0, .int .u8 0, .int .u8 0, .int .u8 0, .int .u8 0, .int .u8 0, .int .u16 0, .int .u16 0] 31)) := fun S => (Keeps.refl S w1).alloc _
  have lb := kvc_len (kbare_wf hk)
  obtain ⟨t2, b3, k3⟩ := over_mid b2 0 (kvc (kbare k)) (by rw [lb, zk_len]; omega)
  rw [lb, List.take_zero, List.nil_append, List.drop_of_length_le (by decide), List.append_nil] at b3
  exact ⟨w1, _, hw1, rfl, f1, (f1.keeps hk (k2 (fun _ => False)) (fun z => z)).keeps hk k3 (by omega), Blk.keeps b1' k3 (by omega), b3, ((k1 _).trans (k2 _)).trans (k3.mono (fun x _ e => by omega)), s1, t2⟩
theorem of_close (w : World) (k : Ky) (hk : k.Wf) (w1 w5 : World) (b1 : Blk w5 (w.heap.size + 1) 31 [.bool false, .int .u8 0, .int .u8 0, .int .u8 0, .int .u8 0, .int .u8 0, .int .u8 0, .int .u8 0, .int .u8 0, .int .u8 0, .int .u8 0, .int .u8 0, .int .u8 0, .int .u8 0, .int .u8 0, .int .u8 0, .int .u8 0, .bool false, .int .u8 0, .int .u8 0, .int .u8 0, .int .u8 0, .int .u8 0, .int .u8 0, .int .u8 0, .int .u8 0, .int .u8 0, .int .u8 0, .int .u8 0, .int .u8 0, .int .u8 0, .int .u8 0, .int .u8 0, .int .u8 0, .int .u8 0, .int .u16 0, .int .u16 0]) (kk : Keeps (fun x => w.heap.size ≤ x) w w5) : w5.there (w.heap.size + 1) 0 (kvc k).toArray.size ∧ Blk (w5.setCells (w.heap.size + 1) 0 (kvc k)) (w.heap.size + 1) 31 (kvc k) ∧ ∀ S, Keeps S w (w5.setCells (w.heap.size + 1) 0 (kvc k)) := by
  obtain ⟨t6, b6, k6⟩ := over_mid b1 0 (kvc k) (by rw [kvc_len hk, zk_len]; omega)
  rw [kvc_len hk, List.take_zero, List.nil_append, List.drop_of_length_le (by decide), List.append_nil] at b6
  refine ⟨t6, b6, fun S => ?_⟩
  have q := kk.trans (k6.mono (S' := fun x => w.heap.size ≤ x) (fun x _ e => by omega))
  exact (q.only (fun b hb => hb)).mono (fun _ _ z => z.elim)
theorem of_bare (w : World) (k : Ky) (hk : k.Wf) (w1 w3 : World) (b1 : Blk w3 (w.heap.size + 1) 31 [.bool false, .int .u8 0, .int .u8 0, .int .u8 0, .int .u8 0, .int .u8 0, .int .u8 0, .int .u8 0, .int .u8 0, .int .u8 0, .int .u8 0, .int .u8 0, .int .u8 0, .int .u8 0, .int .u8 0, .int .u8 0, .int .u8 0, .bool false, .int .u8 0, .int .u8 0, .int .u8 0, .int .u8 0, .int .u8 0, .int .u8 0, .int .u8 0, .int .u8 0, .int .u8 0, .int .u8 0, .int .u8 0, .int .u8 0, .int .u8 0, .int .u8 0, .int .u8 0, .int .u8 0, .int .u8 0, .int .u16 0, .int .u16 0]) (b3 : Blk w3 w1.heap.size 31 (kvc (kbare k))) (s1 : w1.heap.size = w.heap.size + 1 + 1) (kk : Keeps (fun x => w.heap.size ≤ x) w w3) :
    w3.rangeAt w1.heap.size 0 (kvc (kbare k)) ∧ w3.there (w.heap.size + 1) 0 (kvc (kbare k)).toArray.size ∧ Blk (w3.setCells (w.heap.size + 1) 0 (kvc (kbare k))) (w.heap.size + 1) 31 (kvc (kbare k)) ∧ ∀ S, Keeps S w (w3.setCells (w.heap.size + 1) 0 (kvc (kbare k))) :=
  ⟨Blk.range b3, of_close w _ (kbare_wf hk) w1 w3 b1 kk⟩
theorem of_ports (w : World) (k : Ky) (hk : k.Wf) (w1 w3 : World) (f3 : KF w3 w.heap.size 0 k) (b1 : Blk w3 (w.heap.size + 1) 31 [.bool false, .int .u8 0, .int .u8 0, .int .u8 0, .int .u8 0, .int .u8 0, .int .u8 0, .int .u8 0, .int .u8 0, .int .u8 0, .int .u8 0, .int .u8 0, .int .u8 0, .int .u8 0, .int .u8 0, .int .u8 0, .int .u8 0, .bool false, .int .u8 0, .int .u8 0, .int .u8 0, .int .u8 0, .int .u8 0, .int .u8 0, .int .u8 0, .int .u8 0, .int .u8 0, .int .u8 0, .int .u8 0, .int .u8 0, .int .u8 0, .int .u8 0, .int .u8 0, .int .u8 0, .int .u8 0, .int .u16 0, .int .u16 0]) (b3 : Blk w3 w1.heap.size 31 (kvc (kbare k))) (s1 : w1.heap.size = w.heap.size + 1 + 1) (kk : Keeps (fun x => w.heap.size ≤ x) w w3) :
    w3.cell? ⟨w.heap.size, 35, none⟩ = some (.int .u16 (k.sp : Int)) ∧ (w3.setCell ⟨w1.heap.size, 35, none⟩ (.int .u16 (k.sp : Int))).cell? ⟨w.heap.size, 36, none⟩ = some (.int .u16 (k.dp : Int)) ∧
    w3.cell? ⟨w1.heap.size, 35, none⟩ = some (.int .u16 0) ∧ (w3.setCell ⟨w1.heap.size, 35, none⟩ (.int .u16 (k.sp : Int))).cell? ⟨w1.heap.size, 36, none⟩ = some (.int .u16 0) ∧
    w3.frozen? ⟨w1.heap.size, 35, none⟩ = false ∧ (w3.setCell ⟨w1.heap.size, 35, none⟩ (.int .u16 (k.sp : Int))).frozen? ⟨w1.heap.size, 36, none⟩ = false ∧
    ((w3.setCell ⟨w1.heap.size, 35, none⟩ (.int .u16 (k.sp : Int))).setCell ⟨w1.heap.size, 36, none⟩ (.int .u16 (k.dp : Int))).rangeAt w1.heap.size 0 (kvc k) ∧
    ((w3.setCell ⟨w1.heap.size, 35, none⟩ (.int .u16 (k.sp : Int))).setCell ⟨w1.heap.size, 36, none⟩ (.int .u16 (k.dp : Int))).there (w.heap.size + 1) 0 (kvc k).toArray.size ∧
    Blk (((w3.setCell ⟨w1.heap.size, 35, none⟩ (.int .u16 (k.sp : Int))).setCell ⟨w1.heap.size, 36, none⟩ (.int .u16 (k.dp : Int))).setCells (w.heap.size + 1) 0 (kvc k)) (w.heap.size + 1) 31 (kvc k) ∧
    ∀ S, Keeps S w (((w3.setCell ⟨w1.heap.size, 35, none⟩ (.int .u16 (k.sp : Int))).setCell ⟨w1.heap.size, 36, none⟩ (.int .u16 (k.dp : Int))).setCells (w.heap.size + 1) 0 (kvc k)) := by
  have hk4 : (⟨k.src, k.dst, k.pr, k.sp, 0⟩ : Ky).Wf := ⟨hk.s, hk.d, hk.p, hk.sl, by show (0 : Nat) < 65536; omega⟩
  have k4 : Keeps (· = w1.heap.size) w3 (w3.setCell ⟨w1.heap.size, 35, none⟩ (.int .u16 (k.sp : Int))) := (Keeps.refl (· = w1.heap.size) w3).setCell (p := ⟨w1.heap.size, 35, none⟩) (.inl rfl) _
  have b4 := b3.put 35 (.int .u16 (k.sp : Int))
  rw [show (kvc (kbare k)).set 35 (.int .u16 (k.sp : Int)) = kvc ⟨k.src, k.dst, k.pr, k.sp, 0⟩ from kvc_set_sp (kbare_wf hk) k.sp] at b4
  have f4 := f3.keeps hk k4 (by omega)
  have b14 := Blk.keeps b1 k4 (by omega)
  have z36 := b4.frozen 36
  have x35 := f3.sp
  have x36 := f4.dp
  rw [Nat.zero_add] at x35 x36
  have y35 := b3.cell 35
  rw [kvc_sp (kbare_wf hk)] at y35
  have y36 := b4.cell 36
  rw [kvc_dp hk4] at y36
  have z35 := b3.frozen 35
  generalize w3.setCell ⟨w1.heap.size, 35, none⟩ (.int .u16 (k.sp : Int)) = w4 at *
  have k5 : Keeps (· = w1.heap.size) w4 (w4.setCell ⟨w1.heap.size, 36, none⟩ (.int .u16 (k.dp : Int))) := (Keeps.refl (· = w1.heap.size) w4).setCell (p := ⟨w1.heap.size, 36, none⟩) (.inl rfl) _
  have b5 := b4.put 36 (.int .u16 (k.dp : Int))
  rw [show (kvc ⟨k.src, k.dst, k.pr, k.sp, 0⟩).set 36 (.int .u16 (k.dp : Int)) = kvc k from kvc_set_dp hk4 k.dp] at b5
  have b15 := Blk.keeps b14 k5 (by omega)
  refine ⟨x35, x36, y35, y36, z35, z36, Blk.range b5, of_close w k hk w1 _ b15 ((kk.trans (k4.mono (fun x _ e => by omega))).trans (k5.mono (fun x _ e => by omega)))⟩
section
variable (w : World)
set_option maxRecDepth 100000 in
set_option maxHeartbeats 4000000 in
theorem pof_six (k : Ky) (r : List Value) (hk : k.Wf) (h6 : k.pr = 6) : Calls Try.prog 11 #[hv k r] w fun e w' => e = .returned (kv (kof k)) ∧ ∀ S, Keeps S w w' := by
  obtain ⟨w1, w3, hw1, hw3, f1, f3, b1, b3, kk3, s1, t2⟩ := of_enter w k r hk
  have x34 := f3.pr
  have x34a := f1.pr
  rw [Nat.zero_add] at x34 x34a
  have HZS := Lib.hid (ad_sz hk.s)
  have HZD := Lib.hid (ad_sz hk.d)
  have HZB := Lib.hid (show (Try.prog.info? 31).map (·.size) = some (kvc (kbare k)).toArray.size from by rw [List.size_toArray, kvc_len (kbare_wf hk)]; exact key_info)
  have HZT := Lib.hid (show (Try.prog.info? 31).map (·.size) = some (kvc (k)).toArray.size from by rw [List.size_toArray, kvc_len hk]; exact key_info)
  have HZK := Lib.hid (key_sz hk)
  have HOB := Lib.hid (all_oneCell_toArray (kvc_one (kbare k)))
  have HOK := Lib.hid (all_oneCell_toArray (kvc_one (k)))
  have HBT := Lib.hid (built3 hk)
  obtain ⟨x35, x36, y35, y36, z35, z36, rg, t6, b6, kk6⟩ := of_ports w k hk w1 w3 f3 b1 b3 s1 kk3
  have hE : kof k = k := by unfold kof; rw [if_pos (by omega)]
  have HP := fun w => Lib.hid (hasports_ w k.pr)
  rw [show decide (k.pr = 6 ∨ k.pr = 17) = true from by exact decide_eq_true (by omega)] at HP
  rw [hE]
  have HF := Lib.hid f1
  have HW1 := Lib.hid hw1
  have HW3 := Lib.hid hw3
  have HT2 := Lib.hid t2
  have HT6 := Lib.hid t6
  have HRG := Lib.hid rg
  have HB6 := Lib.hid b6
  have HK6 := Lib.hid kk6
  unfold hv kv
  clear hw1 hw3 f1 f3 b1 b3 kk3 s1 t2 rg t6 b6 kk6 hE hk h6
  generalize kvc k ++ r = C at *
  go_enter Try.func11, Try.ntmps11
  go_wp2_with (first
    | ((try with_reducible rw [← HW1.out]); refine wpList_load_mid rfl 24 _ rfl w.heap.size 0 rfl (adc k.src) _ HF.out.src Try.underlying24 rfl HZS.out ?_)
    | (refine wpList_load_mid rfl 24 _ rfl w.heap.size 17 rfl (adc k.dst) _ HF.out.dst Try.underlying24 rfl HZD.out ?_)
    | ((with_reducible show wpList _ _ _ (⟨some 10, _, _, _, _, _⟩ :: _) _ _); refine' wpList_build rfl 31 _ rfl [(0, .agg (adc k.src).toArray), (1, .agg (adc k.dst).toArray), (2, .int .u8 (k.pr : Int))] ?hp _ HBT.out ?_; (case hp => rfl))
    | (refine' wpList_store_mid rfl 31 _ _ rfl w1.heap.size 0 (kvc (kbare k)).toArray ?hx rfl ?ht HZB.out HOB.out ?_; (case hx => rfl); (case ht => exact HT2.out); rw [← HW3.out])
    | (go_at_call 28; refine (HP _).out.mono ?_; rintro e w9 ⟨rfl, rfl⟩)
    | (refine wpList_load_mid rfl 31 _ rfl w1.heap.size 0 rfl (kvc (k)) _ HRG.out Try.underlying31 rfl HZK.out ?_)
    | (refine' wpList_store_mid rfl 31 _ _ rfl (w.heap.size + 1) 0 (kvc (k)).toArray ?hx rfl ?ht HZT.out HOK.out ?_; (case hx => rfl); (case ht => exact HT6.out)))
  try rw [Exit.noGoto_ret]
  refine bodyPost_ret (results_cell_row (p := 2) (ty := 31) (by kernel_rfl) _ _ (w.heap.size + 1) _ _ _ _ (by rfl) HB6.out Try.underlying31 rfl HZT.out) rfl ?_
  exact ⟨rfl, HK6.out⟩
set_option maxRecDepth 100000 in
set_option maxHeartbeats 4000000 in
theorem pof_sev (k : Ky) (r : List Value) (hk : k.Wf) (h7 : k.pr = 17) : Calls Try.prog 11 #[hv k r] w fun e w' => e = .returned (kv (kof k)) ∧ ∀ S, Keeps S w w' := by
  obtain ⟨w1, w3, hw1, hw3, f1, f3, b1, b3, kk3, s1, t2⟩ := of_enter w k r hk
  have x34 := f3.pr
  have x34a := f1.pr
  rw [Nat.zero_add] at x34 x34a
  have HZS := Lib.hid (ad_sz hk.s)
  have HZD := Lib.hid (ad_sz hk.d)
  have HZB := Lib.hid (show (Try.prog.info? 31).map (·.size) = some (kvc (kbare k)).toArray.size from by rw [List.size_toArray, kvc_len (kbare_wf hk)]; exact key_info)
  have HZT := Lib.hid (show (Try.prog.info? 31).map (·.size) = some (kvc (k)).toArray.size from by rw [List.size_toArray, kvc_len hk]; exact key_info)
  have HZK := Lib.hid (key_sz hk)
  have HOB := Lib.hid (all_oneCell_toArray (kvc_one (kbare k)))
  have HOK := Lib.hid (all_oneCell_toArray (kvc_one (k)))
  have HBT := Lib.hid (built3 hk)
  obtain ⟨x35, x36, y35, y36, z35, z36, rg, t6, b6, kk6⟩ := of_ports w k hk w1 w3 f3 b1 b3 s1 kk3
  have hE : kof k = k := by unfold kof; rw [if_pos (by omega)]
  have HP := fun w => Lib.hid (hasports_ w k.pr)
  rw [show decide (k.pr = 6 ∨ k.pr = 17) = true from by exact decide_eq_true (by omega)] at HP
  rw [hE]
  have HF := Lib.hid f1
  have HW1 := Lib.hid hw1
  have HW3 := Lib.hid hw3
  have HT2 := Lib.hid t2
  have HT6 := Lib.hid t6
  have HRG := Lib.hid rg
  have HB6 := Lib.hid b6
  have HK6 := Lib.hid kk6
  unfold hv kv
  clear hw1 hw3 f1 f3 b1 b3 kk3 s1 t2 rg t6 b6 kk6 hE hk h7
  generalize kvc k ++ r = C at *
  go_enter Try.func11, Try.ntmps11
  go_wp2_with (first
    | ((try with_reducible rw [← HW1.out]); refine wpList_load_mid rfl 24 _ rfl w.heap.size 0 rfl (adc k.src) _ HF.out.src Try.underlying24 rfl HZS.out ?_)
    | (refine wpList_load_mid rfl 24 _ rfl w.heap.size 17 rfl (adc k.dst) _ HF.out.dst Try.underlying24 rfl HZD.out ?_)
    | ((with_reducible show wpList _ _ _ (⟨some 10, _, _, _, _, _⟩ :: _) _ _); refine' wpList_build rfl 31 _ rfl [(0, .agg (adc k.src).toArray), (1, .agg (adc k.dst).toArray), (2, .int .u8 (k.pr : Int))] ?hp _ HBT.out ?_; (case hp => rfl))
    | (refine' wpList_store_mid rfl 31 _ _ rfl w1.heap.size 0 (kvc (kbare k)).toArray ?hx rfl ?ht HZB.out HOB.out ?_; (case hx => rfl); (case ht => exact HT2.out); rw [← HW3.out])
    | (go_at_call 28; refine (HP _).out.mono ?_; rintro e w9 ⟨rfl, rfl⟩)
    | (refine wpList_load_mid rfl 31 _ rfl w1.heap.size 0 rfl (kvc (k)) _ HRG.out Try.underlying31 rfl HZK.out ?_)
    | (refine' wpList_store_mid rfl 31 _ _ rfl (w.heap.size + 1) 0 (kvc (k)).toArray ?hx rfl ?ht HZT.out HOK.out ?_; (case hx => rfl); (case ht => exact HT6.out)))
  try rw [Exit.noGoto_ret]
  refine bodyPost_ret (results_cell_row (p := 2) (ty := 31) (by kernel_rfl) _ _ (w.heap.size + 1) _ _ _ _ (by rfl) HB6.out Try.underlying31 rfl HZT.out) rfl ?_
  exact ⟨rfl, HK6.out⟩
set_option maxRecDepth 100000 in
set_option maxHeartbeats 4000000 in
theorem pof_no (k : Ky) (r : List Value) (hk : k.Wf) (h6 : ¬ k.pr = 6) (h7 : ¬ k.pr = 17) : Calls Try.prog 11 #[hv k r] w fun e w' => e = .returned (kv (kof k)) ∧ ∀ S, Keeps S w w' := by
  obtain ⟨w1, w3, hw1, hw3, f1, f3, b1, b3, kk3, s1, t2⟩ := of_enter w k r hk
  have x34 := f3.pr
  have x34a := f1.pr
  rw [Nat.zero_add] at x34 x34a
  have HZS := Lib.hid (ad_sz hk.s)
  have HZD := Lib.hid (ad_sz hk.d)
  have HZB := Lib.hid (show (Try.prog.info? 31).map (·.size) = some (kvc (kbare k)).toArray.size from by rw [List.size_toArray, kvc_len (kbare_wf hk)]; exact key_info)
  have HZT := Lib.hid (show (Try.prog.info? 31).map (·.size) = some (kvc (kbare k)).toArray.size from by rw [List.size_toArray, kvc_len (kbare_wf hk)]; exact key_info)
  have HZK := Lib.hid (key_sz (kbare_wf hk))
  have HOB := Lib.hid (all_oneCell_toArray (kvc_one (kbare k)))
  have HOK := Lib.hid (all_oneCell_toArray (kvc_one (kbare k)))
  have HBT := Lib.hid (built3 hk)
  obtain ⟨rg, t6, b6, kk6⟩ := of_bare w k hk w1 w3 b1 b3 s1 kk3
  have hE : kof k = kbare k := by unfold kof; rw [if_neg (by omega)]; rfl
  have HP := fun w => Lib.hid (hasports_ w k.pr)
  rw [show decide (k.pr = 6 ∨ k.pr = 17) = false from by exact decide_eq_false (by omega)] at HP
  rw [hE]
  have HF := Lib.hid f1
  have HW1 := Lib.hid hw1
  have HW3 := Lib.hid hw3
  have HT2 := Lib.hid t2
  have HT6 := Lib.hid t6
  have HRG := Lib.hid rg
  have HB6 := Lib.hid b6
  have HK6 := Lib.hid kk6
  unfold hv kv
  clear hw1 hw3 f1 f3 b1 b3 kk3 s1 t2 rg t6 b6 kk6 hE hk h6 h7
  generalize kvc k ++ r = C at *
  go_enter Try.func11, Try.ntmps11
  go_wp2_with (first
    | ((try with_reducible rw [← HW1.out]); refine wpList_load_mid rfl 24 _ rfl w.heap.size 0 rfl (adc k.src) _ HF.out.src Try.underlying24 rfl HZS.out ?_)
    | (refine wpList_load_mid rfl 24 _ rfl w.heap.size 17 rfl (adc k.dst) _ HF.out.dst Try.underlying24 rfl HZD.out ?_)
    | ((with_reducible show wpList _ _ _ (⟨some 10, _, _, _, _, _⟩ :: _) _ _); refine' wpList_build rfl 31 _ rfl [(0, .agg (adc k.src).toArray), (1, .agg (adc k.dst).toArray), (2, .int .u8 (k.pr : Int))] ?hp _ HBT.out ?_; (case hp => rfl))
    | (refine' wpList_store_mid rfl 31 _ _ rfl w1.heap.size 0 (kvc (kbare k)).toArray ?hx rfl ?ht HZB.out HOB.out ?_; (case hx => rfl); (case ht => exact HT2.out); rw [← HW3.out])
    | (go_at_call 28; refine (HP _).out.mono ?_; rintro e w9 ⟨rfl, rfl⟩)
    | (refine wpList_load_mid rfl 31 _ rfl w1.heap.size 0 rfl (kvc (kbare k)) _ HRG.out Try.underlying31 rfl HZK.out ?_)
    | (refine' wpList_store_mid rfl 31 _ _ rfl (w.heap.size + 1) 0 (kvc (kbare k)).toArray ?hx rfl ?ht HZT.out HOK.out ?_; (case hx => rfl); (case ht => exact HT6.out)))
  try rw [Exit.noGoto_ret]
  refine bodyPost_ret (results_cell_row (p := 2) (ty := 31) (by kernel_rfl) _ _ (w.heap.size + 1) _ _ _ _ (by rfl) HB6.out Try.underlying31 rfl HZT.out) rfl ?_
  exact ⟨rfl, HK6.out⟩
theorem pof_ (k : Ky) (r : List Value) (hk : k.Wf) : Calls Try.prog 11 #[hv k r] w fun e w' => e = .returned (kv (kof k)) ∧ ∀ S, Keeps S w w' := by
  by_cases h6 : k.pr = 6
  · exact pof_six w k r hk h6
  · by_cases h7 : k.pr = 17
    · exact pof_sev w k r hk h7
    · exact pof_no w k r hk h6 h7
set_option maxRecDepth 100000 in
set_option maxHeartbeats 4000000 in
theorem rof_six (k : Ky) (r : List Value) (hk : k.Wf) (h6 : k.pr = 6) : Calls Try.prog 10 #[hv k r] w fun e w' => e = .returned (kv (kof k)) ∧ ∀ S, Keeps S w w' := by
  obtain ⟨w1, w3, hw1, hw3, f1, f3, b1, b3, kk3, s1, t2⟩ := of_enter w k r hk
  have x34 := f3.pr
  have x34a := f1.pr
  rw [Nat.zero_add] at x34 x34a
  have HZS := Lib.hid (ad_sz hk.s)
  have HZD := Lib.hid (ad_sz hk.d)
  have HZB := Lib.hid (show (Try.prog.info? 31).map (·.size) = some (kvc (kbare k)).toArray.size from by rw [List.size_toArray, kvc_len (kbare_wf hk)]; exact key_info)
  have HZT := Lib.hid (show (Try.prog.info? 31).map (·.size) = some (kvc (k)).toArray.size from by rw [List.size_toArray, kvc_len hk]; exact key_info)
  have HZK := Lib.hid (key_sz hk)
  have HOB := Lib.hid (all_oneCell_toArray (kvc_one (kbare k)))
  have HOK := Lib.hid (all_oneCell_toArray (kvc_one (k)))
  have HBT := Lib.hid (built3 hk)
  obtain ⟨x35, x36, y35, y36, z35, z36, rg, t6, b6, kk6⟩ := of_ports w k hk w1 w3 f3 b1 b3 s1 kk3
  have hE : kof k = k := by unfold kof; rw [if_pos (by omega)]
  have d1 : ((k.pr : Int) == 6) = true := beq_iff_eq.2 (by omega)
  rw [hE]
  have HF := Lib.hid f1
  have HW1 := Lib.hid hw1
  have HW3 := Lib.hid hw3
  have HT2 := Lib.hid t2
  have HT6 := Lib.hid t6
  have HRG := Lib.hid rg
  have HB6 := Lib.hid b6
  have HK6 := Lib.hid kk6
  unfold hv kv
  clear hw1 hw3 f1 f3 b1 b3 kk3 s1 t2 rg t6 b6 kk6 hE hk h6
  generalize kvc k ++ r = C at *
  go_enter Try.func10, Try.ntmps10
  go_wp2_with (first
    | ((try with_reducible rw [← HW1.out]); refine wpList_load_mid rfl 24 _ rfl w.heap.size 0 rfl (adc k.src) _ HF.out.src Try.underlying24 rfl HZS.out ?_)
    | (refine wpList_load_mid rfl 24 _ rfl w.heap.size 17 rfl (adc k.dst) _ HF.out.dst Try.underlying24 rfl HZD.out ?_)
    | ((with_reducible show wpList _ _ _ (⟨some 10, _, _, _, _, _⟩ :: _) _ _); refine' wpList_build rfl 31 _ rfl [(0, .agg (adc k.src).toArray), (1, .agg (adc k.dst).toArray), (2, .int .u8 (k.pr : Int))] ?hp _ HBT.out ?_; (case hp => rfl))
    | (refine' wpList_store_mid rfl 31 _ _ rfl w1.heap.size 0 (kvc (kbare k)).toArray ?hx rfl ?ht HZB.out HOB.out ?_; (case hx => rfl); (case ht => exact HT2.out); rw [← HW3.out])
    
    | (refine wpList_load_mid rfl 31 _ rfl w1.heap.size 0 rfl (kvc (k)) _ HRG.out Try.underlying31 rfl HZK.out ?_)
    | (refine' wpList_store_mid rfl 31 _ _ rfl (w.heap.size + 1) 0 (kvc (k)).toArray ?hx rfl ?ht HZT.out HOK.out ?_; (case hx => rfl); (case ht => exact HT6.out)))
  try rw [Exit.noGoto_ret]
  refine bodyPost_ret (results_cell_row (p := 2) (ty := 31) (by kernel_rfl) _ _ (w.heap.size + 1) _ _ _ _ (by rfl) HB6.out Try.underlying31 rfl HZT.out) rfl ?_
  exact ⟨rfl, HK6.out⟩
set_option maxRecDepth 100000 in
set_option maxHeartbeats 4000000 in
theorem rof_sev (k : Ky) (r : List Value) (hk : k.Wf) (h7 : k.pr = 17) : Calls Try.prog 10 #[hv k r] w fun e w' => e = .returned (kv (kof k)) ∧ ∀ S, Keeps S w w' := by
  obtain ⟨w1, w3, hw1, hw3, f1, f3, b1, b3, kk3, s1, t2⟩ := of_enter w k r hk
  have x34 := f3.pr
  have x34a := f1.pr
  rw [Nat.zero_add] at x34 x34a
  have HZS := Lib.hid (ad_sz hk.s)
  have HZD := Lib.hid (ad_sz hk.d)
  have HZB := Lib.hid (show (Try.prog.info? 31).map (·.size) = some (kvc (kbare k)).toArray.size from by rw [List.size_toArray, kvc_len (kbare_wf hk)]; exact key_info)
  have HZT := Lib.hid (show (Try.prog.info? 31).map (·.size) = some (kvc (k)).toArray.size from by rw [List.size_toArray, kvc_len hk]; exact key_info)
  have HZK := Lib.hid (key_sz hk)
  have HOB := Lib.hid (all_oneCell_toArray (kvc_one (kbare k)))
  have HOK := Lib.hid (all_oneCell_toArray (kvc_one (k)))
  have HBT := Lib.hid (built3 hk)
  obtain ⟨x35, x36, y35, y36, z35, z36, rg, t6, b6, kk6⟩ := of_ports w k hk w1 w3 f3 b1 b3 s1 kk3
  have hE : kof k = k := by unfold kof; rw [if_pos (by omega)]
  have d1 : ((k.pr : Int) == 6) = false := beq_eq_false_iff_ne.2 (by omega)
  have d2 : ((k.pr : Int) == 17) = true := beq_iff_eq.2 (by omega)
  rw [hE]
  have HF := Lib.hid f1
  have HW1 := Lib.hid hw1
  have HW3 := Lib.hid hw3
  have HT2 := Lib.hid t2
  have HT6 := Lib.hid t6
  have HRG := Lib.hid rg
  have HB6 := Lib.hid b6
  have HK6 := Lib.hid kk6
  unfold hv kv
  clear hw1 hw3 f1 f3 b1 b3 kk3 s1 t2 rg t6 b6 kk6 hE hk h7
  generalize kvc k ++ r = C at *
  go_enter Try.func10, Try.ntmps10
  go_wp2_with (first
    | ((try with_reducible rw [← HW1.out]); refine wpList_load_mid rfl 24 _ rfl w.heap.size 0 rfl (adc k.src) _ HF.out.src Try.underlying24 rfl HZS.out ?_)
    | (refine wpList_load_mid rfl 24 _ rfl w.heap.size 17 rfl (adc k.dst) _ HF.out.dst Try.underlying24 rfl HZD.out ?_)
    | ((with_reducible show wpList _ _ _ (⟨some 10, _, _, _, _, _⟩ :: _) _ _); refine' wpList_build rfl 31 _ rfl [(0, .agg (adc k.src).toArray), (1, .agg (adc k.dst).toArray), (2, .int .u8 (k.pr : Int))] ?hp _ HBT.out ?_; (case hp => rfl))
    | (refine' wpList_store_mid rfl 31 _ _ rfl w1.heap.size 0 (kvc (kbare k)).toArray ?hx rfl ?ht HZB.out HOB.out ?_; (case hx => rfl); (case ht => exact HT2.out); rw [← HW3.out])
    
    | (refine wpList_load_mid rfl 31 _ rfl w1.heap.size 0 rfl (kvc (k)) _ HRG.out Try.underlying31 rfl HZK.out ?_)
    | (refine' wpList_store_mid rfl 31 _ _ rfl (w.heap.size + 1) 0 (kvc (k)).toArray ?hx rfl ?ht HZT.out HOK.out ?_; (case hx => rfl); (case ht => exact HT6.out)))
  try rw [Exit.noGoto_ret]
  refine bodyPost_ret (results_cell_row (p := 2) (ty := 31) (by kernel_rfl) _ _ (w.heap.size + 1) _ _ _ _ (by rfl) HB6.out Try.underlying31 rfl HZT.out) rfl ?_
  exact ⟨rfl, HK6.out⟩
set_option maxRecDepth 100000 in
set_option maxHeartbeats 4000000 in
theorem rof_no (k : Ky) (r : List Value) (hk : k.Wf) (h6 : ¬ k.pr = 6) (h7 : ¬ k.pr = 17) : Calls Try.prog 10 #[hv k r] w fun e w' => e = .returned (kv (kof k)) ∧ ∀ S, Keeps S w w' := by
  obtain ⟨w1, w3, hw1, hw3, f1, f3, b1, b3, kk3, s1, t2⟩ := of_enter w k r hk
  have x34 := f3.pr
  have x34a := f1.pr
  rw [Nat.zero_add] at x34 x34a
  have HZS := Lib.hid (ad_sz hk.s)
  have HZD := Lib.hid (ad_sz hk.d)
  have HZB := Lib.hid (show (Try.prog.info? 31).map (·.size) = some (kvc (kbare k)).toArray.size from by rw [List.size_toArray, kvc_len (kbare_wf hk)]; exact key_info)
  have HZT := Lib.hid (show (Try.prog.info? 31).map (·.size) = some (kvc (kbare k)).toArray.size from by rw [List.size_toArray, kvc_len (kbare_wf hk)]; exact key_info)
  have HZK := Lib.hid (key_sz (kbare_wf hk))
  have HOB := Lib.hid (all_oneCell_toArray (kvc_one (kbare k)))
  have HOK := Lib.hid (all_oneCell_toArray (kvc_one (kbare k)))
  have HBT := Lib.hid (built3 hk)
  obtain ⟨rg, t6, b6, kk6⟩ := of_bare w k hk w1 w3 b1 b3 s1 kk3
  have hE : kof k = kbare k := by unfold kof; rw [if_neg (by omega)]; rfl
  have d1 : ((k.pr : Int) == 6) = false := beq_eq_false_iff_ne.2 (by omega)
  have d2 : ((k.pr : Int) == 17) = false := beq_eq_false_iff_ne.2 (by omega)
  rw [hE]
  have HF := Lib.hid f1
  have HW1 := Lib.hid hw1
  have HW3 := Lib.hid hw3
  have HT2 := Lib.hid t2
  have HT6 := Lib.hid t6
  have HRG := Lib.hid rg
  have HB6 := Lib.hid b6
  have HK6 := Lib.hid kk6
  unfold hv kv
  clear hw1 hw3 f1 f3 b1 b3 kk3 s1 t2 rg t6 b6 kk6 hE hk h6 h7
  generalize kvc k ++ r = C at *
  go_enter Try.func10, Try.ntmps10
  go_wp2_with (first
    | ((try with_reducible rw [← HW1.out]); refine wpList_load_mid rfl 24 _ rfl w.heap.size 0 rfl (adc k.src) _ HF.out.src Try.underlying24 rfl HZS.out ?_)
    | (refine wpList_load_mid rfl 24 _ rfl w.heap.size 17 rfl (adc k.dst) _ HF.out.dst Try.underlying24 rfl HZD.out ?_)
    | ((with_reducible show wpList _ _ _ (⟨some 10, _, _, _, _, _⟩ :: _) _ _); refine' wpList_build rfl 31 _ rfl [(0, .agg (adc k.src).toArray), (1, .agg (adc k.dst).toArray), (2, .int .u8 (k.pr : Int))] ?hp _ HBT.out ?_; (case hp => rfl))
    | (refine' wpList_store_mid rfl 31 _ _ rfl w1.heap.size 0 (kvc (kbare k)).toArray ?hx rfl ?ht HZB.out HOB.out ?_; (case hx => rfl); (case ht => exact HT2.out); rw [← HW3.out])
    
    | (refine wpList_load_mid rfl 31 _ rfl w1.heap.size 0 rfl (kvc (kbare k)) _ HRG.out Try.underlying31 rfl HZK.out ?_)
    | (refine' wpList_store_mid rfl 31 _ _ rfl (w.heap.size + 1) 0 (kvc (kbare k)).toArray ?hx rfl ?ht HZT.out HOK.out ?_; (case hx => rfl); (case ht => exact HT6.out)))
  try rw [Exit.noGoto_ret]
  refine bodyPost_ret (results_cell_row (p := 2) (ty := 31) (by kernel_rfl) _ _ (w.heap.size + 1) _ _ _ _ (by rfl) HB6.out Try.underlying31 rfl HZT.out) rfl ?_
  exact ⟨rfl, HK6.out⟩
theorem rof_ (k : Ky) (r : List Value) (hk : k.Wf) : Calls Try.prog 10 #[hv k r] w fun e w' => e = .returned (kv (kof k)) ∧ ∀ S, Keeps S w w' := by
  by_cases h6 : k.pr = 6
  · exact rof_six w k r hk h6
  · by_cases h7 : k.pr = 17
    · exact rof_sev w k r hk h7
    · exact rof_no w k r hk h6 h7
end
end Go.Proofs.Ytdnddlmlbnachaa.fw
