/-
  Addresses out of a packet's bytes: addrOfSix.
-/
import Derived.Test.YtidengmcbppcoaaPkL
set_option linter.unusedVariables false
set_option linter.unusedSimpArgs false
namespace Go.Proofs.Ytidengmcbppcoaa.pk
open Go.RowKit Go.Proofs.Ytidengmcbppcoaa.oc Go.Proofs.Ytidengmcbppcoaa.mz Go.Proofs.Ytidengmcbppcoaa.pf Go.Proofs.Ytidengmcbppcoaa.wh Go.Proofs.Ytidengmcbppcoaa.qk Go.Proofs.Ytidengmcbppcoaa.bys
def zad : List Value := [.bool false, .int .u8 0, .int .u8 0, .int .u8 0, .int .u8 0, .int .u8 0, .int .u8 0, .int .u8 0, .int .u8 0, .int .u8 0, .int .u8 0, .int .u8 0, .int .u8 0, .int .u8 0, .int .u8 0, .int .u8 0, .int .u8 0]
theorem sixteen_ {l : List Nat} (h : l.length = 16) : ∃ q0 q1 q2 q3 q4 q5 q6 q7 q8 q9 q10 q11 q12 q13 q14 q15, l = [q0, q1, q2, q3, q4, q5, q6, q7, q8, q9, q10, q11, q12, q13, q14, q15] := by
  match l, h with
  | [q0, q1, q2, q3, q4, q5, q6, q7, q8, q9, q10, q11, q12, q13, q14, q15], _ => exact ⟨q0, q1, q2, q3, q4, q5, q6, q7, q8, q9, q10, q11, q12, q13, q14, q15, rfl⟩
theorem built_six {l : List Nat} (h : l.length = 16) : Try.prog.built 24 [(0, .bool true), (1, .agg (b8s l).toArray)] = some (adc ⟨true, l⟩).toArray := by
  obtain ⟨q0, q1, q2, q3, q4, q5, q6, q7, q8, q9, q10, q11, q12, q13, q14, q15, rfl⟩ := sixteen_ h
  show _ = _
  kernel_rfl
theorem p_build {P : Program} {ops : Array Oper} {rest : List Oper} {op : Oper} {a : Act} {w : World} {Q : Exit → Act → World → Prop} (hgd : op.guard = none) (t : TypeId) (parts : Array (Nat × Operand)) (ho : op.op = .build t parts)
    (ps : List (Nat × Value)) (hp : (parts.toList.map fun (i, x) => (i, a.eval x)) = ps) (cells : Array Value) (hb : P.built t ps = some cells) (h : wpList P ops Q rest (a.put op.dst (.agg cells)) w) : wpList P ops Q (op :: rest) a w := by
  refine wpList_plain hgd fun _ hK => ?_
  subst hp
  have hr := run_build (P := P) w t (parts.map fun (i, x) => (i, a.eval x)) cells (by rw [Array.toList_map]; exact hb)
  unfold Oper.wp execOp
  simp only [ho, Sem.run_bind, hr, Result.andThen_ok]
  exact hK _ _ h
theorem p_mid {w : World} {g : Nat} {T : TypeId} {cs : List Value} (h : Blk w g T cs) (o : Nat) (vs : List Value) (hl : o + vs.length ≤ cs.length) : w.there g o vs.toArray.size ∧ Blk (w.setCells g o vs) g T (cs.take o ++ vs ++ cs.drop (o + vs.length)) ∧ Keeps (· = g) w (w.setCells g o vs) := by
  refine ⟨fun j hj => ?_, Blk.setMid vs w cs o h hl, keeps_setCells g vs w o⟩
  have hj' : j < vs.length := by simpa using hj
  refine ⟨?_, h.frozen _⟩
  rw [h.cell, List.getElem?_eq_getElem (by omega)]; rfl
theorem zad_box (w : World) : ∃ w1, w1 = w.alloc (.cells zad.toArray 24) ∧ (∀ S, Keeps S w w1) ∧ Blk w1 w.heap.size 24 zad := ⟨_, rfl, fun S => (Keeps.refl S w).alloc _, Blk.new w _ zad.toArray⟩
section
variable (w : World)
set_option maxRecDepth 100000 in
set_option maxHeartbeats 1500000 in
theorem paddr6_ (b o c : Nat) (l : List Nat) (hl : l.length = 16) (hs : ∀ x ∈ l, x < 256) (hr : w.rangeAt b o (b8s l)) (hb : b < w.heap.size) :
    Calls Try.prog 76 #[.slice (some ⟨b, o, none⟩) 16 c] w fun e w' => e = .returned (av ⟨true, l⟩) ∧ ∀ S, Keeps S w w' := by
  have hwf : (⟨true, l⟩ : Ad).Wf := ⟨hl, hs⟩
  obtain ⟨w1, hw1, k1, b1⟩ := zad_box w
  have hr1 : w1.rangeAt b o (b8s l) := fun j v hj => Keeps.cell (k1 (fun _ => False)) (hr j v hj) (fun z => z)
  obtain ⟨t2, b2, k2⟩ := p_mid b1 0 (adc ⟨true, l⟩) (by rw [adc_len hwf]; decide)
  have e2 : zad.take 0 ++ adc ⟨true, l⟩ ++ zad.drop (0 + (adc ⟨true, l⟩).length) = adc ⟨true, l⟩ := by
    rw [adc_len hwf, List.take_zero, List.nil_append]
    exact List.append_nil _
  rw [e2] at b2
  have kk : ∀ S, Keeps S w (w1.setCells w.heap.size 0 (adc ⟨true, l⟩)) := fun S => ⟨Nat.le_trans (k1 S).size k2.size, fun x hx hn => by rw [k2.block x (Nat.lt_of_lt_of_le hx (k1 S).size) (by omega), (k1 S).block x hx hn], (k1 S).same.trans k2.same⟩
  have hat : (Instr.arrayAt 22 (.slice (some ⟨b, o, none⟩) 16 c)).run Try.prog w1 = .ok (.pointer (some ⟨b, o, none⟩)) w1 := by
    simp [Instr.arrayAt, run_underlying Try.underlying22]
  unfold zad at hw1
  have HR := Lib.hid hr1
  have HSZ : Hid ((Try.prog.info? 22).map (·.size) = some (b8s l).length) := Lib.hid (by rw [show (b8s l).length = 16 from by simp [b8s, hl]]; kernel_rfl)
  have HBT := Lib.hid (built_six hl)
  have HZT := Lib.hid (show (Try.prog.info? 24).map (·.size) = some (adc ⟨true, l⟩).toArray.size from by rw [List.size_toArray]; exact ad_sz hwf)
  have HOK := Lib.hid (all_oneCell_toArray (adc_one ⟨true, l⟩))
  have HW := Lib.hid hw1
  have HT2 := Lib.hid t2
  have HB2 := Lib.hid b2
  have HK2 := Lib.hid kk
  unfold av
  rw [hw1] at hat
  clear hw1 k1 b1 hr1 t2 b2 k2 e2 kk hwf hl hs hr hb
  generalize b8s l = BS at *
  generalize adc ⟨true, l⟩ = CS at *
  go_enter Try.func76, Try.ntmps76
  go_wp2_with (first
    | ((try with_reducible rw [← HW.out]); refine wpList_load_mid rfl 22 _ rfl b o rfl BS _ HR.out Try.underlying22 rfl HSZ.out ?_)
    | (refine p_build rfl 24 _ rfl _ rfl _ HBT.out ?_)
    | (refine' wpList_store_mid rfl 24 _ _ rfl w.heap.size 0 CS.toArray ?hx rfl ?ht HZT.out HOK.out ?_; (case hx => rfl); (case ht => exact HT2.out)))
  try rw [Exit.noGoto_ret]
  refine bodyPost_ret (results_cell_row (p := 2) (ty := 24) (by kernel_rfl) _ _ w.heap.size _ _ _ _ (by rfl) HB2.out Try.underlying24 rfl HZT.out) rfl ?_
  exact ⟨rfl, HK2.out⟩
end
end Go.Proofs.Ytidengmcbppcoaa.pk
