/-
  patchbaylaw12's spare.
-/
import Derived.Test.YtbiadglhfpapaaaBkC
set_option linter.unusedVariables false
namespace Go.Proofs.Ytbiadglhfpapaaa.bk
open Go.RowKit Go.Proofs.Ytbiadglhfpapaaa.oc Go.Proofs.Ytbiadglhfpapaaa.mz
theorem Am.wpList_appendA {w wi : World} {v : Value} {l : List (Nat × Nat)} {ops : Array Oper} {rest : List Oper} {o : Oper} {a : Act} {Q : Exit → Act → World → Prop} (hgd : o.guard = none) (s x : Operand)
    (ho : o.op = .call { callee := .builtin .append, args := #[s, x], argTypes := #[36, 36] }) (h : Am w wi v l) (hs : a.eval s = v)
    (A : Option Addr) (m c B : Nat) (news : List (Nat × Nat)) (hx : a.eval x = .slice A m c) (hm : news.length = m) (hb : Asks wi B A news) (hl : l.length + m ≤ 1000000000000)
    (hk : ∀ v' w', Am w w' v' (l ++ news) → Keeps (fun b => v.ownBlock = some b) wi w' → wpList Try.prog ops Q rest (a.put o.dst v') w') : wpList Try.prog ops Q (o :: rest) a wi := by
  obtain ⟨i0, hi0, hz0, hz1, hz2⟩ := info_parts pair_info
  have core : ∀ ad : Addr, A = some ad → (∀ j u, (askc news)[j]? = some u → wi.cell? (ad.add j) = some u) → wpList Try.prog ops Q (o :: rest) a wi := by
    intro ad hA hc
    refine wpList_apps hgd s x 36 ho w.heap.size 50 i0 _ 2 16 Try.underlying36 hi0 hz0 hz1 hz2 rfl (by decide) v l.length (askc l) hs h.own ad m c (askc news) (by rw [hx, hA]) (by rw [askc_len, hm]) hc (askc_one _) (by unfold maxLen; omega) (by omega) (h.keep (fun _ => False)).size ?_
    intro v' w' hown hg hat
    have hlt : ∀ b, v.ownBlock = some b → w.heap.size ≤ b := fun b hb => (h.own.lt b hb).1
    have kk : Keeps (fun b => v.ownBlock = some b) wi w' := Keeps.of_grown hg
    refine hk v' w' ⟨?_, fun S => ?_⟩ kk
    · rw [List.length_append, hm, askc_app]; exact hown
    · have k1 := h.keep S
      exact ⟨Nat.le_trans k1.size kk.size, fun b hb hs => by rw [kk.block b (Nat.lt_of_lt_of_le hb k1.size) (fun e => by have := hlt _ e; omega), k1.block b hb hs], k1.same.trans kk.same⟩
  rcases Nat.eq_zero_or_pos m with h0 | h0
  · obtain rfl : news = [] := List.eq_nil_of_length_eq_zero (by omega)
    rcases A with _ | ad
    · refine wpList_plain hgd fun K hK => ?_
      have hrun := run_app_nil w.heap.size 36 o.type 50 i0 2 Try.underlying36 hi0 v l.length (askc l) h.own c
      unfold Oper.wp execOp
      simp only [ho, resolve, invoke, builtin, Sem.run_bind, Sem.run_pure, Result.andThen_ok, List.map_toArray, List.map_cons, List.map_nil, hs, hx, h0, hrun]
      exact hK _ _ (hk v wi (by simpa using h) (Keeps.refl _ wi))
    · exact core ad rfl (fun j u hu => by simp [askc] at hu)
  · obtain ⟨ad, hA, hc⟩ := hb.rd.src (by rw [askc_len, hm]; omega)
    exact core ad hA hc
/-- the marked room -/
def room : Nat → List (Nat × Nat)
  | 0 => []
  | k + 1 => room k ++ [(77, k)]
theorem room_len : ∀ k, (room k).length = k
  | 0 => rfl
  | k + 1 => by simp [room, room_len k]
section
variable (w : World)
set_option maxRecDepth 100000 in
set_option maxHeartbeats 2000000 in
theorem spare_ (A : Option Addr) (m c : Nat) (l : List (Nat × Nat)) (ha : Asks w w.heap.size A l) (hl : l.length = m) (hm9 : m ≤ 100000000000) : Calls Try.prog 21 #[.slice A m c] w fun e w' => ∃ A' c', m + 4 ≤ c' ∧ e = .returned (.slice A' m c') ∧ Am w w' (.slice A' (m + 4) c') (l ++ room 4) := by
  have HA := Lib.hid ha
  have HL := Lib.hid (show l.length = m ∧ m ≤ 100000000000 from ⟨hl, hm9⟩)
  have hm9' : (m : Int) ≤ 100000000000 := by omega
  clear ha hl hm9
  go_enter Try.func21, Try.ntmps21
  go_wp2_with (at_builtin; refine Am.wpList_appendA rfl _ _ rfl (Am.nil_ (fun S => Keeps.refl S w)) rfl A m c w.heap.size l rfl HL.out.1 HA.out (by have := HL.out; simp; omega) ?_; intro v1 w1 m1 kk1; have M1 := Lib.hid (by simpa using m1 : Am w w1 v1 l); clear m1 kk1)
  go_loopw [3, 4] (fun v i wr => ∃ k : Nat, k ≤ 4 ∧ i = .int .u64 (k : Int) ∧ Am w wr v (l ++ room k)) (fun v i _ => 5 - (intOf i).toNat)
  case atStart => exact ⟨0, Nat.zero_le _, rfl, by simpa [room] using M1.out⟩
  case round =>
    clear M1
    obtain ⟨k, hk, rfl, hm⟩ := hrel
    have HM := Lib.hid hm
    have k0 : (0 : Int) ≤ (k : Int) := by omega
    rcases Nat.lt_or_ge k 4 with hlt | hlt
    · have k1 : (k : Int) < 4 := by omega
      have HLT := Lib.hid hlt
      have M3 := Lib.hid (hm.alloc (.cells #[.int .u64 77, .int .u64 (k : Int)] 50))
      have B3 := Lib.hid (Blk.new wr 50 (askc [(77, k)]).toArray)
      have HN : Hid ((l ++ room k).length + 1 ≤ 1000000000000) := Lib.hid (by rw [List.length_append, room_len]; have := HL.out; omega)
      clear hm hk hlt HM
      go_wp2_with (at_builtin; refine Am.wpList_append rfl _ _ rfl M3.out rfl wr.heap.size 1 1 [(77, k)] rfl rfl B3.out HN.out ?_; intro v4 w4 m4 kk4; have M4 := Lib.hid m4; clear m4 kk4)
      go_roundw
      case rel => exact ⟨k + 1, HLT.out, by go_num, by rw [room, ← List.append_assoc]; exact M4.out⟩
      case measure => have := HLT.out; simp [intOf]; omega
    · have hke : k = 4 := by omega
      subst hke
      have hlen : (l ++ room 4).length = m + 4 := by rw [List.length_append, room_len, HL.out.1]
      have hown := hm.own
      rw [hlen] at hown
      rcases hown.2 with ⟨_, hn⟩ | ⟨g, cap, cur, hv, hg, hcell, hle, hcap, hsz, htk⟩
      · exact absurd hn (by omega)
      · subst hv
        have hcap' : (m : Int) + 4 ≤ (cap : Int) := by omega
        have HC := Lib.hid hle
        clear hk hlt hm hlen hown hg hcell hle hcap hsz htk k0
        go_wp2
        try rw [Exit.noGoto_ret]
        go_ret
        exact ⟨_, _, HC.out, rfl, HM.out⟩
end
end Go.Proofs.Ytbiadglhfpapaaa.bk
