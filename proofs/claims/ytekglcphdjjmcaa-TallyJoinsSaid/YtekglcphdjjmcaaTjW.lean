/-
  TallyJoins' body.
-/
import Derived.Test.YtekglcphdjjmcaaTjJ
import Derived.Test.YtekglcphdjjmcaaTaJ
import Derived.Test.YtekglcphdjjmcaaTaB
import Derived.Test.YtekglcphdjjmcaaApR
import Derived.Test.YtekglcphdjjmcaaBs
import Derived.IntWalk
import Derived.BigFrame
import Derived.BigRegion
set_option linter.unusedVariables false
namespace Go.Proofs.Ytekglcphdjjmcaa.oc
open Go.RowKit Go.Proofs.Ytekglcphdjjmcaa.oc Go.Proofs.Ytekglcphdjjmcaa.mz Go.Proofs.Ytekglcphdjjmcaa.th Go.Proofs.Ytekglcphdjjmcaa.tj
/-- a load of a whole aggregate that is asked for under a guard -/
theorem wpList_load_want {P : Program} {ops : Array Oper} {Q : Exit → Act → World → Prop} {a : Act} {w : World} {rest : List Oper} {o : Oper} (hw : Region.wanted o (yielded ops a.tmps) = true) (ty : TypeId) (x : Operand) (ho : o.op = .load ty x)
    (b off : Nat) (hx : a.eval x = .pointer (some ⟨b, off, none⟩)) (cs : List Value) (d : TypeDesc) (hc : w.rangeAt b off cs)
    (hu : P.underlying ty = some d) (hd : d.isRow = true) (hi : (P.info? ty).map (·.size) = some cs.length)
    (h : wpList P ops Q rest (a.put o.dst (.agg cs.toArray)) w) : wpList P ops Q (o :: rest) a w :=
  BigFrame.wpList_want hw fun K hK => wp_load_mid ty x ho b off hx cs d hc hu hd hi (hK _ _ h)
theorem rows_le : ∀ (rows : List (List Nat)), (∀ r ∈ rows, r.length ≤ 40) → rows.flatten.length ≤ rows.length * 40
  | [], _ => by simp
  | r :: t, h => by
    have := rows_le t (fun x hx => h x (by simp [hx]))
    have := h r (by simp)
    simp only [List.flatten_cons, List.length_append, List.length_cons]; omega
/-- a fresh variable of the histogram's type, written whole -/
theorem put_hist (w : World) (Z : Array Value) (l : List Nat) (hZ : Z.size = 67) (hl7 : l.length = 67) : (w.alloc (.cells Z 34)).there w.heap.size 0 (u64s l).toArray.size ∧ (Try.prog.info? 34).map (·.size) = some (u64s l).toArray.size ∧ (u64s l).toArray.all (·.oneCell') = true ∧
    Blk ((w.alloc (.cells Z 34)).setCells w.heap.size 0 (u64s l)) w.heap.size 34 (u64s l) ∧ ∀ S, Keeps S w ((w.alloc (.cells Z 34)).setCells w.heap.size 0 (u64s l)) := by
  have hYs : (u64s l).toArray.size = 67 := by rw [List.size_toArray, u64s, List.length_map, hl7]
  have b8 := Blk.new w 34 Z
  have hth := wh.Blk.thereAll b8
  rw [Array.length_toList, hZ, ← hYs] at hth
  have hsz := (zero_of_info zh_info).2
  rw [← hYs] at hsz
  refine ⟨hth, hsz, wh.u64_ones _, wh.Blk.setAll b8 _ (by rw [show Z.toList.length = 67 from by rw [Array.length_toList]; exact hZ, u64s, List.length_map, hl7]), fun S => ?_⟩
  exact (((Keeps.refl (· = w.heap.size) w).alloc _).trans (wh.keeps_setCells w.heap.size (u64s l) (w.alloc (.cells Z 34)) 0)).mono (fun b hb e => absurd e (by omega))
/-- what the loop back finds: m rows are left -/
def Bk (w : World) (D : Nat) (rows : List (List Nat)) (i : Value) (wr : World) : Prop := ∃ m : Nat, m ≤ rows.length ∧ i = .int .i64 ((m : Int) - 1) ∧ Blk wr D 34 (u64s (hl (rows.drop m).flatten)) ∧ Keeps (· = D) w wr
/-- two histograms in a row of their own -/
theorem hs_two (w : World) (a b : List Nat) (ha : a.length = 67) (hb : b.length = 67) (ha2 : ∀ y ∈ a, y < 18446744073709551616) (hb2 : ∀ y ∈ b, y < 18446744073709551616) : Hs (w.alloc (.cells (u64s a ++ u64s b).toArray 34)).drew (w.alloc (.cells (u64s a ++ u64s b).toArray 34)).drew.heap.size (some ⟨w.heap.size, 0, none⟩) 2 [a, b] := by
  have hbk := Blk.drew (Blk.new w 34 (u64s a ++ u64s b).toArray)
  rw [List.toList_toArray] at hbk
  have hal : (u64s a).length = 67 := by rw [u64s, List.length_map, ha]
  refine ⟨rfl, fun i x hx => ?_⟩
  rcases i with _ | _ | i
  · simp at hx
    subst hx
    refine ⟨ha, ha2, w.heap.size, 0, rfl, size_alloc _ _, fun j v hv => ?_⟩
    rw [hbk.cell, show 0 + 0 * 67 + j = j from by omega]
    rw [List.getElem?_append_left (List.getElem?_eq_some_iff.1 hv).1]
    exact hv
  · simp at hx
    subst hx
    refine ⟨hb, hb2, w.heap.size, 0, rfl, size_alloc _ _, fun j v hv => ?_⟩
    rw [hbk.cell, List.getElem?_append_right (by omega), hal, show 0 + (0 + 1) * 67 + j - 67 = j from by omega]
    exact hv
  · simp at hx
theorem que_cell {w : World} {base : Nat} {e : TypeId} {A : Option Addr} {n c : Nat} {xs : List Value} (h : Que w base e (.slice A n c) xs) {m : Nat} {u : Value} (hu : xs[m]? = some u) : ∃ g off, A = some ⟨g, off, none⟩ ∧ w.cell? ⟨g, off + m, none⟩ = some u := by
  rcases h with ⟨_, rfl⟩ | ⟨g, off, cap, cs, he, _, hb, _, _, hc⟩
  · simp at hu
  · injection he with ha
    exact ⟨g, off, ha, by rw [hb.cell]; exact hc m u hu⟩
theorem atMost_snoc {l : List Nat} {m x : Nat} (hx : l[m]? = some x) (v : Nat) : atMost (l.take (m + 1)) v = atMost (l.take m) v + (if x ≤ v then 1 else 0) := by
  rw [List.take_add_one, hx]
  unfold atMost
  rw [List.countP_append]
  congr 1
  by_cases h : x ≤ v <;> simp [h]
theorem atMost_le (l : List Nat) (v : Nat) : atMost l v ≤ l.length := List.countP_le_length
/-- what the counting loop's head finds -/
def Cn (all : List Nat) (v hf : Nat) (w : World) (i a b : Value) (wr : World) : Prop := ∃ m : Nat, m ≤ all.length ∧ i = .int .i64 (m : Int) ∧ a = .int .u64 (atMost (all.take m) v : Int) ∧ b = .int .u64 (atMost (all.take m) hf : Int) ∧ wr = w
set_option maxRecDepth 100000 in
set_option maxHeartbeats 16000000 in
theorem walk_tallyJoins (W0 : World) (A : Option Addr) (n c : Nat) (rows0 : List (List Nat)) (hx : IsGrid .u64 18446744073709551616 W0 A n rows0) (hnc : n ≤ c) (hz : c * 24 ≤ 140737488351232) (part : Nat) (hp : part < 18446744073709551616) (of : Nat) (ho : of < 18446744073709551616) :
    Calls Try.prog 4 #[.slice A n c, .int .u64 (part : Int), .int .u64 (of : Int)] W0 fun e w' => e = .returned (.bool true) ∧ Below W0.heap.size W0 w' := by
  have hg0 := gr_of_grid hx
  have HG0 := Lib.hid hg0
  have HPO := Lib.hid (show part < 18446744073709551616 ∧ of < 18446744073709551616 ∧ n < 1000000000000000000 from ⟨hp, ho, by omega⟩)
  have HAW := Lib.hid (awake_ W0)
  have hpt := th_ptr
  clear hg0 hx hnc hz hp ho
  go_enter Try.func4, Try.ntmps4
  go_wp2_with fail
  refine HAW.out.mono ?_
  rintro e w1 ⟨rfl, k1⟩
  have K1 : Hid (∀ S, Keeps S W0 w1) := Lib.hid k1
  have hgr1 : Gr w1 w1.heap.size A n rows0 := by
    have g := HG0.out.keeps (k1 (fun _ => False)) (fun _ _ z => z)
    exact ⟨g.1, fun i x hx => by
      obtain ⟨h1, b, o, A', c', h2, h3, h4, h5, h6⟩ := g.2 i x hx
      have hs := (k1 (fun _ => False)).size
      exact ⟨h1, b, o, A', c', h2, by omega, h4, h5, Rd.wider h6 hs⟩⟩
  have HF := Lib.hid (few_ A n c rows0 w1 hgr1 HPO.out.2.2)
  clear k1 HAW HG0 hgr1
  go_wp2_with fail
  refine HF.out.mono ?_
  rintro e w2 ⟨A2, c2, rfl, hg2, k2⟩
  have hrl : 1 ≤ (fewR rows0).length ∧ (fewR rows0).length ≤ 6 ∧ (∀ r ∈ fewR rows0, r.length ≤ 40) := by
    unfold fewR
    split
    · exact ⟨by decide, by decide, fun r hr => by simp at hr; subst hr; decide⟩
    · rename_i h
      refine ⟨by simp only [cutR, List.length_map, List.length_take]; omega, by simp only [cutR, List.length_map, List.length_take]; omega, fun r hr => ?_⟩
      simp only [cutR, List.mem_map] at hr
      obtain ⟨x, _, rfl⟩ := hr
      rw [List.length_take]; omega
  have HRL := Lib.hid hrl
  have K2 : Hid (∀ S, Keeps S W0 w2) := Lib.hid (fun S => (K1.out S).trans (k2 S))
  generalize fewR rows0 = rows at *
  have HG := Lib.hid hg2
  have HNH := Lib.hid (new_hist w2)
  have hR0 : (0 : Int) ≤ (rows.length : Int) := by omega
  have hR6 : (rows.length : Int) ≤ 6 := by omega
  clear k2 hrl hg2 HF K1
  go_wp2_with fail
  refine HNH.out.mono ?_
  rintro e w3 ⟨H, W, C, rfl, h3, hH, hW, hC, k3⟩
  have K3 : Hid (∀ S, Keeps S W0 w3) := Lib.hid (fun S => (K2.out S).trans (k3 S))
  have HG3 := Lib.hid (HG.out.keeps (k3 (fun _ => False)) (fun _ _ z => z))
  have HBS := Lib.hid (show w2.heap.size ≤ H ∧ w2.heap.size ≤ W ∧ w2.heap.size ≤ C ∧ W0.heap.size ≤ w2.heap.size from ⟨hH, hW, hC, (K2.out (fun _ => False)).size⟩)
  have HO0 : Hid (Out w3 w2.heap.size H W C rows (.int .i64 0) (.slice none 0 0) (.slice none 0 0) w3) := Lib.hid ⟨0, Nat.zero_le _, rfl, ⟨by rw [← hs_nil] at h3; exact h3, World.ownsRow_nil _ _ _ _, Que.nil_ _ _ _, fun b hb => by simp [Value.ownBlock] at hb, fun b hb => by simp [Value.ownBlock] at hb, fun b hb => by cases hb⟩, Keeps.refl _ _⟩
  clear k3 hH hW hC HNH h3 HG
  generalize w2.heap.size = base at *
  go_wp2_with fail
  go_loopw [10, 8, 9] (Out w3 base H W C rows) (fun i _ _ _ => 6 - (intOf i).toNat)
  case atStart => exact HO0.out
  case round =>
    clear HO0
    obtain ⟨k, hk, rfl, hJ, hkk⟩ := hrel
    have HJ := Lib.hid hJ
    have HKK := Lib.hid hkk
    have k0 : (0 : Int) ≤ (k : Int) := by omega
    clear hJ hkk
    by_cases hlt : k < rows.length
    · have hlt' : (k : Int) < (rows.length : Int) := by omega
      obtain ⟨r, hr⟩ : ∃ r, rows[k]? = some r := ⟨_, List.getElem?_eq_getElem hlt⟩
      obtain ⟨r64, b, o, Ar, cr, rfl, hb, hc, hrc, hrd⟩ := HG3.out.2 k r hr
      have HR := Lib.hid (show (∀ y ∈ r, y < 18446744073709551616) ∧ rows[k]? = some r ∧ r.length ≤ 40 from ⟨r64, hr, HRL.out.2.2 r (List.mem_of_getElem? hr)⟩)
      have HHC : Hid (∀ w', Keeps (fun b => base ≤ b) w3 w' → w'.cell? ⟨b, o + k, none⟩ = some (.slice Ar r.length cr)) := Lib.hid (fun w' q => q.cell hc (by omega))
      have HVC : Hid (∀ w' (m v : Nat), Keeps (fun b => base ≤ b) w3 w' → r[m]? = some v → ∃ br or, Ar = some ⟨br, or, none⟩ ∧ w'.cell? ⟨br, or + m, none⟩ = some (.int .u64 (v : Int))) := Lib.hid (fun w' m v q hv => by
        obtain ⟨br, or, e, hlt, h⟩ := hrd m (.int .u64 (v : Int)) (by simp [u64s, hv])
        exact ⟨br, or, e, q.cell h (by omega)⟩)
      have HNH := Lib.hid (new_hist wr)
      clear hr r64 hb hc hrc hrd
      go_wp2_with fail
      refine HNH.out.mono ?_
      rintro e w4 ⟨H2, W2, C2, rfl, h4, hH2, hW2, hC2, k4⟩
      have hj := HJ.out
      have l1 := hj.th.ltH
      have l2 := hj.th.ltW
      have l3 := hj.th.ltC
      have HNE := Lib.hid (show (H ≠ H2 ∧ H ≠ W2 ∧ H ≠ C2 ∧ W ≠ H2 ∧ W ≠ W2 ∧ W ≠ C2 ∧ C ≠ H2 ∧ C ≠ W2 ∧ C ≠ C2) ∧ base ≤ H2 ∧ base ≤ W2 ∧ base ≤ C2 from ⟨⟨by omega, by omega, by omega, by omega, by omega, by omega, by omega, by omega, by omega⟩, by have := HBS.out.1; omega, by have := HBS.out.1; omega, by have := HBS.out.1; omega⟩)
      have KK4 := Lib.hid (show Keeps (fun b => base ≤ b) w3 w4 from HKK.out.trans (k4 _))
      have HI0 : Hid (Inn w3 base H W C H2 W2 C2 (rows.take k) r u8 (.int .i64 0) u9 w4) := Lib.hid ⟨0, Nat.zero_le _, rfl, by
        have := hj.more k4 (L := [H2, W2, C2]) (fun b hb => by
          have m1 := h4.ltH
          have m2 := h4.ltW
          have m3 := h4.ltC
          simp only [List.mem_cons, List.not_mem_nil, or_false] at hb
          rcases hb with e | e | e <;> subst e <;> omega)
        simpa using this, by rw [List.take_zero, hs_nil]; exact h4, KK4.out⟩
      clear hj l1 l2 l3 h4 hH2 hW2 hC2 k4 HNH
      go_wp2_with fail
      go_loopw [12, 9] (Inn w3 base H W C H2 W2 C2 (rows.take k) r u8) (fun i _ _ => 41 - (intOf i).toNat)
      case atStart => exact HI0.out
      case round =>
        clear HI0
        obtain ⟨m, hm, rfl, hj, ht, hkk⟩ := hrel
        have HJ2 := Lib.hid hj
        have HT2 := Lib.hid ht
        have HKJ := Lib.hid hkk
        have m0 : (0 : Int) ≤ (m : Int) := by omega
        have c1 := HHC.out wr hkk
        clear hj ht hkk
        by_cases hml : m < r.length
        · have hml' : (m : Int) < (r.length : Int) := by omega
          have hm41 : (m : Int) < 41 := by have := HR.out.2.2; omega
          obtain ⟨v, hv⟩ : ∃ v, r[m]? = some v := ⟨_, List.getElem?_eq_getElem hml⟩
          obtain ⟨br, or, rfl, c2v⟩ := HVC.out wr m v HKJ.out hv
          have HV := Lib.hid (show v < 18446744073709551616 ∧ r[m]? = some v from ⟨HR.out.1 v (List.mem_of_getElem? hv), hv⟩)
          have HA := Lib.hid (hadd_ H2 W2 C2 (most (r.take m)) v 0 (hs (r.take m)) .nilIface [] (fun _ => False) wr HT2.out (gw.GF.nil_ _ _ _ _) (by simp) (fun z => z) (fun z => z) (fun z => z) (fun b hb => hb.elim) HV.out.1)
          clear hv hm
          go_wp2_with fail
          refine HA.out.mono ?_
          rintro e w5 ⟨rfl, q5⟩
          have hne := HNE.out
          have e1 : r.take m ++ [v] = r.take (m + 1) := by rw [List.take_add_one, HV.out.2]; rfl
          have ht5 := q5.th
          rw [come_hs _ v HV.out.1, most_snoc, e1] at ht5
          have kq5 : Keeps (fun b => b = W2 ∨ b = C2) wr w5 := q5.keep.mono (fun b _ z => by rcases z with z | z | z; exact .inl z; exact .inr z; exact z.elim)
          have hj5 := HJ2.out.foe kq5 (fun b z => by rcases z with z | z <;> simp [z]) ⟨by simp [hne.1], by simp [hne.1], by simp [hne.1]⟩
          have kk5 : Keeps (fun b => base ≤ b) w3 w5 := HKJ.out.trans (kq5.mono (fun b _ z => by rcases z with z | z <;> omega))
          have HT5 := Lib.hid ht5
          have HJ5 := Lib.hid hj5
          have KK5 := Lib.hid kk5
          have c5 := HHC.out w5 kk5
          obtain ⟨br', or', e', c5v⟩ := HVC.out w5 m v kk5 HV.out.2
          injection e' with e'
          injection e' with e1' e2'
          subst e1'
          subst e2'
          have HA2 := Lib.hid (hadd_ H W C (most ((rows.take k).flatten ++ r.take m)) v 0 (hs ((rows.take k).flatten ++ r.take m)) .nilIface [] (fun _ => False) w5 hj5.th (gw.GF.nil_ _ _ _ _) (by simp) (fun z => z) (fun z => z) (fun z => z) (fun b hb => hb.elim) HV.out.1)
          clear hne ht5 kq5 hj5 kk5 q5 HA HT2 HJ2 c1 c2v
          go_wp2_with fail
          refine HA2.out.mono ?_
          rintro e w6 ⟨rfl, q6⟩
          have hne := HNE.out
          have kq6 : Keeps (fun b => b = W ∨ b = C) w5 w6 := q6.keep.mono (fun b _ z => by rcases z with z | z | z; exact .inl z; exact .inr z; exact z.elim)
          have hj6 := HJ5.out.came HV.out.1 q6
          have ht6 := HT5.out.keeps kq6 (fun z => by rcases z with z | z; exact hne.1.2.2.2.1 z.symm; exact hne.1.2.2.2.2.2.2.1 z.symm) (fun z => by rcases z with z | z; exact hne.1.2.2.2.2.1 z.symm; exact hne.1.2.2.2.2.2.2.2.1 z.symm) (fun z => by rcases z with z | z; exact hne.1.2.2.2.2.2.1 z.symm; exact hne.1.2.2.2.2.2.2.2.2 z.symm)
          have kk6 : Keeps (fun b => base ≤ b) w3 w6 := KK5.out.trans (kq6.mono (fun b _ z => by have := HBS.out; rcases z with z | z <;> omega))
          have HT6 := Lib.hid ht6
          have HJ6 := Lib.hid hj6
          have KK6 := Lib.hid kk6
          have c6 := HHC.out w6 kk6
          obtain ⟨br', or', e', c6v⟩ := HVC.out w6 m v kk6 HV.out.2
          injection e' with e'
          injection e' with e1' e2'
          subst e1'
          subst e2'
          clear hne kq6 hj6 ht6 kk6 q6 HA2 HT5 HJ5 KK5 c5 c5v
          have HCELL := Lib.hid (show (w6.alloc (.cells #[.int .u64 (v : Int)] 24)).cell? ⟨w6.heap.size, 0, none⟩ = some (.int .u64 (v : Int)) from by rw [(Blk.new w6 24 #[.int .u64 (v : Int)]).cell]; rfl)
          obtain ⟨i0, hi0, hi1⟩ := Option.map_eq_some_iff.1 ta.u64_info
          simp only [Prod.mk.injEq] at hi1
          have HI := Lib.hid (And.intro hi0 hi1)
          have HLEN : Hid ((u64s ((rows.take k).flatten ++ r.take m)).length + 1 ≤ maxLen ∧ ((u64s ((rows.take k).flatten ++ r.take m)).length + 1) * 8 ≤ 140737488355328) := Lib.hid (by
            have h1 : ((rows.take k).flatten ++ r.take m).length ≤ 10000 := by
              have f1 := rows_le (rows.take k) (fun x hx => HRL.out.2.2 x (List.mem_of_mem_take hx))
              have f2 : (rows.take k).length ≤ 6 := by rw [List.length_take]; have := HRL.out.2.1; omega
              have f3 : (r.take m).length ≤ 40 := by rw [List.length_take]; have := HR.out.2.2; omega
              rw [List.length_append]; omega
            have h2 : (u64s ((rows.take k).flatten ++ r.take m)).length ≤ 10000 := by rw [u64s, List.length_map]; exact h1
            exact ⟨by unfold maxLen; omega, by omega⟩)
          have HLEN2 : Hid (base ≤ (w6.alloc (.cells #[.int .u64 (v : Int)] 24)).heap.size) := Lib.hid (by
            have := HJ6.out.th.ltH
            have := HBS.out
            have := size_alloc w6 (.cells #[.int .u64 (v : Int)] 24)
            omega)
          clear hi0 hi1
          go_wp2_with (at_builtin; refine Que.wpList_append rfl _ _ 29 rfl i0 _ 8 Try.underlying29 HI.out.1 HI.out.2.1 HI.out.2.2.1 HI.out.2.2.2 rfl rfl (HJ6.out.ra.alloc _) ⟨w6.heap.size, 0, none⟩ 1 _ rfl HCELL.out rfl HLEN.out.1 HLEN.out.2 HLEN2.out ?_; intro v' w' q1 q2 q3)
          have e1 : r.take m ++ [v] = r.take (m + 1) := by rw [List.take_add_one, HV.out.2]; rfl
          have hj7 := HJ6.out.app q1 q2 q3
          rw [List.append_assoc, e1] at hj7
          have k7 := ((Keeps.refl _ w6).alloc (.cells #[.int .u64 (v : Int)] 24)).trans (Keeps.of_grown q2)
          have hda := HJ6.out.da
          have ht7 := HT6.out.keeps k7 (fun z => hda _ z (by simp)) (fun z => hda _ z (by simp)) (fun z => hda _ z (by simp))
          have kk7 : Keeps (fun b => base ≤ b) w3 w' := KK6.out.trans (k7.mono (fun b _ z => (HJ6.out.ra.lt z).1))
          exact ⟨⟨m + 1, by omega, by go_num, hj7, ht7, kk7⟩, by simp [intOf]; omega⟩
        · have hme : m = r.length := by omega
          have ht := HT2.out
          have hj := HJ2.out
          rw [hme, List.take_length] at ht hj
          have HJ3 := Lib.hid hj.less
          have HGT := Lib.hid (hget_ H2 W2 C2 (most r) (hs r) wr ht)
          rw [hs_hl] at HGT
          have hml' : ¬ (m : Int) < (r.length : Int) := by omega
          have hz := hist_zero
          obtain ⟨Z, hZ⟩ : ∃ Z, Z = zh := ⟨_, rfl⟩
          have hZs : Z.size = 67 := by rw [hZ]; rfl
          rw [← hZ] at hz
          clear ht hj HJ2 HT2 hm hZ
          go_wp2_with fail
          refine HGT.out.mono ?_
          rintro e w5 ⟨rfl, k5⟩
          have hYs : (u64s (hl r)).toArray.size = 67 := by rw [List.size_toArray, u64s, List.length_map, hl_len]
          have hYs0 : 67 = Z.size := hZs.symm
          have b8 := Blk.new w5 34 Z
          have hth := wh.Blk.thereAll b8
          rw [Array.length_toList, hZs, ← hYs] at hth
          have hsz := (zero_of_info zh_info).2
          rw [← hYs] at hsz
          have HPW := Lib.hid (show (w5.alloc (.cells Z 34)).there w5.heap.size 0 (u64s (hl r)).toArray.size ∧ (Try.prog.info? 34).map (·.size) = some (u64s (hl r)).toArray.size ∧ (u64s (hl r)).toArray.all (·.oneCell') = true from ⟨hth, hsz, wh.u64_ones _⟩)
          have b9 : Blk ((w5.alloc (.cells Z 34)).setCells w5.heap.size 0 (u64s (hl r))) w5.heap.size 34 (u64s (hl r)) := wh.Blk.setAll b8 _ (by rw [show Z.toList.length = 67 from by rw [Array.length_toList]; exact hZs, u64s, List.length_map, hl_len])
          have k9 : ∀ S, Keeps S w5 ((w5.alloc (.cells Z 34)).setCells w5.heap.size 0 (u64s (hl r))) := fun S => (((Keeps.refl (· = w5.heap.size) w5).alloc _).trans (wh.keeps_setCells w5.heap.size (u64s (hl r)) (w5.alloc (.cells Z 34)) 0)).mono (fun b hb e => absurd e (by omega))
          have HLD := Lib.hid (wh.Blk.range b9)
          have HSR := Lib.hid (hist_size (hl_len r))
          have B9 := Lib.hid b9
          have K9 : Hid (∀ S, Keeps S wr ((w5.alloc (.cells Z 34)).setCells w5.heap.size 0 (u64s (hl r)))) := Lib.hid (fun S => (k5 S).trans (k9 S))
          clear b8 hth hsz b9 k9 k5 hYs hZs hYs0 HGT
          unfold hv
          obtain ⟨i1, hi1, hi2⟩ := Option.map_eq_some_iff.1 hist_info
          simp only [Prod.mk.injEq] at hi2
          have HI1 := Lib.hid (And.intro hi1 hi2)
          have hkr : (rows.take k).length = k := by rw [List.length_take]; omega
          have HKR := Lib.hid hkr
          have hj9 := HJ3.out.all (fun S => (K9.out S).trans ((Keeps.refl S _).alloc (.cells (u64s (hl r)).toArray 34)))
          have HJ9 := Lib.hid (HJ3.out.all K9.out)
          have HOWN := Lib.hid hj9.rl
          have HNEWS := Lib.hid (show ∀ j u, (u64s (hl r))[j]? = some u → (((w5.alloc (.cells Z 34)).setCells w5.heap.size 0 (u64s (hl r))).alloc (.cells (u64s (hl r)).toArray 34)).cell? ((⟨((w5.alloc (.cells Z 34)).setCells w5.heap.size 0 (u64s (hl r))).heap.size, 0, none⟩ : Addr).add j) = some u from fun j u hu => by
            rw [Addr.add_lit, Nat.zero_add, (Blk.new _ _ _).cell]; exact hu)
          have HYL : Hid ((u64s (hl r)).length = 1 * 67 ∧ (∀ u ∈ u64s (hl r), u.oneCell' = true) ∧ (rows.take k).length + 1 ≤ maxLen ∧ ((rows.take k).length + 1) * 536 ≤ 140737488355328) := Lib.hid ⟨by rw [u64s, List.length_map, hl_len], u64_one _, by unfold maxLen; omega, by omega⟩
          have HBL : Hid (base ≤ (((w5.alloc (.cells Z 34)).setCells w5.heap.size 0 (u64s (hl r))).alloc (.cells (u64s (hl r)).toArray 34)).heap.size) := Lib.hid (by have := hj9.th.ltH; have := HBS.out; omega)
          have HY67 : Hid ((u64s (hl r)).toArray.size = 67) := Lib.hid (by rw [List.size_toArray, u64s, List.length_map, hl_len])
          clear hi1 hi2 hj9 hkr
          generalize hYY : u64s (hl r) = Y at *
          go_wp2_with (first
            | (at_builtin; refine wpList_apps rfl _ _ 57 rfl base 34 i1 _ 67 536 Try.underlying57 HI1.out.1 HI1.out.2.1 HI1.out.2.2.1 HI1.out.2.2.2 rfl (by decide) u8 (rows.take k).length (flat67 ((rows.take k).map hl)) rfl HOWN.out ⟨((w5.alloc (.cells Z 34)).setCells w5.heap.size 0 Y).heap.size, 0, none⟩ 1 1 Y rfl HYL.out.1 HNEWS.out HYL.out.2.1 HYL.out.2.2.1 HYL.out.2.2.2 HBL.out ?_; intro v' w' q1 q2 q3)
            | ((with_reducible show wpList _ _ _ (⟨some 87, _, _, _, _, _⟩ :: _) _ _); refine wpList_buildSlice rfl 57 34 1 _ rfl Y.toArray i1 _ Try.underlying57 HI1.out.1 HI1.out.2.1 (by rw [HI1.out.2.2.1]; decide) (by rw [HI1.out.2.2.1]; decide) (by rw [HI1.out.2.2.1, Array.toList_map]; exact bs.fill_one Y.toArray _ 67 HY67.out (by rw [bs.range_size])) ?_)
            | (refine wpList_store_mid rfl 34 _ _ rfl w5.heap.size 0 Y.toArray rfl rfl HPW.out.1 HPW.out.2.1 HPW.out.2.2 ?_; rw [List.toList_toArray])
            | ((with_reducible show wpList _ _ _ (⟨some 86, _, _, _, _, _⟩ :: _) _ _); refine wpList_load_mid rfl 34 _ rfl w5.heap.size 0 rfl Y _ HLD.out Try.underlying34 rfl HSR.out ?_))
          rw [← hYY] at q1
          have hj7 := HJ9.out.row q1 q2 q3
          have e1 : rows.take k ++ [r] = rows.take (k + 1) := by rw [List.take_add_one, HR.out.2.1]; rfl
          have e2 : (rows.take k).flatten ++ r = (rows.take (k + 1)).flatten := by rw [← e1]; simp
          rw [e1, e2] at hj7
          have hrl := HJ9.out.rl
          have k7 := ((Keeps.refl _ _).alloc (.cells Y.toArray 34)).trans (Keeps.of_grown q2)
          have kk7 : Keeps (fun b => base ≤ b) w3 w' := (HKJ.out.trans (K9.out _)).trans (k7.mono (fun b _ z => (hrl.lt b z).1))
          exact ⟨⟨k + 1, by omega, by go_num, hj7, kk7⟩, by simp [intOf]; omega⟩
    · have hke : k = rows.length := by omega
      have hlt' : ¬ (k : Int) < (rows.length : Int) := by omega
      have hj := HJ.out
      rw [hke, List.take_length] at hj
      have HJ2 := Lib.hid hj
      have HLN : Hid ((rows.flatten).length < 1000 ∧ ∀ x ∈ rows.flatten, x < 18446744073709551616) := Lib.hid ⟨by have := rows_le rows HRL.out.2.2; have := HRL.out.2.1; omega, fun x hx => by
        obtain ⟨r, hr, hxr⟩ := List.mem_flatten.1 hx
        obtain ⟨i, hi⟩ := List.getElem?_of_mem hr
        exact (HG3.out.2 i r hi).1 x hxr⟩
      have HGT := Lib.hid (hget_ H W C (most rows.flatten) (hs rows.flatten) wr hj.th)
      rw [hs_hl] at HGT
      unfold hv at HGT
      have HRM := Lib.hid (show (rows.map hl).length = rows.length ∧ (∀ x ∈ rows.map hl, x.length = 67) ∧ (∀ x ∈ rows.map hl, ∀ y ∈ x, y < 18446744073709551616) ∧ joined (rows.map hl) = hl rows.flatten from ⟨by simp, fun x hx => by
          simp only [List.mem_map] at hx
          obtain ⟨r, _, rfl⟩ := hx
          exact hl_len r, fun x hx => by
          simp only [List.mem_map] at hx
          obtain ⟨r, hr, rfl⟩ := hx
          obtain ⟨i, hi⟩ := List.getElem?_of_mem hr
          exact hl_lt (HG3.out.2 i r hi).1, joined_hl rows⟩)
      obtain ⟨A6, c6, hA6, hs6⟩ := Hs.of_own hj.rl HRM.out.1 HRM.out.2.1 HRM.out.2.2.1
      have HS6 := Lib.hid hs6
      have HRA := Lib.hid hj.ra
      have HDR := Lib.hid (show ∀ i r, rows[i]? = some r → (rows.map hl)[i]? = some (hl r) from fun i r h => by rw [List.getElem?_map, h]; rfl)
      have hz := hist_zero
      obtain ⟨Z, hZ⟩ : ∃ Z, Z = zh := ⟨_, rfl⟩
      rw [← hZ] at hz
      have HZ := Lib.hid (show Z.size = 67 ∧ Z = zh from ⟨by rw [hZ]; rfl, hZ⟩)
      clear hj HJ hk hZ hs6 HJ2 HG3
      subst hA6
      go_wp2_with fail
      refine HGT.out.mono ?_
      rintro e w5 ⟨rfl, k5⟩
      have HP5 := Lib.hid (put_hist w5 Z (hl rows.flatten) HZ.out.1 (hl_len _))
      have K5 : Hid (∀ S, Keeps S wr ((w5.alloc (.cells Z 34)).setCells w5.heap.size 0 (u64s (hl rows.flatten)))) := Lib.hid (fun S => (k5 S).trans (HP5.out.2.2.2.2 S))
      have HJN := Lib.hid (join_ A6 rows.length c6 wr.heap.size (rows.map hl) ((w5.alloc (.cells Z 34)).setCells w5.heap.size 0 (u64s (hl rows.flatten))) (HS6.out.keeps (K5.out (fun _ => False)) (fun _ _ z => z)) (K5.out (fun _ => False)).size (by have := HRL.out.2.1; omega))
      rw [HRM.out.2.2.2] at HJN
      unfold hv at HJN
      clear k5 HGT
      generalize hYY : u64s (hl rows.flatten) = Y at *
      go_wp2_with (first
        | (refine wpList_store_mid rfl 34 _ _ rfl w5.heap.size 0 Y.toArray rfl rfl HP5.out.1 HP5.out.2.1 HP5.out.2.2.1 ?_; rw [List.toList_toArray]))
      refine HJN.out.mono ?_
      rintro e w6 ⟨rfl, k6⟩
      have HP6 := Lib.hid (put_hist w6 Z (hl rows.flatten) HZ.out.1 (hl_len _))
      rw [hYY] at HP6
      have K6 : Hid (∀ S, Keeps S ((w5.alloc (.cells Z 34)).setCells w5.heap.size 0 Y) ((w6.alloc (.cells Z 34)).setCells w6.heap.size 0 Y)) := Lib.hid (fun S => (k6 S).trans (HP6.out.2.2.2.2 S))
      have b18 := Blk.new ((w6.alloc (.cells Z 34)).setCells w6.heap.size 0 Y) 34 Z
      have hZu : Z.toList = u64s (hl []) := by rw [HZ.out.2, hl_nil]; rfl
      rw [hZu] at b18
      have k18 : ∀ S, Keeps S ((w6.alloc (.cells Z 34)).setCells w6.heap.size 0 Y) (((w6.alloc (.cells Z 34)).setCells w6.heap.size 0 Y).alloc (.cells Z 34)) := fun S => (Keeps.refl S _).alloc _
      have K18 : Hid (∀ S, Keeps S wr (((w6.alloc (.cells Z 34)).setCells w6.heap.size 0 Y).alloc (.cells Z 34))) := Lib.hid (fun S => ((K5.out S).trans (K6.out S)).trans (k18 S))
      have b15 := HP5.out.2.2.2.1
      have b17 := HP6.out.2.2.2.1
      have B15 := Lib.hid (Blk.keeps (Blk.keeps b15 (K6.out (fun _ => False)) (fun z => z)) (k18 (fun _ => False)) (fun z => z))
      have B17 := Lib.hid (Blk.keeps b17 (k18 (fun _ => False)) (fun z => z))
      have B18 := Lib.hid b18
      have HD := Lib.hid (show w5.heap.size ≠ ((w6.alloc (.cells Z 34)).setCells w6.heap.size 0 Y).heap.size ∧ w6.heap.size ≠ ((w6.alloc (.cells Z 34)).setCells w6.heap.size 0 Y).heap.size ∧ wr.heap.size ≤ ((w6.alloc (.cells Z 34)).setCells w6.heap.size 0 Y).heap.size from ⟨by
          have := (Blk.keeps b15 (K6.out (fun _ => False)) (fun z => z)).lt; omega, by have := b17.lt; omega, ((K5.out (fun _ => False)).trans (K6.out (fun _ => False))).size⟩)
      clear k6 b18 hZu k18 b15 b17 HJN
      go_wp2_with (first
        | (refine wpList_store_mid rfl 34 _ _ rfl w6.heap.size 0 Y.toArray rfl rfl HP6.out.1 HP6.out.2.1 HP6.out.2.2.1 ?_; rw [List.toList_toArray]))
      clear HP5 HP6 K5 K6
      generalize hD : ((w6.alloc (.cells Z 34)).setCells w6.heap.size 0 Y).heap.size = D at *
      generalize ((w6.alloc (.cells Z 34)).setCells w6.heap.size 0 Y).alloc (.cells Z 34) = w7 at *
      generalize w5.heap.size = D5 at *
      generalize w6.heap.size = D6 at *
      have hR1 : (1 : Int) ≤ (rows.length : Int) := by have := HRL.out.1; omega
      have HS7 := Lib.hid (HS6.out.keeps (K18.out (fun _ => False)) (fun _ _ z => z))
      generalize hBd : wr.heap.size = Bd at *
      go_loopw [19] (Bk w7 D rows) (fun i _ => (intOf i + 1).toNat)
      case atStart => exact ⟨rows.length, Nat.le_refl _, by go_num, by rw [List.drop_length]; exact B18.out, Keeps.refl _ _⟩
      case round =>
        obtain ⟨m, hm, rfl, hbk, hkk⟩ := hrel
        have HBK := Lib.hid hbk
        have HKK7 := Lib.hid hkk
        clear hbk hkk
        by_cases hm0 : 1 ≤ m
        · have hm0' : (0 : Int) ≤ (m : Int) - 1 := by omega
          obtain ⟨q, rfl⟩ : ∃ q, m = q + 1 := ⟨m - 1, by omega⟩
          have eq1 : (((q + 1 : Nat) : Int)) - 1 = (q : Int) := by omega
          rw [eq1]
          have q0 : (0 : Int) ≤ (q : Int) := by omega
          have qR : (q : Int) < (rows.length : Int) := by omega
          obtain ⟨r, hr⟩ : ∃ r, rows[q]? = some r := ⟨_, List.getElem?_eq_getElem (by omega)⟩
          have hs7 := HS7.out.keeps HKK7.out (fun b hb e => by have := HD.out.2.2; omega)
          obtain ⟨y1, y2, b6, o6, rfl, hb6, hrg⟩ := hs7.2 q (hl r) (HDR.out q r hr)
          obtain ⟨oq, hoq⟩ : ∃ oq, o6 + q * 67 = oq := ⟨_, rfl⟩
          rw [hoq] at hrg
          have HRG := Lib.hid hrg
          have HRQ := Lib.hid (show rows[q]? = some r ∧ (hl r).length = 67 ∧ (∀ y ∈ hl r, y < 18446744073709551616) from ⟨hr, y1, y2⟩)
          have hacc : (∀ y ∈ hl (rows.drop (q + 1)).flatten, y < 18446744073709551616) := hl_lt (fun y hy => HLN.out.2 y (by
            obtain ⟨x, hx, hyx⟩ := List.mem_flatten.1 hy
            exact List.mem_flatten.2 ⟨x, List.mem_of_mem_drop hx, hyx⟩))
          have HACC := Lib.hid hacc
          have HRB := Lib.hid (wh.Blk.range HBK.out)
          have HSX := Lib.hid (hist_size (hl_len (rows.drop (q + 1)).flatten))
          have HSY := Lib.hid (hist_size y1)
          obtain ⟨i1, hi1, hi2⟩ := Option.map_eq_some_iff.1 hist_info
          simp only [Prod.mk.injEq] at hi2
          have HI1 := Lib.hid (And.intro hi1 hi2)
          have hjq := join_ (some ⟨wr.heap.size, 0, none⟩) 2 2 _ _ (wr.alloc (.cells (u64s (hl (rows.drop (q + 1)).flatten) ++ u64s (hl r)).toArray 34)).drew (hs_two wr _ _ (hl_len _) y1 hacc y2) (Nat.le_refl _) (by omega)
          have ejq : joined [hl (rows.drop (q + 1)).flatten, hl r] = hl (rows.drop q).flatten := by
            rw [joined_back]
            congr 1
            have hql : q < rows.length := by omega
            have hre : rows[q] = r := by rw [List.getElem?_eq_getElem hql] at hr; injection hr
            rw [List.drop_eq_getElem_cons hql, List.flatten_cons, hre]
          rw [ejq] at hjq
          unfold hv at hjq
          have HJQ := Lib.hid hjq
          have HS67 : Hid ((u64s (hl (rows.drop (q + 1)).flatten)).toArray.size = 67 ∧ (u64s (hl r)).toArray.size = 67) := Lib.hid ⟨by rw [List.size_toArray, u64s, List.length_map, hl_len], by rw [List.size_toArray, u64s, List.length_map, hl_len]⟩
          clear hm hm0 hm0' eq1 hr hs7 y1 y2 hb6 hrg hacc hi1 hi2 hjq ejq
          generalize hAC : u64s (hl (rows.drop (q + 1)).flatten) = AC at *
          generalize hRR : u64s (hl r) = RR at *
          go_wp2_with fail
          refine wp_region_still_tail 5 (by kernel_rfl) (by kernel_rfl) ?_
          simp only [List.take_succ_cons, List.take_zero, List.drop_succ_cons, List.drop_zero]
          refine wh.still_load rfl 34 _ rfl D 0 rfl AC _ HRB.out Try.underlying34 rfl HSX.out ?_
          simp only [Act.put, List.setIfInBounds_toArray, List.set_cons_zero, List.set_cons_succ]
          still_step
          still_step
          still_step
          refine wh.still_load rfl 34 _ rfl b6 oq rfl RR _ HRG.out Try.underlying34 rfl HSY.out ?_
          simp only [Act.put, List.setIfInBounds_toArray, List.set_cons_zero, List.set_cons_succ]
          refine wpStill_nil ?_
          change wpList _ _ _ _ _ wr.drew
          go_wp2_with (first
            | ((with_reducible show wpList _ _ _ (⟨some 108, _, _, _, _, _⟩ :: _) _ _); refine wpList_buildSlice rfl 57 34 2 _ rfl (AC.toArray ++ RR.toArray) i1 _ Try.underlying57 HI1.out.1 HI1.out.2.1 (by rw [HI1.out.2.2.1]; decide) (by rw [HI1.out.2.2.1]; decide) (by rw [HI1.out.2.2.1, Array.toList_map]; exact bs.fill_two AC.toArray RR.toArray _ 67 HS67.out.1 HS67.out.2 (by rw [bs.range_size])) ?_))
          refine HJQ.out.mono ?_
          rintro e w8 ⟨rfl, k8⟩
          have kw8 : ∀ S, Keeps S wr w8 := fun S => ((Keeps.refl S wr).alloc _).drew.trans (k8 S)
          have b8 := Blk.keeps HBK.out (kw8 (fun _ => False)) (fun z => z)
          have hYq : (u64s (hl (rows.drop q).flatten)).toArray.size = 67 := by rw [List.size_toArray, u64s, List.length_map, hl_len]
          have hth := wh.Blk.thereAll b8
          rw [← hAC, show (u64s (hl (rows.drop (q + 1)).flatten)).length = 67 from by rw [u64s, List.length_map, hl_len], ← hYq] at hth
          have hsz := (zero_of_info zh_info).2
          rw [← hYq] at hsz
          have HPW := Lib.hid (show w8.there D 0 (u64s (hl (rows.drop q).flatten)).toArray.size ∧ (Try.prog.info? 34).map (·.size) = some (u64s (hl (rows.drop q).flatten)).toArray.size ∧ (u64s (hl (rows.drop q).flatten)).toArray.all (·.oneCell') = true from ⟨hth, hsz, wh.u64_ones _⟩)
          have b9 : Blk (w8.setCells D 0 (u64s (hl (rows.drop q).flatten))) D 34 (u64s (hl (rows.drop q).flatten)) := wh.Blk.setAll b8 _ (by rw [← hAC, u64s, u64s, List.length_map, List.length_map, hl_len, hl_len])
          have k9 : Keeps (· = D) w7 (w8.setCells D 0 (u64s (hl (rows.drop q).flatten))) := (HKK7.out.trans (kw8 _)).trans (wh.keeps_setCells D _ w8 0)
          have HNX := Lib.hid (show Bk w7 D rows (.int .i64 ((q : Int) - 1)) (w8.setCells D 0 (u64s (hl (rows.drop q).flatten))) from ⟨q, by omega, rfl, b9, k9⟩)
          clear kw8 b8 hYq hth hsz b9 k9 k8 HJQ
          generalize u64s (hl (rows.drop q).flatten) = NY at *
          go_wp2_with (first
            | (refine wpList_store_mid rfl 34 _ _ rfl D 0 NY.toArray rfl rfl HPW.out.1 HPW.out.2.1 HPW.out.2.2 ?_; rw [List.toList_toArray]))
          exact ⟨HNX.out, by simp [intOf]⟩
        · have hm00 : m = 0 := by omega
          subst hm00
          have hbk := HBK.out
          rw [List.drop_zero, hYY] at hbk
          have kD := HKK7.out
          have b15 := Blk.keeps B15.out kD HD.out.1
          have b17 := Blk.keeps B17.out kD HD.out.2.1
          have HL5 := Lib.hid (wh.Blk.range b15)
          have HB15 := Lib.hid b15
          have HL6 := Lib.hid (wh.Blk.range b17)
          have HL18 := Lib.hid (wh.Blk.range hbk)
          have hsy := hist_size (hl_len rows.flatten)
          have hnq := hist_neq (hl rows.flatten) (hl_len _)
          rw [hYY] at hsy hnq
          have HSY := Lib.hid hsy
          obtain ⟨A9, c9, hu9⟩ := Que.form HRA.out
          rw [u64s, List.length_map] at hu9
          have hra := (HRA.out.keeps (K18.out (fun _ => False)) (fun _ _ z => z)).keeps kD (fun b hb e => by have := (HRA.out.lt hb).2; have := HD.out.2.2; omega)
          subst hu9
          have HRA2 := Lib.hid hra
          have KW := Lib.hid (show Keeps (fun b => W0.heap.size ≤ b) W0 wr from by
            have q1 := (K3.out (fun b => W0.heap.size ≤ b)).trans (HKK.out.mono (fun b _ z => by have := HBS.out.2.2.2; omega))
            exact (q1.trans (K18.out _)).trans (kD.mono (fun b _ e => by have := HD.out.2.2; have := q1.size; subst e; omega)))
          have hl0 : ¬ (0 : Int) ≤ ((0 : Nat) : Int) - 1 := by omega
          have HO1 : Hid (1 ≤ 1 + of % 1048576 ∧ 1 + of % 1048576 ≤ 1048576) := Lib.hid (by omega)
          have ho1 : (of : Int).tmod 1048576 = ((of % 1048576 : Nat) : Int) := by rw [Int.tmod_eq_emod_of_nonneg (by omega)]; omega
          have ho2 : IntKind.u64.wrap ((of % 1048576 : Nat) : Int) = ((of % 1048576 : Nat) : Int) := by rw [wrap_u64]; omega
          have ho3 : IntKind.u64.wrap (1 + ((of % 1048576 : Nat) : Int)) = ((1 + of % 1048576 : Nat) : Int) := by rw [wrap_u64]; omega
          generalize of % 1048576 = om at *
          obtain ⟨of', hof'⟩ : ∃ of', of' = 1 + om := ⟨_, rfl⟩
          rw [← hof'] at HO1 ho3
          have ho4 : IntKind.u64.wrap ((of' : Int) + 1) = ((of' + 1 : Nat) : Int) := by rw [wrap_u64]; have := HO1.out; omega
          have ho5 : (part : Int).tmod ((of' + 1 : Nat) : Int) = ((part % (of' + 1) : Nat) : Int) := by rw [Int.tmod_eq_emod_of_nonneg (by omega), Int.natCast_emod]
          have HPA : Hid (part % (of' + 1) ≤ of') := Lib.hid (by have := Nat.mod_lt part (show 0 < of' + 1 by omega); omega)
          have ho8 : (part : Int) % ((of' : Int) + 1) = ((part % (of' + 1) : Nat) : Int) := by rw [Int.natCast_emod]; rfl
          generalize part % (of' + 1) = pa at *
          have ho6 : IntKind.u64.wrap ((pa : Int)) = (pa : Int) := by rw [wrap_u64]; have := HPA.out; have := HO1.out; omega
          have ho7 : ¬ (((of' + 1 : Nat) : Int)) = 0 := by omega
          have hb1 := below_ (hl rows.flatten) pa of' wr (hl_len _) (hl_lt HLN.out.2) (by have := HPA.out; have := HO1.out; omega) (by have := HO1.out; omega)
          have hb2 := fun w => below_ (hl rows.flatten) of' of' w (hl_len _) (hl_lt HLN.out.2) (by have := HO1.out; omega) (by have := HO1.out; omega)
          unfold hv at hb1 hb2
          rw [hYY] at hb1 hb2
          have HB1 := Lib.hid hb1
          have HB2 := Lib.hid hb2
          clear hbk b15 b17 hsy hra kD hm hm0 hb1 hb2 HBK HKK7 hof'
          go_wp2_with (first
            | ((with_reducible show wpList _ _ _ (⟨some 113, _, _, _, _, _⟩ :: _) _ _); refine wpList_load_want rfl 34 _ rfl D6 0 rfl Y _ HL6.out Try.underlying34 rfl HSY.out ?_)
            | ((with_reducible show wpList _ _ _ (⟨some 114, _, _, _, _, _⟩ :: _) _ _); refine wpList_load_want rfl 34 _ rfl D5 0 rfl Y _ HL5.out Try.underlying34 rfl HSY.out ?_)
            | ((with_reducible show wpList _ _ _ (⟨some 118, _, _, _, _, _⟩ :: _) _ _); refine wpList_load_want rfl 34 _ rfl D 0 rfl Y _ HL18.out Try.underlying34 rfl HSY.out ?_)
            | ((with_reducible show wpList _ _ _ (⟨some 119, _, _, _, _, _⟩ :: _) _ _); refine wpList_load_want rfl 34 _ rfl D5 0 rfl Y _ HL5.out Try.underlying34 rfl HSY.out ?_)
            | ((with_reducible show wpList _ _ _ (⟨some 130, _, _, _, _, _⟩ :: _) _ _); refine wpList_load_mid rfl 34 _ rfl D5 0 rfl Y _ HL5.out Try.underlying34 rfl HSY.out ?_)
            | ((with_reducible show wpList _ _ _ (⟨some 137, _, _, _, _, _⟩ :: _) _ _); refine wpList_load_mid rfl 34 _ rfl D5 0 rfl Y _ HL5.out Try.underlying34 rfl HSY.out ?_)
            | fail)
          refine HB1.out.mono ?_
          rintro e1 wa ⟨hp1, ka⟩
          unfold BelPost at hp1
          obtain ⟨v, nv, rfl, hb1⟩ := hp1
          have hnb : ¬ th.BadArg pa of' := by have := HPA.out; have := HO1.out; unfold th.BadArg; omega
          have hsay := below_says HLN.out.1 HLN.out.2 hb1 hnb
          obtain ⟨rfl, ⟨KK, hKK, hvK⟩, hs1, hs2⟩ := hsay
          have hv64 : v < 18446744073709551616 := by
            have := Nat.pow_le_pow_right (show 0 < 2 by omega) (show KK ≤ 64 by omega)
            have e64 : (2:Nat) ^ 64 = 18446744073709551616 := by decide
            omega
          have HV := Lib.hid (And.intro hv64 (And.intro hs1 hs2))
          have HBA := Lib.hid hb1
          have HNB := Lib.hid hnb
          have KA := Lib.hid ka
          have HL5a := Lib.hid (wh.Blk.range (Blk.keeps HB15.out (ka (fun _ => False)) (fun z => z)))
          clear hb1 hnb hKK hvK hs1 hs2 hv64 ka HB1 HL5 HL6 HL18 HB15 hnq
          go_wp2_with (first
            | ((with_reducible show wpList _ _ _ (⟨some 137, _, _, _, _, _⟩ :: _) _ _); refine wpList_load_mid rfl 34 _ rfl D5 0 rfl Y _ HL5a.out Try.underlying34 rfl HSY.out ?_)
            | fail)
          refine (HB2.out _).mono ?_
          rintro e2 wb ⟨hp2, kb⟩
          unfold BelPost at hp2
          obtain ⟨v', nv', rfl, hb2⟩ := hp2
          have hnb' : ¬ th.BadArg of' of' := by have := HO1.out; unfold th.BadArg; omega
          have hsay' := below_says HLN.out.1 HLN.out.2 hb2 hnb'
          obtain ⟨rfl, _, _, _⟩ := hsay'
          have hri := below_rises HLN.out.1 HLN.out.2 HBA.out hb2 HNB.out
          have hvv : ¬ (v' : Int) < (v : Int) := by omega
          have HRA3 := Lib.hid ((HRA2.out.keeps (KA.out (fun _ => False)) (fun _ _ z => z)).keeps (kb (fun _ => False)) (fun _ _ z => z))
          have KW2 := Lib.hid ((KW.out.trans (KA.out _)).trans (kb _))
          clear hb2 hnb' hri kb KA HBA HNB KW HRA2 HB2
          go_wp2_with fail
          simp only [← List.length_flatten]
          clear HRM HDR HS6 HS7 B15 B17 B18 HRA HD K18 HKK HBS HL5a HRL
          generalize rows.flatten = all at *
          obtain ⟨hf, hhf⟩ : ∃ hf, hf = v / 2 := ⟨_, rfl⟩
          have hd1 : (v : Int).tdiv 2 = (hf : Int) := by rw [Int.tdiv_eq_ediv_of_nonneg (by omega)]; omega
          have hd2 : (v : Int) / 2 = (hf : Int) := by omega
          have hwf : IntKind.u64.wrap (hf : Int) = (hf : Int) := by rw [wrap_u64]; have := HV.out.1; omega
          rw [← hhf] at HV
          clear hhf
          have HC0 := Lib.hid (show Cn all v hf wb (.int .i64 0) (.int .u64 0) (.int .u64 0) wb from ⟨0, Nat.zero_le _, rfl, by simp [atMost], by simp [atMost], rfl⟩)
          go_loopw [26, 24, 25] (Cn all v hf wb) (fun i _ _ _ => 1000 - (intOf i).toNat)
          case atStart => exact HC0.out
          case round =>
            clear HC0
            obtain ⟨m, hm, rfl, rfl, rfl, hwr⟩ := hrel
            subst hwr
            have m0 : (0 : Int) ≤ (m : Int) := by omega
            by_cases hml : m < all.length
            · have hml' : (m : Int) < (all.length : Int) := by omega
              have hm1 : (m : Int) < 1000 := by have := HLN.out.1; omega
              obtain ⟨x, hx⟩ : ∃ x, all[m]? = some x := ⟨_, List.getElem?_eq_getElem hml⟩
              obtain ⟨g, off, rfl, hcx⟩ := que_cell HRA3.out (m := m) (u := .int .u64 (x : Int)) (by simp [u64s, hx])
              have s1 := atMost_snoc hx v
              have s2 := atMost_snoc hx hf
              have l1 := atMost_le (all.take m) v
              have l2 := atMost_le (all.take m) hf
              rw [List.length_take] at l1 l2
              have l3 := HLN.out.1
              have hn1 : ∀ m' : Nat, m' = m + 1 → (m' : Int) = (m : Int) + 1 := fun m' e => by omega
              have hN : ∀ a b : Nat, a = atMost (all.take (m + 1)) v → b = atMost (all.take (m + 1)) hf → Hid (Cn all v hf wr (.int .i64 ((m : Int) + 1)) (.int .u64 (a : Int)) (.int .u64 (b : Int)) wr) := fun a b ha hb => Lib.hid ⟨m + 1, hml, by rw [hn1 _ rfl], by rw [ha], by rw [hb], rfl⟩
              generalize atMost (all.take m) v = a at *
              generalize atMost (all.take m) hf = b at *
              have hwa : IntKind.u64.wrap ((a : Int) + 1) = ((a : Int) + 1) := by rw [wrap_u64]; omega
              have hwb : IntKind.u64.wrap ((b : Int) + 1) = ((b : Int) + 1) := by rw [wrap_u64]; omega
              by_cases p1 : x ≤ v
              · have q1 : (x : Int) ≤ (v : Int) := by omega
                rw [if_pos p1] at s1
                by_cases p2 : x ≤ hf
                · have q2 : (x : Int) ≤ (hf : Int) := by omega
                  rw [if_pos p2] at s2
                  have HN := hN (a + 1) (b + 1) s1.symm s2.symm
                  simp only [Int.natCast_add, Int.natCast_one] at HN
                  clear hN s1 s2 l1 l2 l3 hn1 hm hx p1 p2 hml
                  go_wp2_with fail
                  exact ⟨HN.out, by simp [intOf]; omega⟩
                · have q2 : ¬ (x : Int) ≤ (hf : Int) := by omega
                  rw [if_neg p2] at s2
                  have HN := hN (a + 1) b s1.symm s2.symm
                  simp only [Int.natCast_add, Int.natCast_one] at HN
                  clear hN s1 s2 l1 l2 l3 hn1 hm hx p1 p2 hml
                  go_wp2_with fail
                  exact ⟨HN.out, by simp [intOf]; omega⟩
              · have q1 : ¬ (x : Int) ≤ (v : Int) := by omega
                rw [if_neg p1] at s1
                by_cases p2 : x ≤ hf
                · have q2 : (x : Int) ≤ (hf : Int) := by omega
                  rw [if_pos p2] at s2
                  have HN := hN a (b + 1) s1.symm s2.symm
                  simp only [Int.natCast_add, Int.natCast_one] at HN
                  clear hN s1 s2 l1 l2 l3 hn1 hm hx p1 p2 hml
                  go_wp2_with fail
                  exact ⟨HN.out, by simp [intOf]; omega⟩
                · have q2 : ¬ (x : Int) ≤ (hf : Int) := by omega
                  rw [if_neg p2] at s2
                  have HN := hN a b s1.symm s2.symm
                  clear hN s1 s2 l1 l2 l3 hn1 hm hx p1 p2 hml
                  go_wp2_with fail
                  exact ⟨HN.out, by simp [intOf]; omega⟩
            · have hml' : ¬ (m : Int) < (all.length : Int) := by omega
              have hme : m = all.length := by omega
              subst hme
              rw [List.take_length]
              have hV := HV.out
              have l1 := atMost_le all v
              have l2 := atMost_le all hf
              have l3 := HLN.out.1
              have l4 := HO1.out.2
              have l5 := HPA.out
              generalize atMost all v = a at *
              generalize atMost all hf = b at *
              obtain ⟨t1, ht1⟩ : ∃ t, t = a * of' := ⟨_, rfl⟩
              obtain ⟨t2, ht2⟩ : ∃ t, t = all.length * pa := ⟨_, rfl⟩
              obtain ⟨t3, ht3⟩ : ∃ t, t = b * of' := ⟨_, rfl⟩
              have b1 : t1 ≤ 1000 * 1048576 := by rw [ht1]; exact Nat.mul_le_mul (by omega) l4
              have b2 : t2 ≤ 1000 * 1048576 := by rw [ht2]; exact Nat.mul_le_mul (by omega) (by omega)
              have b3 : t3 ≤ 1000 * 1048576 := by rw [ht3]; exact Nat.mul_le_mul (by omega) l4
              have e1 : (a : Int) * (of' : Int) = (t1 : Int) := by rw [ht1, Int.natCast_mul]
              have e2 : (all.length : Int) * (pa : Int) = (t2 : Int) := by rw [ht2, Int.natCast_mul]
              have e3 : (b : Int) * (of' : Int) = (t3 : Int) := by rw [ht3, Int.natCast_mul]
              have f1 : IntKind.u64.wrap (t1 : Int) = (t1 : Int) := by rw [wrap_u64]; omega
              have f2 : IntKind.u64.wrap (t2 : Int) = (t2 : Int) := by rw [wrap_u64]; omega
              have f3 : IntKind.u64.wrap (t3 : Int) = (t3 : Int) := by rw [wrap_u64]; omega
              have f4 : IntKind.u64.wrap (all.length : Int) = (all.length : Int) := by rw [wrap_u64]; omega
              rw [← ht1, ← ht2, ← ht3] at hV
              obtain ⟨_, g1, g2⟩ := hV
              have g1' : (t2 : Int) ≤ (t1 : Int) := by omega
              by_cases hv0 : v = 0
              · subst hv0
                clear ht1 ht2 ht3 b1 b2 b3 g1 g2 l1 l2 l3 l4 l5 HV
                go_wp2_with fail
                go_ret
                exact ⟨rfl, (KW2.out.only (fun b h => h)).below⟩
              · have hv1 : ¬ (v : Int) = 0 := by omega
                have g2' : (t3 : Int) < (t2 : Int) := by omega
                clear ht1 ht2 ht3 b1 b2 b3 g1 g2 l1 l2 l3 l4 l5 HV
                go_wp2_with fail
                go_ret
                exact ⟨rfl, (KW2.out.only (fun b h => h)).below⟩
end Go.Proofs.Ytekglcphdjjmcaa.oc
