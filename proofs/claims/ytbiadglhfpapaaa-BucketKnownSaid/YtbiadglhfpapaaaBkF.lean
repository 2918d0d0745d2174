/-
  patchbayref12's full: is a stretch too full?
-/
import Derived.Test.YtbiadglhfpapaaaBkR
set_option linter.unusedVariables false
namespace Go.Proofs.Ytbiadglhfpapaaa.bk
open Go.RowKit Go.Proofs.Ytbiadglhfpapaaa.oc Go.Proofs.Ytbiadglhfpapaaa.mz
/-- the tokens of the first k of l, at ticks from f to t -/
def sumIn (l : List (Nat × Nat)) (f t : Nat) : Nat → Nat
  | 0 => 0
  | k + 1 => sumIn l f t k + (if f ≤ (l.getD k (0, 0)).1 ∧ (l.getD k (0, 0)).1 ≤ t then (l.getD k (0, 0)).2 else 0)
set_option maxRecDepth 100000 in
theorem sumIn_le (l : List (Nat × Nat)) (f t : Nat) (h : ∀ p ∈ l, p.2 < 18446744073709551616) : ∀ k, sumIn l f t k ≤ k * 18446744073709551616
  | 0 => Nat.le_refl _
  | k + 1 => by
    have ih := sumIn_le l f t h k
    have hk : (l.getD k (0, 0)).2 < 18446744073709551616 := by
      rw [List.getD_eq_getElem?_getD]
      rcases Nat.lt_or_ge k l.length with q | q
      · rw [List.getElem?_eq_getElem q]; exact h _ (List.getElem_mem q)
      · rw [List.getElem?_eq_none q]; decide
    rw [sumIn, Nat.add_mul, Nat.one_mul]
    generalize k * 18446744073709551616 = kk at *
    generalize sumIn l f t k = z at *
    generalize (l.getD k (0, 0)).2 = y at *
    split <;> omega
/-- the stretch from the tick of f to that of t is too full, by the first i + 1 -/
def Ovr (n d b : Nat) (l : List (Nat × Nat)) (i f t : Nat) : Prop :=
  (l.getD f (0, 0)).1 ≤ (l.getD i (0, 0)).1 ∧ (l.getD i (0, 0)).1 ≤ (l.getD t (0, 0)).1 ∧ b + ((l.getD t (0, 0)).1 - (l.getD f (0, 0)).1) * n / d < sumIn l (l.getD f (0, 0)).1 (l.getD t (0, 0)).1 (i + 1)
def Full (n d b : Nat) (l : List (Nat × Nat)) (i : Nat) : Prop := ∃ f t, f ≤ i ∧ t ≤ i ∧ Ovr n d b l i f t
/-- what full answers -/
def FullAns (n d b : Nat) (l : List (Nat × Nat)) (i : Nat) (w : World) (e : Ending) (w' : World) : Prop := ∃ r : Bool, e = .returned (.bool r) ∧ (r = true ↔ Full n d b l i) ∧ ∀ S, Keeps S w w'
section
variable (w : World) (n d b : Nat)
set_option maxRecDepth 100000 in
set_option maxHeartbeats 4000000 in
theorem full_ (A : Option Addr) (m c i : Nat) (l : List (Nat × Nat)) (hm : May n d b) (ha : Asks w w.heap.size A l) (hl : l.length = m) (hm9 : m ≤ 5000) (hi : i < m) (ht : ∀ p ∈ l, p.1 ≤ 1099511627776) : Calls Try.prog 45 #[bv n d b, .slice A m c, .int .i64 (i : Int)] w (FullAns n d b l i w) := by
  have hl0 : 0 < l.length := by omega
  obtain ⟨p0, hp0⟩ : ∃ p0, l[0]? = some p0 := ⟨_, List.getElem?_eq_getElem hl0⟩
  obtain ⟨bb, o, rfl, hbb, _, _⟩ := ha.at_ hp0
  have CEL : ∀ k, k < m → ∀ wr, (∀ S, Keeps S w wr) → wr.cell? ⟨bb, o + k * 2, none⟩ = some (.int .u64 ((l.getD k (0, 0)).1 : Int)) ∧ wr.cell? ⟨bb, o + k * 2 + 1, none⟩ = some (.int .u64 ((l.getD k (0, 0)).2 : Int)) := by
    intro k hk wr hw
    obtain ⟨pp, hp⟩ : ∃ pp, l[k]? = some pp := ⟨_, List.getElem?_eq_getElem (by omega)⟩
    have hh := ha.keeps (S := fun _ => False) (hw _) (fun _ _ z => z)
    obtain ⟨b2, o2, e, _, c1, c2⟩ := hh.at_ hp
    injection e with e
    injection e with e1 e2
    subst e1; subst e2
    rw [List.getD_eq_getElem?_getD, hp]
    exact ⟨c1, c2⟩
  have SM : ∀ k, k < m → (l.getD k (0, 0)).1 ≤ 1099511627776 ∧ (l.getD k (0, 0)).2 < 18446744073709551616 := by
    intro k hk
    obtain ⟨pp, hp⟩ : ∃ pp, l[k]? = some pp := ⟨_, List.getElem?_eq_getElem (by omega)⟩
    rw [List.getD_eq_getElem?_getD, hp]
    exact ⟨ht pp (List.mem_of_getElem? hp), (ha.sm pp (List.mem_of_getElem? hp)).2⟩
  have HC : Hid (∀ k, k < m → ∀ wr, (∀ S, Keeps S w wr) → _) := Lib.hid CEL
  have HS : Hid (∀ k, k < m → _) := Lib.hid SM
  have HSU : Hid (∀ f t k, k ≤ m → sumIn l f t k ≤ 5000 * 18446744073709551616) := Lib.hid (fun f t k hk => Nat.le_trans (sumIn_le l f t (fun p hp => (ha.sm p hp).2) k) (Nat.mul_le_mul (by omega) (Nat.le_refl _)))
  have HL := Lib.hid (show l.length = m ∧ m ≤ 5000 ∧ i < m from ⟨hl, hm9, hi⟩)
  have HMO := fun (t : Nat) (h : t ≤ 1099511627776) w => Lib.hid (most_ok w n d b t (by simp [err, hm]; omega))
  unfold bv at HMO ⊢
  have i0 : (0 : Int) ≤ (i : Int) := by omega
  have i1 : (i : Int) < (m : Int) := by omega
  have i2 : (i : Int) ≤ 5000 := by omega
  have HBM := Lib.hid (show b ≤ 1048576 ∧ n ≤ 65536 from ⟨hm.2.2.2, hm.1.2⟩)
  clear ha hl hm9 hi ht hm hl0 hp0 hbb CEL SM
  go_enter Try.func45, Try.ntmps45
  go_wp2_with fail
  have V0 := Lib.hid (show (∀ S, Keeps S w (w.alloc (.cells #[.int .u64 (n : Int), .int .u64 (d : Int), .int .u64 (b : Int)] 24))) ∧ Blk (w.alloc (.cells #[.int .u64 (n : Int), .int .u64 (d : Int), .int .u64 (b : Int)] 24)) w.heap.size 24 [.int .u64 (n : Int), .int .u64 (d : Int), .int .u64 (b : Int)] from ⟨fun S => (Keeps.refl S w).alloc _, Blk.new w _ _⟩)
  go_loopw [7] (fun fi wr => ∃ f : Nat, f ≤ i + 1 ∧ fi = .int .i64 (f : Int) ∧ (∀ S, Keeps S w wr) ∧ Blk wr w.heap.size 24 [.int .u64 (n : Int), .int .u64 (d : Int), .int .u64 (b : Int)] ∧ ∀ f' t, f' < f → t ≤ i → ¬ Ovr n d b l i f' t) (fun fi _ => i + 2 - (intOf fi).toNat)
  case atStart => exact ⟨0, Nat.zero_le _, rfl, V0.out.1, V0.out.2, fun f' t h => absurd h (Nat.not_lt_zero _)⟩
  case round =>
    clear V0
    obtain ⟨f, hf, rfl, hk, hb, hno⟩ := hrel
    have HK : Hid (∀ S, Keeps S w wr) := Lib.hid hk
    have HB := Lib.hid hb
    have HNO := Lib.hid hno
    have HF := Lib.hid hf
    have f0 : (0 : Int) ≤ (f : Int) := by omega
    rcases Nat.lt_or_ge i f with hlt | hlt
    · have hlt' : ¬ (f : Int) ≤ (i : Int) := by omega
      have HLT := Lib.hid hlt
      clear hk hb hno hf hlt
      go_wp2
      try rw [Exit.noGoto_ret]
      go_ret
      refine ⟨false, rfl, ⟨fun h => (by cases h), fun ⟨f', t, h1, h2, h3⟩ => absurd h3 (HNO.out f' t (by have := HLT.out; omega) h2)⟩, HK.out⟩
    · have hlt' : (f : Int) ≤ (i : Int) := by omega
      have f1 : (f : Int) < (m : Int) := by omega
      have HFI := Lib.hid hlt
      clear hk hb hno hf hlt
      go_wp2_with fail
      go_loopw [8] (fun ti wr => ∃ t : Nat, t ≤ i + 1 ∧ ti = .int .i64 (t : Int) ∧ (∀ S, Keeps S w wr) ∧ Blk wr w.heap.size 24 [.int .u64 (n : Int), .int .u64 (d : Int), .int .u64 (b : Int)] ∧ ∀ t', t' < t → ¬ Ovr n d b l i f t') (fun ti _ => i + 2 - (intOf ti).toNat)
      case atStart => exact ⟨0, Nat.zero_le _, rfl, HK.out, HB.out, fun t' h => absurd h (Nat.not_lt_zero _)⟩
      case round =>
        clear HK HB
        obtain ⟨t, htt, rfl, hk, hb, hnt⟩ := hrel
        have HK : Hid (∀ S, Keeps S w wr) := Lib.hid hk
        have HB := Lib.hid hb
        have HNT := Lib.hid hnt
        have t0 : (0 : Int) ≤ (t : Int) := by omega
        rcases Nat.lt_or_ge i t with hti | hti
        · have hti' : ¬ (t : Int) ≤ (i : Int) := by omega
          have HTI := Lib.hid hti
          clear hk hb hnt htt hti
          go_wp2_with fail
          go_roundw
          case rel => exact ⟨f + 1, by have := HFI.out; omega, by go_num, HK.out, HB.out, fun f' t' h1 h2 => by
            rcases Nat.lt_or_ge f' f with q | q
            · exact HNO.out f' t' q h2
            · have e : f' = f := by omega
              subst e
              exact HNT.out t' (by have := HTI.out; omega)⟩
          case measure => have := HFI.out; simp [intOf]; omega
        · have hti' : (t : Int) ≤ (i : Int) := by omega
          have t1 : (t : Int) < (m : Int) := by have := HL.out; omega
          have cf := (HC.out f (by have := HL.out; have := HFI.out; omega) wr hk).1
          have ct := (HC.out t (by have := HL.out; omega) wr hk).1
          have ci := (HC.out i HL.out.2.2 wr hk).1
          obtain ⟨F, hF⟩ : ∃ F, F = (l.getD f (0, 0)).1 := ⟨_, rfl⟩
          obtain ⟨T, hT⟩ : ∃ T, T = (l.getD t (0, 0)).1 := ⟨_, rfl⟩
          obtain ⟨I, hI⟩ : ∃ I, I = (l.getD i (0, 0)).1 := ⟨_, rfl⟩
          rw [← hF] at cf
          rw [← hT] at ct
          rw [← hI] at ci
          have HEQ := Lib.hid (show F = (l.getD f (0, 0)).1 ∧ T = (l.getD t (0, 0)).1 ∧ I = (l.getD i (0, 0)).1 from ⟨hF, hT, hI⟩)
          have HTI := Lib.hid hti
          clear hk hb hnt htt hti hF hT hI
          go_wp2_with fail
          go_region_held3 (fun w' => w'.cell? ⟨bb, o + f * 2, none⟩ = some (.int .u64 (F : Int)) ∧ w'.cell? ⟨bb, o + t * 2, none⟩ = some (.int .u64 (T : Int))) (first | exact ⟨cf, ct⟩) ((first | fail))
          have ci' : wr.drew.cell? ⟨bb, o + i * 2, none⟩ = some (.int .u64 (I : Int)) := ci
          have HKD : Hid (∀ S, Keeps S w wr.drew) := Lib.hid (fun S => (HK.out S).drew)
          have HBD := Lib.hid (Blk.keeps HB.out ((Keeps.refl (fun _ => False) wr).drew) (fun z => z))
          clear HK HB ci cf ct
          generalize wr.drew = wr at *
          by_cases hskip : I < F ∨ T < I
          · have q1 : (I : Int) < (F : Int) ∨ (¬ (I : Int) < (F : Int) ∧ (T : Int) < (I : Int)) := by omega
            have HSK := Lib.hid hskip
            clear hskip
            rcases q1 with q1 | ⟨q1, q2⟩
            all_goals
              go_wp2_with fail
              go_roundw
              case rel => exact ⟨t + 1, by have := HTI.out; omega, by go_num, HKD.out, HBD.out, fun t' h1 => by
                rcases Nat.lt_or_ge t' t with q | q
                · exact HNT.out t' q
                · have e : t' = t := by omega
                  subst e
                  rintro ⟨g1, g2, _⟩
                  have h3 := HEQ.out
                  rw [← h3.1, ← h3.2.2] at g1
                  rw [← h3.2.1, ← h3.2.2] at g2
                  have := HSK.out
                  omega⟩
              case measure => have := HTI.out; simp [intOf]; omega
          · have q1 : ¬ (I : Int) < (F : Int) := by omega
            have q2 : ¬ (T : Int) < (I : Int) := by omega
            have HNS := Lib.hid (show F ≤ I ∧ I ≤ T from by omega)
            clear hskip
            go_wp2_with fail
            obtain ⟨Z, hZ⟩ : ∃ Z, Z = wr.heap.size := ⟨_, rfl⟩
            have VK := Lib.hid (show (∀ S, Keeps S w (wr.alloc (.cells #[.int .u64 0, .int .u64 0] 60))) ∧ Blk (wr.alloc (.cells #[.int .u64 0, .int .u64 0] 60)) w.heap.size 24 [.int .u64 (n : Int), .int .u64 (d : Int), .int .u64 (b : Int)] ∧ Blk (wr.alloc (.cells #[.int .u64 0, .int .u64 0] 60)) Z 60 [.int .u64 (wh (sumIn l F T 0) : Int), .int .u64 (wl (sumIn l F T 0) : Int)] from ⟨fun S => (HKD.out S).alloc _, HBD.out.alloc _, by rw [show sumIn l F T 0 = 0 from rfl, wh0.1, wh0.2, hZ]; exact Blk.new wr _ _⟩)
            have HZ := Lib.hid (show w.heap.size < Z from by rw [hZ]; exact HBD.out.lt)
            rw [← hZ]
            clear hZ ci'
            go_loopw [12] (fun ki wr => ∃ k : Nat, k ≤ i + 1 ∧ ki = .int .i64 (k : Int) ∧ (∀ S, Keeps S w wr) ∧ Blk wr w.heap.size 24 [.int .u64 (n : Int), .int .u64 (d : Int), .int .u64 (b : Int)] ∧ Blk wr Z 60 [.int .u64 (wh (sumIn l F T k) : Int), .int .u64 (wl (sumIn l F T k) : Int)]) (fun ki _ => i + 2 - (intOf ki).toNat)
            case atStart => exact ⟨0, Nat.zero_le _, rfl, VK.out⟩
            case round =>
              clear VK HKD HBD
              obtain ⟨k, hki, rfl, hk, hb, hz⟩ := hrel
              have HK : Hid (∀ S, Keeps S w wr) := Lib.hid hk
              have HB := Lib.hid hb
              have HZB := Lib.hid hz
              have HKI := Lib.hid hki
              have k0 : (0 : Int) ≤ (k : Int) := by omega
              rcases Nat.lt_or_ge i k with hik | hik
              · have hik' : ¬ (k : Int) ≤ (i : Int) := by omega
                have hke : k = i + 1 := by omega
                subst hke
                have HM1 := HMO (T - F) (by have h1 := HEQ.out; have h2 := HS.out t (by have := HL.out; have := HTI.out; omega); rw [← h1.2.1] at h2; omega)
                obtain ⟨M, hM⟩ : ∃ M, M = b + (T - F) * n / d := ⟨_, rfl⟩
                have hM9 : M < 18446744073709551616 := by
                  have h1 := HEQ.out; have h2 := HS.out t (by have := HL.out; have := HTI.out; omega); rw [← h1.2.1] at h2
                  have h3 := HBM.out
                  have h4 : (T - F) * n ≤ 1099511627776 * 65536 := Nat.mul_le_mul (by omega) h3.2
                  have h5 : (T - F) * n / d ≤ (T - F) * n := Nat.div_le_self _ _
                  omega
                rw [← hM] at HM1
                have HWM := fun w => Lib.hid (word_ w M hM9)
                have HTF := Lib.hid (show IntKind.u64.wrap ((T : Int) - (F : Int)) = ((T - F : Nat) : Int) by
                  have h1 := HEQ.out; have h2 := HS.out t (by have := HL.out; have := HTI.out; omega); rw [← h1.2.1] at h2
                  have h3 := HNS.out
                  rw [wrap_u64]; omega)
                have HME := Lib.hid hM
                have x0 : wr.cell? ⟨w.heap.size, 0, none⟩ = some (.int .u64 (n : Int)) := by rw [hb.cell]; rfl
                have x1 : wr.cell? ⟨w.heap.size, 1, none⟩ = some (.int .u64 (d : Int)) := by rw [hb.cell]; rfl
                have x2 : wr.cell? ⟨w.heap.size, 2, none⟩ = some (.int .u64 (b : Int)) := by rw [hb.cell]; rfl
                clear hk hb hz hki hik hM hM9
                rcases Nat.lt_or_ge M (sumIn l F T (i + 1)) with hms | hms
                · have HAB := fun w => Lib.hid (above_ w (sumIn l F T (i + 1)) M)
                  rw [decide_eq_true hms] at HAB
                  have HMS := Lib.hid hms
                  clear hms
                  simp only [wd_sh] at HWM HAB
                  go_wp2_with fail
                  rw [HTF.out]
                  refine (HM1 _).out.mono ?_
                  rintro e w5 ⟨rfl, k5⟩
                  have K5 : Hid (∀ S, Keeps S w w5) := Lib.hid (fun S => (HK.out S).trans (k5 S))
                  have Z5 := Blk.keeps HZB.out (k5 (fun _ => False)) (fun z => z)
                  have z0 : w5.cell? ⟨Z, 0, none⟩ = some (.int .u64 (wh (sumIn l F T (i + 1)) : Int)) := by rw [Z5.cell]; rfl
                  have z1 : w5.cell? ⟨Z, 1, none⟩ = some (.int .u64 (wl (sumIn l F T (i + 1)) : Int)) := by rw [Z5.cell]; rfl
                  clear k5 Z5 x0 x1 x2
                  go_wp2_with fail
                  go_region_held3 (fun w' => w'.cell? ⟨Z, 0, none⟩ = some (.int .u64 (wh (sumIn l F T (i + 1)) : Int)) ∧ w'.cell? ⟨Z, 1, none⟩ = some (.int .u64 (wl (sumIn l F T (i + 1)) : Int)))
                    (first | exact ⟨z0, z1⟩ | exact ⟨y0, y1⟩ | exact ⟨u0, u1⟩)
                    ((first
                      | (go_at_call 49; refine (HWM _).out.mono ?_; rintro e w7 ⟨rfl, k7⟩; have y0 := Keeps.cell (k7 (fun _ => False)) (show w5.drew.cell? _ = _ from z0) (fun z => z); have y1 := Keeps.cell (k7 (fun _ => False)) (show w5.drew.cell? _ = _ from z1) (fun z => z); have K7 : Hid (∀ S, Keeps S w5 w7) := Lib.hid (fun S => Keeps.trans (Keeps.refl S w5).drew (k7 S)); clear k7)
                      | (go_at_call 35; refine (HAB _).out.mono ?_; rintro e w8 ⟨rfl, k8⟩; have u0 := Keeps.cell (k8 (fun _ => False)) y0 (fun z => z); have u1 := Keeps.cell (k8 (fun _ => False)) y1 (fun z => z); have K58 : Hid (∀ S, Keeps S w5 w8) := Lib.hid (fun S => (K7.out S).trans (k8 S)); have K8 : Hid (∀ S, Keeps S w w8) := Lib.hid (fun S => (K5.out S).trans (K58.out S)); clear k8)))
                  go_wp2
                  try rw [Exit.noGoto_ret]
                  go_ret
                  refine ⟨true, rfl, ⟨fun _ => ⟨f, t, HFI.out, HTI.out, ?_⟩, fun _ => rfl⟩, K8.out⟩
                  have h1 := HEQ.out
                  have h3 := HNS.out
                  refine ⟨by rw [← h1.1, ← h1.2.2]; exact h3.1, by rw [← h1.2.1, ← h1.2.2]; exact h3.2, ?_⟩
                  rw [← h1.1, ← h1.2.1, ← HME.out]
                  exact HMS.out
                · have HAB := fun w => Lib.hid (above_ w (sumIn l F T (i + 1)) M)
                  rw [decide_eq_false (Nat.not_lt.2 hms)] at HAB
                  have HMS := Lib.hid hms
                  clear hms
                  simp only [wd_sh] at HWM HAB
                  go_wp2_with fail
                  rw [HTF.out]
                  refine (HM1 _).out.mono ?_
                  rintro e w5 ⟨rfl, k5⟩
                  have K5 : Hid (∀ S, Keeps S w w5) := Lib.hid (fun S => (HK.out S).trans (k5 S))
                  have Z5 := Blk.keeps HZB.out (k5 (fun _ => False)) (fun z => z)
                  have B5 := Lib.hid (Blk.keeps HB.out (k5 (fun _ => False)) (fun z => z))
                  have z0 : w5.cell? ⟨Z, 0, none⟩ = some (.int .u64 (wh (sumIn l F T (i + 1)) : Int)) := by rw [Z5.cell]; rfl
                  have z1 : w5.cell? ⟨Z, 1, none⟩ = some (.int .u64 (wl (sumIn l F T (i + 1)) : Int)) := by rw [Z5.cell]; rfl
                  clear k5 Z5 x0 x1 x2
                  go_wp2_with fail
                  go_region_held3 (fun w' => w'.cell? ⟨Z, 0, none⟩ = some (.int .u64 (wh (sumIn l F T (i + 1)) : Int)) ∧ w'.cell? ⟨Z, 1, none⟩ = some (.int .u64 (wl (sumIn l F T (i + 1)) : Int)))
                    (first | exact ⟨z0, z1⟩ | exact ⟨y0, y1⟩ | exact ⟨u0, u1⟩)
                    ((first
                      | (go_at_call 49; refine (HWM _).out.mono ?_; rintro e w7 ⟨rfl, k7⟩; have y0 := Keeps.cell (k7 (fun _ => False)) (show w5.drew.cell? _ = _ from z0) (fun z => z); have y1 := Keeps.cell (k7 (fun _ => False)) (show w5.drew.cell? _ = _ from z1) (fun z => z); have K7 : Hid (∀ S, Keeps S w5 w7) := Lib.hid (fun S => Keeps.trans (Keeps.refl S w5).drew (k7 S)); clear k7)
                      | (go_at_call 35; refine (HAB _).out.mono ?_; rintro e w8 ⟨rfl, k8⟩; have u0 := Keeps.cell (k8 (fun _ => False)) y0 (fun z => z); have u1 := Keeps.cell (k8 (fun _ => False)) y1 (fun z => z); have K58 : Hid (∀ S, Keeps S w5 w8) := Lib.hid (fun S => (K7.out S).trans (k8 S)); have K8 : Hid (∀ S, Keeps S w w8) := Lib.hid (fun S => (K5.out S).trans (K58.out S)); clear k8)))
                  go_wp2_with fail
                  go_roundw
                  case rel => exact ⟨t + 1, by have := HTI.out; omega, by go_num, K8.out, Blk.keeps B5.out (K58.out (fun _ => False)) (fun z => z), fun t' h1 => by
                    rcases Nat.lt_or_ge t' t with q | q
                    · exact HNT.out t' q
                    · have e : t' = t := by omega
                      subst e
                      rintro ⟨_, _, g3⟩
                      have h3 := HEQ.out
                      rw [← h3.1, ← h3.2.1, ← HME.out] at g3
                      have := HMS.out
                      omega⟩
                  case measure => have := HTI.out; simp [intOf]; omega
              · have hik' : (k : Int) ≤ (i : Int) := by omega
                have k1 : (k : Int) < (m : Int) := by omega
                have hkm : k < m := by have := HL.out; omega
                obtain ⟨c1, c2⟩ := HC.out k hkm wr hk
                obtain ⟨P1, hP1⟩ : ∃ P1, P1 = (l.getD k (0, 0)).1 := ⟨_, rfl⟩
                obtain ⟨P2, hP2⟩ : ∃ P2, P2 = (l.getD k (0, 0)).2 := ⟨_, rfl⟩
                have hsm := HS.out k hkm
                rw [← hP1] at c1
                rw [← hP2] at c2
                rw [← hP1, ← hP2] at hsm
                have hstep : sumIn l F T (k + 1) = sumIn l F T k + (if F ≤ P1 ∧ P1 ≤ T then P2 else 0) := by rw [sumIn, ← hP1, ← hP2]
                have HKIK := Lib.hid hik
                by_cases hin : F ≤ P1 ∧ P1 ≤ T
                · rw [if_pos hin] at hstep
                  have q3 : (F : Int) ≤ (P1 : Int) := by omega
                  have q4 : (P1 : Int) ≤ (T : Int) := by omega
                  have hsu := HSU.out F T k (by omega)
                  have HWD := fun w => Lib.hid (word_ w P2 hsm.2)
                  have HPL := fun w => Lib.hid (plus_ w (sumIn l F T k) P2 (by omega))
                  rw [← hstep] at HPL
                  simp only [wd_sh] at HWD HPL
                  have z0 : wr.cell? ⟨Z, 0, none⟩ = some (.int .u64 (wh (sumIn l F T k) : Int)) := by rw [hz.cell]; rfl
                  have z1 : wr.cell? ⟨Z, 1, none⟩ = some (.int .u64 (wl (sumIn l F T k) : Int)) := by rw [hz.cell]; rfl
                  clear hk hb hz hki hik hkm hsm hstep hin hP1 hP2 hsu
                  go_wp2_with fail
                  go_region_law (first
                    | (go_simp; go_at_call 49; refine (HWD _).out.mono ?_; rintro e w7 ⟨rfl, k7⟩; have y0 := Keeps.cell (k7 (fun _ => False)) (show wr.drew.cell? _ = _ from z0) (fun z => z); have y1 := Keeps.cell (k7 (fun _ => False)) (show wr.drew.cell? _ = _ from z1) (fun z => z); have K7 : Hid (∀ S, Keeps S wr w7) := Lib.hid (fun S => Keeps.trans (Keeps.refl S wr).drew (k7 S)); clear k7)
                    | (go_simp; go_at_call 36; refine (HPL _).out.mono ?_; rintro e w8 ⟨rfl, k8⟩; have kk : ∀ S, Keeps S wr w8 := (fun S => (K7.out S).trans (k8 S)); have bz := Blk.keeps HZB.out (kk (fun _ => False)) (fun z => z); have u0 : w8.cell? ⟨Z, 0, none⟩ = some (.int .u64 (wh (sumIn l F T k) : Int)) := (by rw [bz.cell]; rfl); have u1 : w8.cell? ⟨Z, 1, none⟩ = some (.int .u64 (wl (sumIn l F T k) : Int)) := (by rw [bz.cell]; rfl); have uf0 := bz.frozen 0; have uf1 := bz.frozen 1; have KK : Hid (∀ S, Keeps S wr w8) := Lib.hid kk; have BZ := Lib.hid bz; clear k8 kk bz))
                  all_goals
                    go_wp2_with fail
                    go_roundw
                    case rel =>
                      have kz : Keeps (· = Z) w8 ((w8.setCell ⟨Z, 0, none⟩ (.int .u64 (wh (sumIn l F T (k + 1)) : Int))).setCell ⟨Z, 1, none⟩ (.int .u64 (wl (sumIn l F T (k + 1)) : Int))) := (Keeps.here _).trans (Keeps.here _)
                      have hzz := HZ.out
                      exact ⟨k + 1, by have := HKIK.out; omega, by go_num, fun S => (((HK.out S).trans (KK.out S)).setCell (.inr (Nat.le_of_lt hzz)) _).setCell (.inr (Nat.le_of_lt hzz)) _, Blk.keeps (Blk.keeps HB.out (KK.out (fun _ => False)) (fun z => z)) kz (by omega), by simpa using (BZ.out.put 0 (.int .u64 (wh (sumIn l F T (k + 1)) : Int))).put 1 (.int .u64 (wl (sumIn l F T (k + 1)) : Int))⟩
                    case measure => have := HKIK.out; simp [intOf]; omega
                · rw [if_neg hin, Nat.add_zero] at hstep
                  have HST := Lib.hid hstep
                  have q3 : (P1 : Int) < (F : Int) ∨ (¬ (P1 : Int) < (F : Int) ∧ (T : Int) < (P1 : Int)) := by omega
                  clear hk hb hz hki hik hkm hsm hstep hin hP1 hP2
                  rcases q3 with q3 | ⟨q3, q4⟩
                  all_goals
                    go_wp2_with fail
                    go_roundw
                    case rel => exact ⟨k + 1, by have := HKIK.out; omega, by go_num, HK.out, HB.out, by rw [HST.out]; exact HZB.out⟩
                    case measure => have := HKIK.out; simp [intOf]; omega
end
end Go.Proofs.Ytbiadglhfpapaaa.bk
