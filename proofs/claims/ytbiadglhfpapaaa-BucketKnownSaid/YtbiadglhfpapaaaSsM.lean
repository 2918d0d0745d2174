/-
  symMerge: two sorted stretches beside each other are merged in place.
-/
import Derived.Test.YtbiadglhfpapaaaSsC
set_option linter.unusedVariables false
namespace Go.Proofs.Ytbiadglhfpapaaa.ss
open Go.RowKit Go.Proofs.Ytbiadglhfpapaaa.oc Go.Proofs.Ytbiadglhfpapaaa.mz Go.Proofs.Ytbiadglhfpapaaa.bk
/-- the middle of two places -/
theorem mid_ {i j h : Nat} (hh : h = (i + j) / 2) (hi : i ≤ 1000000) (hj : j ≤ 1000000) : (2 * h ≤ i + j ∧ i + j ≤ 2 * h + 1) := by omega
theorem wrap_inc (y : Nat) (h : y < 1000000) : IntKind.i64.wrap ((y : Int) + 1) = (y : Int) + 1 := by rw [IntKind.wrap_i64]; omega
theorem shl_seg {a b : Nat} (d : Nat → Nat) : ∀ k, a + k < b → Seg a b d (shl a (a + k) d)
  | 0, _ => by rw [Nat.add_zero, shl_zero]; exact Seg.refl _ _ _
  | k + 1, h => by
    rw [← Nat.add_assoc, ← shl_step d (show a ≤ a + k by omega)]
    exact (shl_seg d k (by omega)).trans (Seg.swap _ (by omega) (by omega))
theorem shr_seg {a m b : Nat} (d : Nat → Nat) (hm : m < b) : ∀ k, a + k ≤ m → Seg a b d (shr m (m - k) d)
  | 0, _ => by rw [Nat.sub_zero, shr_zero]; exact Seg.refl _ _ _
  | k + 1, h => by
    have h1 := shr_step (m := m) (k := m - (k + 1)) d (by omega)
    rw [show m - (k + 1) + 1 = m - k from by omega] at h1
    rw [← h1]
    exact (shr_seg d hm k (by omega)).trans (Seg.swap _ (by omega) (by omega))
section
variable (w : World) (R m c X : Nat) (K : Nat → Nat)
set_option maxRecDepth 100000 in
set_option maxHeartbeats 4000000 in
theorem merge_one (a q b : Nat) (d : Nat → Nat) (h : Ro w R m d) (hc : CmpOk w R m X K) (hq : q = a + 1) (hqb : q < b) (hb : b ≤ m) (hm : m ≤ 1000000) (h2 : So K d q b) : Calls Try.prog 58 #[.slice (some ⟨R, 0, none⟩) m c, .int .i64 (a : Int), .int .i64 (q : Int), .int .i64 (b : Int), .func (.func 51) #[] #[.pointer (some ⟨X, 0, none⟩)]] w (SortPost K R m a b d w) := by
  have H0 := Lib.hid h
  have HC := Lib.hid hc
  have H2 := Lib.hid h2
  have HA := Lib.hid (show q = a + 1 ∧ q < b ∧ b ≤ m ∧ m ≤ 1000000 from ⟨hq, hqb, hb, hm⟩)
  have w1 : IntKind.i64.wrap ((q : Int) - (a : Int)) = 1 := by rw [IntKind.wrap_i64]; omega
  clear h hc hq hqb hb hm h2
  go_enter Try.func58, Try.ntmps58
  go_wp2_with fail
  clear w1
  go_loopw [10, 11] (fun iv jv wr => ∃ i j : Nat, iv = .int .i64 (i : Int) ∧ jv = .int .i64 (j : Int) ∧ (q ≤ i ∧ i ≤ j ∧ j ≤ b) ∧ Keeps (· = R) w wr ∧ Ro wr R m d ∧ (∀ t, q ≤ t → t < i → K (d t) < K (d a)) ∧ (∀ t, j ≤ t → t < b → K (d a) ≤ K (d t))) (fun iv jv _ => (intOf jv - intOf iv).toNat)
  case atStart => exact ⟨q, b, rfl, rfl, by have := HA.out; omega, Keeps.refl _ _, H0.out, fun t h1 h2 => by omega, fun t h1 h2 => by omega⟩
  case round =>
    clear H0
    obtain ⟨i, j, rfl, rfl, hij, hkk, hr, hlo, hhi⟩ := hrel
    have HIJ := Lib.hid hij
    have HK := Lib.hid hkk
    have HR := Lib.hid hr
    have HLO := Lib.hid hlo
    have HHI := Lib.hid hhi
    rcases Nat.lt_or_ge i j with hlt | hlt
    · have hlt' : (i : Int) < (j : Int) := by omega
      obtain ⟨s, hs⟩ : ∃ s, s = i + j := ⟨_, rfl⟩
      obtain ⟨y, hy⟩ : ∃ y, y = s / 2 := ⟨_, rfl⟩
      have w2 : IntKind.i64.wrap ((i : Int) + (j : Int)) = (s : Int) := by have := HA.out; rw [IntKind.wrap_i64]; omega
      have HY := Lib.hid (show i ≤ y ∧ y < j ∧ y < m ∧ a < m from by have := HA.out; omega)
      have y1 : (y : Int) < (m : Int) := by have := HY.out; omega
      have a1 : (a : Int) < (m : Int) := by have := HY.out; omega
      have y0 : (0 : Int) ≤ (y : Int) := by omega
      have a0 : (0 : Int) ≤ (a : Int) := by omega
      have cy := hr.cell y HY.out.2.2.1
      have ca := hr.cell a HY.out.2.2.2
      have HCC := fun W (hk : Keeps (· = R) w W) => Lib.hid (HC.out W (d y) (d a) hk (hr.lt y HY.out.2.2.1) (hr.lt a HY.out.2.2.2))
      have e1 : IntKind.u64.wrap (s : Int) = (s : Int) := by have := HA.out; rw [IntKind.wrap_u64]; omega
      have e2 : (s : Int) / 2 = (y : Int) := by omega
      have e3 : wrap64 (y : Int) = (y : Int) := by have := HA.out; unfold wrap64; omega
      have HS := Lib.hid (show s = i + j ∧ y = s / 2 from ⟨hs, hy⟩)
      have wy : IntKind.i64.wrap ((y : Int) + 1) = (y : Int) + 1 := wrap_inc y (Nat.lt_of_lt_of_le HY.out.2.2.1 HA.out.2.2.2)
      clear hij hkk hr hlo hhi hlt hs hy
      by_cases hcc : K (d y) < K (d a)
      · have qz : cmpv (K (d y)) (K (d a)) < 0 := (cmpv_neg _ _).2 hcc
        have HCL := Lib.hid hcc
        clear hcc
        generalize cmpv (K (d y)) (K (d a)) = cz at *
        obtain ⟨dy, hdy⟩ : ∃ x, x = d y := ⟨_, rfl⟩
        obtain ⟨da, hda⟩ : ∃ x, x = d a := ⟨_, rfl⟩
        rw [← hdy, ← hda] at HCC
        rw [← hdy] at cy
        rw [← hda] at ca
        clear hdy hda
        go_wp2_with fail
        go_region_held3 (fun w' => w'.cell? ⟨R, y, none⟩ = some (.int .i64 (dy : Int)) ∧ w'.cell? ⟨R, a, none⟩ = some (.int .i64 (da : Int)))
          (first | exact ⟨cy, ca⟩ | exact ⟨z0, z1⟩)
          ((first
            | (go_at_call 51; refine (HCC _ (Keeps.drew HK.out)).out.mono ?_; rintro e w3 ⟨rfl, k3⟩; have z0 := Keeps.cell (k3 (fun _ => False)) (show wr.drew.cell? _ = _ from cy) (fun z => z); have z1 := Keeps.cell (k3 (fun _ => False)) (show wr.drew.cell? _ = _ from ca) (fun z => z); have K3 : Hid (∀ S, Keeps S wr w3) := Lib.hid (fun S => Keeps.trans (Keeps.refl S wr).drew (k3 S)); clear k3)))
        have R3 := Lib.hid (HR.out.keeps (K3.out (fun _ => False)) (fun z => z))
        have K4 := Lib.hid (HK.out.trans (K3.out _))
        clear z0 z1 cy ca K3 HK HR HCC e1 e2 e3
        go_wp2
        go_roundw
        case rel => exact ⟨y + 1, j, by first | rfl | go_num, rfl, by have := HIJ.out; have := HY.out; omega, K4.out, R3.out, fun t h1 h2 => by
          rcases Nat.lt_or_ge t i with g | g
          · exact HLO.out t h1 g
          · exact Nat.lt_of_le_of_lt (H2.out t y h1 (by omega) (by have := HIJ.out; have := HY.out; omega)) HCL.out, HHI.out⟩
        case measure => have := HY.out; simp only [intOf]; omega
      · have qz : ¬ cmpv (K (d y)) (K (d a)) < 0 := fun h => hcc ((cmpv_neg _ _).1 h)
        have HCL := Lib.hid hcc
        clear hcc
        generalize cmpv (K (d y)) (K (d a)) = cz at *
        obtain ⟨dy, hdy⟩ : ∃ x, x = d y := ⟨_, rfl⟩
        obtain ⟨da, hda⟩ : ∃ x, x = d a := ⟨_, rfl⟩
        rw [← hdy, ← hda] at HCC
        rw [← hdy] at cy
        rw [← hda] at ca
        clear hdy hda
        go_wp2_with fail
        go_region_held3 (fun w' => w'.cell? ⟨R, y, none⟩ = some (.int .i64 (dy : Int)) ∧ w'.cell? ⟨R, a, none⟩ = some (.int .i64 (da : Int)))
          (first | exact ⟨cy, ca⟩ | exact ⟨z0, z1⟩)
          ((first
            | (go_at_call 51; refine (HCC _ (Keeps.drew HK.out)).out.mono ?_; rintro e w3 ⟨rfl, k3⟩; have z0 := Keeps.cell (k3 (fun _ => False)) (show wr.drew.cell? _ = _ from cy) (fun z => z); have z1 := Keeps.cell (k3 (fun _ => False)) (show wr.drew.cell? _ = _ from ca) (fun z => z); have K3 : Hid (∀ S, Keeps S wr w3) := Lib.hid (fun S => Keeps.trans (Keeps.refl S wr).drew (k3 S)); clear k3)))
        have R3 := Lib.hid (HR.out.keeps (K3.out (fun _ => False)) (fun z => z))
        have K4 := Lib.hid (HK.out.trans (K3.out _))
        clear z0 z1 cy ca K3 HK HR HCC e1 e2 e3
        go_wp2
        go_roundw
        case rel => exact ⟨i, y, rfl, by first | rfl | go_num, by have := HIJ.out; have := HY.out; omega, K4.out, R3.out, HLO.out, fun t h1 h2 => by
          have g1 := H2.out y t (by have := HIJ.out; have := HY.out; omega) h1 h2
          have g2 := HCL.out
          omega⟩
        case measure => have := HY.out; simp only [intOf]; omega
    · have hlt' : ¬ (i : Int) < (j : Int) := by omega
      have hije : i = j := by omega
      have V := Lib.hid (show Keeps (· = R) w wr ∧ Ro wr R m (shl a a d) ∧ Seg a b d (shl a a d) from ⟨hkk, by rw [shl_zero]; exact hr, by rw [shl_zero]; exact Seg.refl _ _ _⟩)
      have HSO := Lib.hid (show So K (shl a (i - 1) d) a b from shl_so (by have := HA.out; omega) (by omega) (by rw [← HA.out.1]; exact H2.out) (by rw [← HA.out.1]; exact hlo) (by rw [hije]; exact hhi))
      have HIB := Lib.hid (show q ≤ i ∧ i ≤ b from by omega)
      have w3 : IntKind.i64.wrap ((i : Int) - 1) = ((i - 1 : Nat) : Int) := by have := HA.out; rw [IntKind.wrap_i64]; omega
      clear HK HR HLO HHI hij hkk hr hlo hhi hlt hije HIJ
      obtain ⟨z, hz⟩ : ∃ z, z = i - 1 := ⟨_, rfl⟩
      rw [← hz] at w3 HSO
      have HZ := Lib.hid hz
      clear hz
      go_wp2_with fail
      go_loopw [13] (fun kv wr => ∃ k : Nat, kv = .int .i64 (k : Int) ∧ (a ≤ k ∧ k ≤ z) ∧ Keeps (· = R) w wr ∧ Ro wr R m (shl a k d) ∧ Seg a b d (shl a k d)) (fun kv _ => z + 1 - (intOf kv).toNat)
      case atStart => exact ⟨a, rfl, by have := HA.out; have := HIB.out; have := HZ.out; omega, V.out⟩
      case round =>
        clear V
        obtain ⟨k, rfl, hk, hkk, hr, hsg⟩ := hrel
        have HK := Lib.hid hkk
        have HKZ := Lib.hid hk
        have HSG := Lib.hid hsg
        rcases Nat.lt_or_ge k z with hlt | hlt
        · have hlt' : (k : Int) < (z : Int) := by omega
          have HLT := Lib.hid hlt
          have hym : k < m := by have := HA.out; have := HIB.out; have := HZ.out; omega
          have hpm : k + 1 < m := by have := HA.out; have := HIB.out; have := HZ.out; omega
          obtain ⟨p, hp⟩ : ∃ p, p = k + 1 := ⟨_, rfl⟩
          rw [← hp] at hpm
          have wk : IntKind.i64.wrap ((k : Int) + 1) = (p : Int) := by have := HA.out; rw [IntKind.wrap_i64]; omega
          have k0 : (0 : Int) ≤ (k : Int) := by omega
          have p0 : (0 : Int) ≤ (p : Int) := by omega
          have k1 : (k : Int) < (m : Int) := by omega
          have p1 : (p : Int) < (m : Int) := by omega
          have ck := hr.cell k hym
          have cp := hr.cell p hpm
          have fk := hr.free k hym
          have fp := hr.free p hpm
          obtain ⟨u, cu⟩ := hr.c2 hym hpm (.int .i64 (shl a k d p : Int))
          have RS := Lib.hid (hr.swapped hym hpm)
          have HP := Lib.hid hp
          clear hk hkk hr hsg hlt hym hpm hp
          generalize hg1 : shl a k d k = gk at *
          generalize hg2 : shl a k d p = gp at *
          clear hg1 hg2
          go_wp2_with fail
          go_big_region
          have K4 := Lib.hid (((HK.out).trans (Keeps.swapped (i := k) (j := p) (a := .int .i64 (gp : Int)) (b := .int .i64 (gk : Int)))).drew)
          have R4 := Lib.hid RS.out.drew
          clear ck cp fk fp cu RS HK
          generalize ((wr.setCell ⟨R, k, none⟩ (.int .i64 (gp : Int))).setCell ⟨R, p, none⟩ (.int .i64 (gk : Int))).drew = w4 at *
          go_wp2
          go_roundw
          case rel =>
            have hp := HP.out
            subst hp
            have r4 := R4.out
            rw [shl_step d HKZ.out.1] at r4
            exact ⟨k + 1, by first | rfl | go_num, by have := HKZ.out; have := HLT.out; omega, K4.out, r4, by rw [← shl_step d HKZ.out.1]; exact HSG.out.trans (Seg.swap _ (by have := HA.out; have := HIB.out; have := HZ.out; have := HKZ.out; omega) (by have := HA.out; have := HIB.out; have := HZ.out; have := HLT.out; have := HKZ.out; omega))⟩
          case measure => have := HLT.out; have := HP.out; simp only [intOf]; omega
        · have hlt' : ¬ (k : Int) < (z : Int) := by omega
          have hkz : k = z := by omega
          subst hkz
          have HP := Lib.hid (show Ro wr R m (shl a k d) ∧ Seg a b d (shl a k d) from ⟨hr, hsg⟩)
          clear hk hkk hr hsg hlt
          go_wp2
          (try simp only [Exit.inBlock, Exit.then]); refine bodyPost_ret (results_none rfl _ _ _) rfl ?_
          exact ⟨rfl, HK.out, _, HP.out.1, HP.out.2, HSO.out⟩
end
end Go.Proofs.Ytbiadglhfpapaaa.ss
