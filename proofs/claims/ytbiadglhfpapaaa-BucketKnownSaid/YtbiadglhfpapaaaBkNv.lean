/-
  patchbaylaw12's BucketNever, walked: whatever Take, Fits and works are, so long as they keep these words.
-/
import Derived.Test.YtbiadglhfpapaaaBkKp
set_option linter.unusedVariables false
namespace Go.Proofs.Ytbiadglhfpapaaa.bk
open Go.RowKit Go.Proofs.Ytbiadglhfpapaaa.oc Go.Proofs.Ytbiadglhfpapaaa.mz
section
variable (w : World) (n d b : Nat)
/-- bucket.Take, of good arguments -/
def TakeSaid : Prop := ∀ (w : World) (n d b s t k : Nat), May n d b → t ≤ 1099511627776 → s < 18446744073709551616 → k < 18446744073709551616 → Calls Try.prog 12 #[bv n d b, .int .u64 (s : Int), .int .u64 (t : Int), .int .u64 (k : Int)] w fun e w' => e = .returned (.tuple #[.int .u64 ((takeOf n d b s t k : Nat) : Int), .bool (lets n d b s t k), .int .i64 0]) ∧ ∀ S, Keeps S w w'
/-- bucket.Fits, of good arguments -/
def FitsSaid : Prop := ∀ (w : World) (n d b : Nat) (A : Option Addr) (m c : Nat) (l : List (Nat × Nat)), May n d b → Asks w w.heap.size A l → l.length = m → m ≤ 4096 → (∀ p ∈ l, p.1 ≤ 1099511627776) → Calls Try.prog 26 #[bv n d b, .slice A m c] w fun e w' => ∃ k : Nat, e = .returned (.tuple #[.int .i64 (k : Int), .int .i64 0]) ∧ IsFits n d b l k ∧ ∀ S, Keeps S w w'
def WorksSaid : Prop := ∀ w : World, Calls Try.prog 20 #[] w fun e w' => e = .returned (.bool true) ∧ ∀ S, Keeps S w w'
theorem may_right : May (n % 65536 + 1) (d % 65536 + 1) (b % 1048576 + 1) := ⟨⟨by omega, by omega⟩, ⟨by omega, by omega⟩, by omega, by omega⟩
/-- what stands at a round's beginning: what was let through, the state -/
def NvI (N D B s : Nat) (P : List (Nat × Nat)) (S k : Nat) : Prop := P.length ≤ k ∧ k ≤ 200 ∧ Good N D B s P ∧ S = st N D s P P.length ∧ S < 18446744073709551616 ∧ ∀ p ∈ P, p.1 ≤ 1099511627776 ∧ p.2 < 18446744073709551616
theorem nv_start {N D B s : Nat} (hs : s < 18446744073709551616) : NvI N D B s [] s 0 := ⟨Nat.le_refl _, by omega, fun k h => absurd h (Nat.not_lt_zero _), rfl, hs, fun p h => by simp at h⟩
theorem nv_yes {N D B s : Nat} {P : List (Nat × Nat)} {S k t q : Nat} (h : NvI N D B s P S k) (hk : k < 200) (hm : May N D B) (ht : t ≤ 1099511627776) (hq : q < 18446744073709551616) (hl : lets N D B S t q = true) : NvI N D B s (P ++ [(t, q)]) (takeOf N D B S t q) (k + 1) ∧ S ≤ takeOf N D B S t q := by
  obtain ⟨h1, h2, h3, h4, h5, h6⟩ := h
  have hlt := take_lt N D B S t q h5
  obtain ⟨e1, e2⟩ := take_st hm ht hl
  refine ⟨⟨by simp; omega, by omega, good_snoc h3 (by rw [← h4]; exact e2), ?_, hlt, ?_⟩, by rw [e1]; omega⟩
  · rw [List.length_append, List.length_singleton, st_snoc, ← h4, e1]
  · intro p hp
    rcases List.mem_append.1 hp with hp | hp
    · exact h6 p hp
    · rw [List.mem_singleton.1 hp]; exact ⟨ht, hq⟩
theorem nv_no {N D B s : Nat} {P : List (Nat × Nat)} {S k : Nat} (h : NvI N D B s P S k) (hk : k < 200) : NvI N D B s P S (k + 1) := ⟨by have := h.1; omega, by omega, h.2.2⟩
set_option maxRecDepth 100000 in
set_option maxHeartbeats 4000000 in
theorem never_walk (HT : TakeSaid) (HF : FitsSaid) (HO : WorksSaid) (s : Nat) (A : Option Addr) (m c : Nat) (l : List (Nat × Nat)) (hs : s < 18446744073709551616) (ha : Asks w w.heap.size A l) (hl : l.length = m) (hm9 : m ≤ 1000000000000000) : Calls Try.prog 6 #[bv n d b, .int .u64 (s : Int), .slice A m c] w fun e w' => e = .returned (.bool true) ∧ ∀ S, Keeps S w w' := by
  have HR := fun w => Lib.hid (right_ w n d b)
  have hmay := may_right n d b
  unfold bv at HR
  unfold bv
  obtain ⟨N, hN⟩ : ∃ N, N = n % 65536 + 1 := ⟨_, rfl⟩
  obtain ⟨D, hD⟩ : ∃ D, D = d % 65536 + 1 := ⟨_, rfl⟩
  obtain ⟨B, hB⟩ : ∃ B, B = b % 1048576 + 1 := ⟨_, rfl⟩
  rw [← hN, ← hD, ← hB] at hmay
  simp only [← hN, ← hD, ← hB] at HR
  have HA := Lib.hid ha
  have HL := Lib.hid (show l.length = m ∧ m ≤ 1000000000000000 ∧ s < 18446744073709551616 from ⟨hl, hm9, hs⟩)
  have HM := Lib.hid hmay
  have hm9' : (m : Int) ≤ 1000000000000000 := by omega
  clear ha hl hm9 hs hmay hN hD hB
  go_enter Try.func6, Try.ntmps6
  go_wp2_with fail
  have B0 := Blk.new w 24 #[.int .u64 (n : Int), .int .u64 (d : Int), .int .u64 (b : Int)]
  refine (HR _).out.mono ?_
  rintro e w1 ⟨rfl, k1⟩
  have b1 := Blk.keeps B0 (k1 (fun _ => False)) (fun z => z)
  have y0 : w1.cell? ⟨w.heap.size, 0, none⟩ = some (.int .u64 (n : Int)) := by rw [b1.cell]; rfl
  have y1 : w1.cell? ⟨w.heap.size, 1, none⟩ = some (.int .u64 (d : Int)) := by rw [b1.cell]; rfl
  have y2 : w1.cell? ⟨w.heap.size, 2, none⟩ = some (.int .u64 (b : Int)) := by rw [b1.cell]; rfl
  have f0 := b1.frozen 0
  have f1 := b1.frozen 1
  have f2 := b1.frozen 2
  have KW := Lib.hid (show (∀ S, Keeps S w w1) ∧ w.heap.size < w1.heap.size from ⟨fun S => ((Keeps.refl S w).alloc _).trans (k1 S), b1.lt⟩)
  have B1 := Lib.hid b1
  clear k1 b1 B0
  go_wp2_with fail
  have V2 := Lib.hid (show (∀ S, Keeps S w (((w1.setCell ⟨w.heap.size, 0, none⟩ (.int .u64 (N : Int))).setCell ⟨w.heap.size, 1, none⟩ (.int .u64 (D : Int))).setCell ⟨w.heap.size, 2, none⟩ (.int .u64 (B : Int)))) ∧ Blk (((w1.setCell ⟨w.heap.size, 0, none⟩ (.int .u64 (N : Int))).setCell ⟨w.heap.size, 1, none⟩ (.int .u64 (D : Int))).setCell ⟨w.heap.size, 2, none⟩ (.int .u64 (B : Int))) w.heap.size 24 [.int .u64 (N : Int), .int .u64 (D : Int), .int .u64 (B : Int)] from ⟨fun S => ((((KW.out.1 S).setCell (.inr (Nat.le_refl _)) _).setCell (.inr (Nat.le_refl _)) _).setCell (.inr (Nat.le_refl _)) _), by simpa using ((B1.out.put 0 (.int .u64 (N : Int))).put 1 (.int .u64 (D : Int))).put 2 (.int .u64 (B : Int))⟩)
  clear y0 y1 y2 f0 f1 f2 KW B1
  have HKW : Hid (∀ S, Keeps S w (((w1.setCell ⟨w.heap.size, 0, none⟩ (.int .u64 (N : Int))).setCell ⟨w.heap.size, 1, none⟩ (.int .u64 (D : Int))).setCell ⟨w.heap.size, 2, none⟩ (.int .u64 (B : Int)))) := Lib.hid V2.out.1
  generalize ((w1.setCell ⟨w.heap.size, 0, none⟩ (.int .u64 (N : Int))).setCell ⟨w.heap.size, 1, none⟩ (.int .u64 (D : Int))).setCell ⟨w.heap.size, 2, none⟩ (.int .u64 (B : Int)) = w2 at *
  have hw2 : w.heap.size < w2.heap.size := V2.out.2.lt
  have HAW := Lib.hid (HA.out.keeps (S := fun _ => False) (V2.out.1 _) (fun _ _ z => z))
  go_loopw [1, 7, 8] (fun si v i wr => ∃ (k S : Nat) (P : List (Nat × Nat)), k ≤ m ∧ i = .int .i64 (k : Int) ∧ si = .int .u64 (S : Int) ∧ NvI N D B s P S k ∧ Am w2 wr v P ∧ Blk wr w.heap.size 24 [.int .u64 (N : Int), .int .u64 (D : Int), .int .u64 (B : Int)]) (fun _ _ i _ => m + 1 - (intOf i).toNat)
  case atStart => exact ⟨0, s, [], Nat.zero_le _, rfl, rfl, nv_start HL.out.2.2, Am.nil_ (fun S => Keeps.refl S w2), V2.out.2⟩
  case round =>
    clear V2
    obtain ⟨k, S, P, hk, rfl, rfl, hnv, ham, hbk⟩ := hrel
    have k0 : (0 : Int) ≤ (k : Int) := by omega
    have HNV := Lib.hid hnv
    have HAM := Lib.hid ham
    have HBK := Lib.hid hbk
    have y0 : wr.cell? ⟨w.heap.size, 0, none⟩ = some (.int .u64 (N : Int)) := by rw [hbk.cell]; rfl
    have y1 : wr.cell? ⟨w.heap.size, 1, none⟩ = some (.int .u64 (D : Int)) := by rw [hbk.cell]; rfl
    have y2 : wr.cell? ⟨w.heap.size, 2, none⟩ = some (.int .u64 (B : Int)) := by rw [hbk.cell]; rfl
    by_cases hgo : k < m ∧ k < 200
    · have k1 : (k : Int) < (m : Int) := by omega
      have k2 : (k : Int) < 200 := by omega
      have HGO := Lib.hid hgo
      obtain ⟨pp, hp⟩ : ∃ pp, l[k]? = some pp := ⟨_, List.getElem?_eq_getElem (by have := HL.out; omega)⟩
      have haw := HAW.out.keeps (S := fun _ => False) (ham.keep _) (fun _ _ z => z)
      obtain ⟨bb, o, rfl, hbb, c1, c2⟩ := haw.at_ hp
      have hsm := HA.out.sm pp (List.mem_of_getElem? hp)
      obtain ⟨pt, q⟩ := pp
      simp only at c1 c2 hsm
      obtain ⟨t, ht⟩ : ∃ t, t = pt % 1099511627777 := ⟨_, rfl⟩
      have htt : t ≤ 1099511627776 := by omega
      have hmod : (pt : Int) % 1099511627777 = (t : Int) := by omega
      have hTK := fun wq => Lib.hid (HT wq N D B S t q HM.out htt hnv.2.2.2.2.1 hsm.2)
      unfold bv at hTK
      have HMOD := Lib.hid hmod
      have HSM := Lib.hid (show t ≤ 1099511627776 ∧ q < 18446744073709551616 from ⟨htt, hsm.2⟩)
      have HPL := Lib.hid (show P.length + 1 ≤ 1000000000000 by have := hnv.1; omega)
      clear hk hgo hp haw hbb hsm ht htt hmod hnv ham hbk
      cases hlet : lets N D B S t q
      case true =>
        have HY := Lib.hid (nv_yes HNV.out HGO.out.2 HM.out HSM.out.1 HSM.out.2 hlet)
        rw [hlet] at hTK
        clear hlet
        obtain ⟨X, hX⟩ : ∃ X, X = takeOf N D B S t q := ⟨_, rfl⟩
        rw [← hX] at hTK HY
        have q1 : ¬ (X : Int) < (S : Int) := by have := HY.out.2; omega
        clear hX
        go_wp2_with fail
        rw [HMOD.out]
        go_region_held3 (fun w' => w'.cell? ⟨w.heap.size, 0, none⟩ = some (.int .u64 (N : Int)) ∧ w'.cell? ⟨w.heap.size, 1, none⟩ = some (.int .u64 (D : Int)) ∧ w'.cell? ⟨w.heap.size, 2, none⟩ = some (.int .u64 (B : Int)) ∧ w'.cell? ⟨bb, o + k * 2 + 1, none⟩ = some (.int .u64 (q : Int)))
          (first | exact ⟨y0, y1, y2, c2⟩ | exact ⟨z0, z1, z2, z4⟩)
          ((first
            | (go_at_call 12; refine (hTK _).out.mono ?_; rintro e w3 ⟨rfl, k3⟩; have z0 := Keeps.cell (k3 (fun _ => False)) (show wr.drew.cell? _ = _ from y0) (fun z => z); have z1 := Keeps.cell (k3 (fun _ => False)) (show wr.drew.cell? _ = _ from y1) (fun z => z); have z2 := Keeps.cell (k3 (fun _ => False)) (show wr.drew.cell? _ = _ from y2) (fun z => z); have z4 := Keeps.cell (k3 (fun _ => False)) (show wr.drew.cell? _ = _ from c2) (fun z => z); have K3 : Hid (∀ S, Keeps S wr w3) := Lib.hid (fun S => Keeps.trans (Keeps.refl S wr).drew (k3 S)); clear k3)))
        have M3 := Lib.hid ((HAM.out.grown K3.out).alloc (.cells #[.int .u64 (t : Int), .int .u64 (q : Int)] 50))
        have B3 := Lib.hid (Blk.new w3 50 (askc [(t, q)]).toArray)
        have BK3 := Lib.hid ((Blk.keeps HBK.out (K3.out (fun _ => False)) (fun z => z)).alloc (.cells #[.int .u64 (t : Int), .int .u64 (q : Int)] 50))
        have w4c : (w3.alloc (.cells #[.int .u64 (t : Int), .int .u64 (q : Int)] 50)).cell? ⟨bb, o + k * 2 + 1, none⟩ = some (.int .u64 (q : Int)) := Keeps.cell ((Keeps.refl (fun _ => False) w3).alloc _) z4 (fun z => z)
        clear z0 z1 z2 y0 y1 y2 c1 c2 HAM HBK
        go_wp2_with (at_builtin; refine Am.wpList_append rfl _ _ rfl M3.out rfl w3.heap.size 1 1 [(t, q)] rfl rfl B3.out HPL.out ?_; intro v4 w4 m4 kk4; have M4 := Lib.hid m4; have BK4 := Lib.hid (Blk.keeps BK3.out kk4 (M3.out.apart hw2)); clear m4 kk4)
        go_roundw
        case rel => exact ⟨k + 1, X, P ++ [(t, q)], HGO.out.1, by go_num, rfl, HY.out.1, M4.out, BK4.out⟩
        case measure => have := HGO.out.1; simp [intOf]; omega
      case false =>
        have HY := Lib.hid (nv_no HNV.out HGO.out.2)
        have hX : takeOf N D B S t q = S := by unfold takeOf; rw [hlet]; rfl
        rw [hlet, hX] at hTK
        clear hlet hX
        go_wp2_with fail
        rw [HMOD.out]
        go_region_held3 (fun w' => w'.cell? ⟨w.heap.size, 0, none⟩ = some (.int .u64 (N : Int)) ∧ w'.cell? ⟨w.heap.size, 1, none⟩ = some (.int .u64 (D : Int)) ∧ w'.cell? ⟨w.heap.size, 2, none⟩ = some (.int .u64 (B : Int)) ∧ w'.cell? ⟨bb, o + k * 2 + 1, none⟩ = some (.int .u64 (q : Int)))
          (first | exact ⟨y0, y1, y2, c2⟩ | exact ⟨z0, z1, z2, z4⟩)
          ((first
            | (go_at_call 12; refine (hTK _).out.mono ?_; rintro e w3 ⟨rfl, k3⟩; have z0 := Keeps.cell (k3 (fun _ => False)) (show wr.drew.cell? _ = _ from y0) (fun z => z); have z1 := Keeps.cell (k3 (fun _ => False)) (show wr.drew.cell? _ = _ from y1) (fun z => z); have z2 := Keeps.cell (k3 (fun _ => False)) (show wr.drew.cell? _ = _ from y2) (fun z => z); have z4 := Keeps.cell (k3 (fun _ => False)) (show wr.drew.cell? _ = _ from c2) (fun z => z); have K3 : Hid (∀ S, Keeps S wr w3) := Lib.hid (fun S => Keeps.trans (Keeps.refl S wr).drew (k3 S)); clear k3)))
        have AM3 := Lib.hid (HAM.out.grown K3.out)
        have BK3 := Lib.hid (Blk.keeps HBK.out (K3.out (fun _ => False)) (fun z => z))
        clear z0 z1 z2 z4 y0 y1 y2 c1 c2 HAM HBK
        go_wp2_with fail
        go_roundw
        case rel => exact ⟨k + 1, S, P, HGO.out.1, by go_num, rfl, HY.out, AM3.out, BK3.out⟩
        case measure => have := HGO.out.1; simp [intOf]; omega
    · have k1 : (¬ (k : Int) < (m : Int)) ∨ ((k : Int) < (m : Int) ∧ ¬ (k : Int) < 200) := by omega
      have HK : Hid (∀ S, Keeps S w wr) := Lib.hid (fun S => Keeps.trans (HKW.out S) (ham.keep S))
      have hown := ham.asks (fun p hp => ⟨by have := (hnv.2.2.2.2.2 p hp).1; omega, (hnv.2.2.2.2.2 p hp).2⟩)
      obtain ⟨PA, pc, rfl, hpa⟩ := hown
      have HPA := Lib.hid hpa
      have HFT := Lib.hid (fun wq (hq : Asks wq wq.heap.size PA P) => HF wq N D B PA P.length pc P HM.out hq rfl (by have := hnv.1; have := hnv.2.1; omega) (fun p hp => (hnv.2.2.2.2.2 p hp).1))
      unfold bv at HFT
      have HN := Lib.hid (never_fits HM.out.2.1.1 hnv.2.2.1)
      clear hk hgo hnv ham hbk hpa
      rcases k1 with k1 | ⟨k1, k2⟩
      all_goals
        go_wp2_with fail
        refine (HFT.out wr HPA.out).mono ?_
        rintro e w5 ⟨kf, rfl, hfit, k5⟩
        have e5 := hfit.one HN.out
        subst e5
        have K5 : Hid (∀ S, Keeps S w w5) := Lib.hid (fun S => (HK.out S).trans (k5 S))
        clear hfit k5 y0 y1 y2
        have hwk := fun wq => Lib.hid (HO wq)
        go_wp2_with fail
        refine (hwk _).out.mono ?_
        rintro e w6 ⟨rfl, k6⟩
        have K6 : Hid (∀ S, Keeps S w w6) := Lib.hid (fun S => (K5.out S).trans (k6 S))
        clear k6
        go_wp2
        try rw [Exit.noGoto_ret]
        go_ret
        exact ⟨rfl, K6.out⟩
end
end Go.Proofs.Ytbiadglhfpapaaa.bk
