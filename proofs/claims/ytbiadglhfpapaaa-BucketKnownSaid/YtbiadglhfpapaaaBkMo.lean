/-
  patchbaylaw12's BucketMost, walked: whatever Take, Most and works are, so long as they keep these words.
-/
import Derived.Test.YtbiadglhfpapaaaBkNv
set_option linter.unusedVariables false
namespace Go.Proofs.Ytbiadglhfpapaaa.bk
open Go.RowKit Go.Proofs.Ytbiadglhfpapaaa.oc Go.Proofs.Ytbiadglhfpapaaa.mz
section
variable (w : World) (n d b : Nat)
/-- bucket.Most, of good arguments -/
def MostSaid : Prop := ∀ (w : World) (n d b t : Nat), May n d b → t ≤ 1099511627776 → Calls Try.prog 18 #[bv n d b, .int .u64 (t : Int)] w fun e w' => e = .returned (.tuple #[.int .u64 ((b + t * n / d : Nat) : Int), .int .i64 0]) ∧ ∀ S, Keeps S w w'
theorem Asks.mono {w : World} {X Y : Nat} {A : Option Addr} {l : List (Nat × Nat)} (h : Asks w X A l) (hx : X ≤ Y) : Asks w Y A l := ⟨fun i v hv => by obtain ⟨b, o, e, hb, hc⟩ := h.rd i v hv; exact ⟨b, o, e, by omega, hc⟩, h.sm⟩
/-- what stands while the counting goes on -/
def MoI (w wz : World) (N D B X : Nat) (PA : Option Addr) (P : List (Nat × Nat)) : Prop := (∀ S, Keeps S w wz) ∧ Blk wz w.heap.size 24 [.int .u64 (N : Int), .int .u64 (D : Int), .int .u64 (B : Int)] ∧ Asks wz X PA P ∧ X ≤ wz.heap.size
theorem MoI.grown {w wz wy : World} {N D B X : Nat} {PA : Option Addr} {P : List (Nat × Nat)} (h : MoI w wz N D B X PA P) (k : ∀ S, Keeps S wz wy) : MoI w wy N D B X PA P := ⟨fun S => (h.1 S).trans (k S), Blk.keeps h.2.1 (k (fun _ => False)) (fun z => z), h.2.2.1.keeps (S := fun _ => False) (k _) (fun _ _ z => z), Nat.le_trans h.2.2.2 (k (fun _ => False)).size⟩
theorem sum_most {N D B s : Nat} {P : List (Nat × Nat)} (hm : May N D B) (hg : Good N D B s P) {F T : Nat} (hFT : F ≤ T) (hT : T ≤ 1099511627776) : ∀ k, k ≤ P.length → sumIn P F T k ≤ B + (T - F) * N / D ∧ sumIn P F T k < 18446744073709551616 := by
  intro k hk
  have h1 := le_most hm.2.1.1 (most_of hg hFT k hk)
  have h2 : (T - F) * N ≤ 1099511627776 * 65536 := Nat.mul_le_mul (by omega) hm.1.2
  have h3 : (T - F) * N / D ≤ (T - F) * N := Nat.div_le_self _ _
  have h4 := hm.2.2.2
  exact ⟨h1, by omega⟩
set_option maxRecDepth 100000 in
set_option maxHeartbeats 4000000 in
theorem most_walk (HT : TakeSaid) (HF : MostSaid) (HO : WorksSaid) (s : Nat) (A : Option Addr) (m c : Nat) (l : List (Nat × Nat)) (hs : s < 18446744073709551616) (ha : Asks w w.heap.size A l) (hl : l.length = m) (hm9 : m ≤ 1000000000000000) : Calls Try.prog 7 #[bv n d b, .int .u64 (s : Int), .slice A m c] w fun e w' => e = .returned (.bool true) ∧ ∀ S, Keeps S w w' := by
  have HR := fun w => Lib.hid (right_ w n d b)
  have hmay := may_right n d b
  unfold bv at HR
  unfold bv
  obtain ⟨N, hN⟩ : ∃ N, N = n % 65536 + 1 := ⟨_, rfl⟩
  obtain ⟨D, hD⟩ : ∃ D, D = d % 65536 + 1 := ⟨_, rfl⟩
  obtain ⟨B, hB⟩ : ∃ B, B = b % 1048576 + 1 := ⟨_, rfl⟩
  rw [← hN, ← hD, ← hB] at hmay
  simp only [← hN, ← hD, ← hB] at HR
  have HA := Lib.hid ha
  have HL := Lib.hid (show l.length = m ∧ m ≤ 1000000000000000 ∧ s < 18446744073709551616 from ⟨hl, hm9, hs⟩)
  have HM := Lib.hid hmay
  have hm9' : (m : Int) ≤ 1000000000000000 := by omega
  clear ha hl hm9 hs hmay hN hD hB
  go_enter Try.func7, Try.ntmps7
  go_wp2_with fail
  have B0 := Blk.new w 24 #[.int .u64 (n : Int), .int .u64 (d : Int), .int .u64 (b : Int)]
  refine (HR _).out.mono ?_
  rintro e w1 ⟨rfl, k1⟩
  have b1 := Blk.keeps B0 (k1 (fun _ => False)) (fun z => z)
  have y0 : w1.cell? ⟨w.heap.size, 0, none⟩ = some (.int .u64 (n : Int)) := by rw [b1.cell]; rfl
  have y1 : w1.cell? ⟨w.heap.size, 1, none⟩ = some (.int .u64 (d : Int)) := by rw [b1.cell]; rfl
  have y2 : w1.cell? ⟨w.heap.size, 2, none⟩ = some (.int .u64 (b : Int)) := by rw [b1.cell]; rfl
  have f0 := b1.frozen 0
  have f1 := b1.frozen 1
  have f2 := b1.frozen 2
  have KW := Lib.hid (show (∀ S, Keeps S w w1) ∧ w.heap.size < w1.heap.size from ⟨fun S => ((Keeps.refl S w).alloc _).trans (k1 S), b1.lt⟩)
  have B1 := Lib.hid b1
  clear k1 b1 B0
  go_wp2_with fail
  have V2 := Lib.hid (show (∀ S, Keeps S w (((w1.setCell ⟨w.heap.size, 0, none⟩ (.int .u64 (N : Int))).setCell ⟨w.heap.size, 1, none⟩ (.int .u64 (D : Int))).setCell ⟨w.heap.size, 2, none⟩ (.int .u64 (B : Int)))) ∧ Blk (((w1.setCell ⟨w.heap.size, 0, none⟩ (.int .u64 (N : Int))).setCell ⟨w.heap.size, 1, none⟩ (.int .u64 (D : Int))).setCell ⟨w.heap.size, 2, none⟩ (.int .u64 (B : Int))) w.heap.size 24 [.int .u64 (N : Int), .int .u64 (D : Int), .int .u64 (B : Int)] from ⟨fun S => ((((KW.out.1 S).setCell (.inr (Nat.le_refl _)) _).setCell (.inr (Nat.le_refl _)) _).setCell (.inr (Nat.le_refl _)) _), by simpa using ((B1.out.put 0 (.int .u64 (N : Int))).put 1 (.int .u64 (D : Int))).put 2 (.int .u64 (B : Int))⟩)
  clear y0 y1 y2 f0 f1 f2 KW B1
  have HKW : Hid (∀ S, Keeps S w (((w1.setCell ⟨w.heap.size, 0, none⟩ (.int .u64 (N : Int))).setCell ⟨w.heap.size, 1, none⟩ (.int .u64 (D : Int))).setCell ⟨w.heap.size, 2, none⟩ (.int .u64 (B : Int)))) := Lib.hid V2.out.1
  generalize ((w1.setCell ⟨w.heap.size, 0, none⟩ (.int .u64 (N : Int))).setCell ⟨w.heap.size, 1, none⟩ (.int .u64 (D : Int))).setCell ⟨w.heap.size, 2, none⟩ (.int .u64 (B : Int)) = w2 at *
  have hw2 : w.heap.size < w2.heap.size := V2.out.2.lt
  have HAW := Lib.hid (HA.out.keeps (S := fun _ => False) (V2.out.1 _) (fun _ _ z => z))
  go_loopw [1, 7, 8] (fun si v i wr => ∃ (k S : Nat) (P : List (Nat × Nat)), k ≤ m ∧ i = .int .i64 (k : Int) ∧ si = .int .u64 (S : Int) ∧ NvI N D B s P S k ∧ Am w2 wr v P ∧ Blk wr w.heap.size 24 [.int .u64 (N : Int), .int .u64 (D : Int), .int .u64 (B : Int)]) (fun _ _ i _ => m + 1 - (intOf i).toNat)
  case atStart => exact ⟨0, s, [], Nat.zero_le _, rfl, rfl, nv_start HL.out.2.2, Am.nil_ (fun S => Keeps.refl S w2), V2.out.2⟩
  case round =>
    clear V2
    obtain ⟨k, S, P, hk, rfl, rfl, hnv, ham, hbk⟩ := hrel
    have k0 : (0 : Int) ≤ (k : Int) := by omega
    have HNV := Lib.hid hnv
    have HAM := Lib.hid ham
    have HBK := Lib.hid hbk
    have y0 : wr.cell? ⟨w.heap.size, 0, none⟩ = some (.int .u64 (N : Int)) := by rw [hbk.cell]; rfl
    have y1 : wr.cell? ⟨w.heap.size, 1, none⟩ = some (.int .u64 (D : Int)) := by rw [hbk.cell]; rfl
    have y2 : wr.cell? ⟨w.heap.size, 2, none⟩ = some (.int .u64 (B : Int)) := by rw [hbk.cell]; rfl
    by_cases hgo : k < m ∧ k < 60
    · have k1 : (k : Int) < (m : Int) := by omega
      have k2 : (k : Int) < 60 := by omega
      have HGO := Lib.hid hgo
      obtain ⟨pp, hp⟩ : ∃ pp, l[k]? = some pp := ⟨_, List.getElem?_eq_getElem (by have := HL.out; omega)⟩
      have haw := HAW.out.keeps (S := fun _ => False) (ham.keep _) (fun _ _ z => z)
      obtain ⟨bb, o, rfl, hbb, c1, c2⟩ := haw.at_ hp
      have hsm := HA.out.sm pp (List.mem_of_getElem? hp)
      obtain ⟨pt, q⟩ := pp
      simp only at c1 c2 hsm
      obtain ⟨t, ht⟩ : ∃ t, t = pt % 1099511627777 := ⟨_, rfl⟩
      have htt : t ≤ 1099511627776 := by omega
      have hmod : (pt : Int) % 1099511627777 = (t : Int) := by omega
      have hTK := fun wq => Lib.hid (HT wq N D B S t q HM.out htt hnv.2.2.2.2.1 hsm.2)
      unfold bv at hTK
      have HMOD := Lib.hid hmod
      have HSM := Lib.hid (show t ≤ 1099511627776 ∧ q < 18446744073709551616 from ⟨htt, hsm.2⟩)
      have HPL := Lib.hid (show P.length + 1 ≤ 1000000000000 by have := hnv.1; omega)
      clear hk hgo hp haw hbb hsm ht htt hmod hnv ham hbk
      cases hlet : lets N D B S t q
      case true =>
        have HY := Lib.hid (nv_yes HNV.out (by have := HGO.out.2; omega) HM.out HSM.out.1 HSM.out.2 hlet)
        rw [hlet] at hTK
        clear hlet
        obtain ⟨X, hX⟩ : ∃ X, X = takeOf N D B S t q := ⟨_, rfl⟩
        rw [← hX] at hTK HY
        have q1 : ¬ (X : Int) < (S : Int) := by have := HY.out.2; omega
        clear hX
        go_wp2_with fail
        rw [HMOD.out]
        go_region_held3 (fun w' => w'.cell? ⟨w.heap.size, 0, none⟩ = some (.int .u64 (N : Int)) ∧ w'.cell? ⟨w.heap.size, 1, none⟩ = some (.int .u64 (D : Int)) ∧ w'.cell? ⟨w.heap.size, 2, none⟩ = some (.int .u64 (B : Int)) ∧ w'.cell? ⟨bb, o + k * 2 + 1, none⟩ = some (.int .u64 (q : Int)))
          (first | exact ⟨y0, y1, y2, c2⟩ | exact ⟨z0, z1, z2, z4⟩)
          ((first
            | (go_at_call 12; refine (hTK _).out.mono ?_; rintro e w3 ⟨rfl, k3⟩; have z0 := Keeps.cell (k3 (fun _ => False)) (show wr.drew.cell? _ = _ from y0) (fun z => z); have z1 := Keeps.cell (k3 (fun _ => False)) (show wr.drew.cell? _ = _ from y1) (fun z => z); have z2 := Keeps.cell (k3 (fun _ => False)) (show wr.drew.cell? _ = _ from y2) (fun z => z); have z4 := Keeps.cell (k3 (fun _ => False)) (show wr.drew.cell? _ = _ from c2) (fun z => z); have K3 : Hid (∀ S, Keeps S wr w3) := Lib.hid (fun S => Keeps.trans (Keeps.refl S wr).drew (k3 S)); clear k3)))
        have M3 := Lib.hid ((HAM.out.grown K3.out).alloc (.cells #[.int .u64 (t : Int), .int .u64 (q : Int)] 50))
        have B3 := Lib.hid (Blk.new w3 50 (askc [(t, q)]).toArray)
        have BK3 := Lib.hid ((Blk.keeps HBK.out (K3.out (fun _ => False)) (fun z => z)).alloc (.cells #[.int .u64 (t : Int), .int .u64 (q : Int)] 50))
        have w4c : (w3.alloc (.cells #[.int .u64 (t : Int), .int .u64 (q : Int)] 50)).cell? ⟨bb, o + k * 2 + 1, none⟩ = some (.int .u64 (q : Int)) := Keeps.cell ((Keeps.refl (fun _ => False) w3).alloc _) z4 (fun z => z)
        clear z0 z1 z2 y0 y1 y2 c1 c2 HAM HBK
        go_wp2_with (at_builtin; refine Am.wpList_append rfl _ _ rfl M3.out rfl w3.heap.size 1 1 [(t, q)] rfl rfl B3.out HPL.out ?_; intro v4 w4 m4 kk4; have M4 := Lib.hid m4; have BK4 := Lib.hid (Blk.keeps BK3.out kk4 (M3.out.apart hw2)); clear m4 kk4)
        go_roundw
        case rel => exact ⟨k + 1, X, P ++ [(t, q)], HGO.out.1, by go_num, rfl, HY.out.1, M4.out, BK4.out⟩
        case measure => have := HGO.out.1; simp [intOf]; omega
      case false =>
        have HY := Lib.hid (nv_no HNV.out (by have := HGO.out.2; omega))
        have hX : takeOf N D B S t q = S := by unfold takeOf; rw [hlet]; rfl
        rw [hlet, hX] at hTK
        clear hlet hX
        go_wp2_with fail
        rw [HMOD.out]
        go_region_held3 (fun w' => w'.cell? ⟨w.heap.size, 0, none⟩ = some (.int .u64 (N : Int)) ∧ w'.cell? ⟨w.heap.size, 1, none⟩ = some (.int .u64 (D : Int)) ∧ w'.cell? ⟨w.heap.size, 2, none⟩ = some (.int .u64 (B : Int)) ∧ w'.cell? ⟨bb, o + k * 2 + 1, none⟩ = some (.int .u64 (q : Int)))
          (first | exact ⟨y0, y1, y2, c2⟩ | exact ⟨z0, z1, z2, z4⟩)
          ((first
            | (go_at_call 12; refine (hTK _).out.mono ?_; rintro e w3 ⟨rfl, k3⟩; have z0 := Keeps.cell (k3 (fun _ => False)) (show wr.drew.cell? _ = _ from y0) (fun z => z); have z1 := Keeps.cell (k3 (fun _ => False)) (show wr.drew.cell? _ = _ from y1) (fun z => z); have z2 := Keeps.cell (k3 (fun _ => False)) (show wr.drew.cell? _ = _ from y2) (fun z => z); have z4 := Keeps.cell (k3 (fun _ => False)) (show wr.drew.cell? _ = _ from c2) (fun z => z); have K3 : Hid (∀ S, Keeps S wr w3) := Lib.hid (fun S => Keeps.trans (Keeps.refl S wr).drew (k3 S)); clear k3)))
        have AM3 := Lib.hid (HAM.out.grown K3.out)
        have BK3 := Lib.hid (Blk.keeps HBK.out (K3.out (fun _ => False)) (fun z => z))
        clear z0 z1 z2 z4 y0 y1 y2 c1 c2 HAM HBK
        go_wp2_with fail
        go_roundw
        case rel => exact ⟨k + 1, S, P, HGO.out.1, by go_num, rfl, HY.out, AM3.out, BK3.out⟩
        case measure => have := HGO.out.1; simp [intOf]; omega
    · have k1 : (¬ (k : Int) < (m : Int)) ∨ ((k : Int) < (m : Int) ∧ ¬ (k : Int) < 60) := by omega
      have HK : Hid (∀ S, Keeps S w wr) := Lib.hid (fun S => Keeps.trans (HKW.out S) (ham.keep S))
      have hown := ham.asks (fun p hp => ⟨by have := (hnv.2.2.2.2.2 p hp).1; omega, (hnv.2.2.2.2.2 p hp).2⟩)
      obtain ⟨PA, pc, rfl, hpa⟩ := hown
      have HPA := Lib.hid hpa
      have HPG := Lib.hid (show Good N D B s P ∧ P.length ≤ 200 ∧ ∀ p ∈ P, p.1 ≤ 1099511627776 ∧ p.2 < 18446744073709551616 from ⟨hnv.2.2.1, by have := hnv.1; have := hnv.2.1; omega, hnv.2.2.2.2.2⟩)
      obtain ⟨X0, hX0⟩ : ∃ X0, X0 = wr.heap.size := ⟨_, rfl⟩
      have HMO := Lib.hid (show MoI w wr N D B X0 PA P from ⟨HK.out, hbk, hX0 ▸ hpa, Nat.le_of_eq hX0⟩)
      clear hk hgo hnv ham hbk hpa hX0 HPA HK HBK HAM HAW HA y0 y1 y2 HNV HKW hw2
      rcases k1 with k1 | ⟨k1, k2⟩
      all_goals
        go_wp2_with fail
        go_loopw [13] (fun ii wr => ∃ i : Nat, i ≤ P.length ∧ ii = .int .i64 (i : Int) ∧ MoI w wr N D B X0 PA P) (fun ii _ => P.length + 1 - (intOf ii).toNat)
        case atStart => exact ⟨0, Nat.zero_le _, rfl, HMO.out⟩
        case round =>
          clear HMO
          obtain ⟨i, hi, rfl, hmo⟩ := hrel
          have HMO := Lib.hid hmo
          have i0 : (0 : Int) ≤ (i : Int) := by omega
          have hPl : (P.length : Int) ≤ 200 := by have := HPG.out.2.1; omega
          rcases Nat.lt_or_ge i P.length with hil | hil
          · have i1 : (i : Int) < (P.length : Int) := by omega
            have HIL := Lib.hid hil
            clear hi hil hmo
            go_wp2_with fail
            go_loopw [14] (fun ki wr => ∃ j : Nat, j ≤ P.length ∧ ki = .int .i64 (j : Int) ∧ MoI w wr N D B X0 PA P) (fun ki _ => P.length + 1 - (intOf ki).toNat)
            case atStart => exact ⟨0, Nat.zero_le _, rfl, HMO.out⟩
            case round =>
              clear HMO
              obtain ⟨j, hj, rfl, hmo⟩ := hrel
              have HMO := Lib.hid hmo
              have j0 : (0 : Int) ≤ (j : Int) := by omega
              rcases Nat.lt_or_ge j P.length with hjl | hjl
              · have j1 : (j : Int) < (P.length : Int) := by omega
                have HJL := Lib.hid hjl
                obtain ⟨pi, hpi⟩ : ∃ pi, P[i]? = some pi := ⟨_, List.getElem?_eq_getElem HIL.out⟩
                obtain ⟨pj, hpj⟩ : ∃ pj, P[j]? = some pj := ⟨_, List.getElem?_eq_getElem hjl⟩
                obtain ⟨bb, o, hPA, _, c1, _⟩ := hmo.2.2.1.at_ hpi
                obtain ⟨b2, o2, hPA2, _, c2, _⟩ := hmo.2.2.1.at_ hpj
                rw [hPA] at hPA2
                injection hPA2 with hPA2
                injection hPA2 with e1 e2
                subst e1; subst e2
                have hti := (HPG.out.2.2 pi (List.mem_of_getElem? hpi)).1
                have htj := (HPG.out.2.2 pj (List.mem_of_getElem? hpj)).1
                obtain ⟨F, _⟩ := pi
                obtain ⟨T, _⟩ := pj
                simp only at c1 c2 hti htj
                have HTJ := Lib.hid htj
                have y0 : wr.cell? ⟨w.heap.size, 0, none⟩ = some (.int .u64 (N : Int)) := by rw [hmo.2.1.cell]; rfl
                have y1 : wr.cell? ⟨w.heap.size, 1, none⟩ = some (.int .u64 (D : Int)) := by rw [hmo.2.1.cell]; rfl
                have y2 : wr.cell? ⟨w.heap.size, 2, none⟩ = some (.int .u64 (B : Int)) := by rw [hmo.2.1.cell]; rfl
                subst hPA
                clear hj hjl hmo hpi hpj hti htj
                go_wp2_with fail
                go_region_held3 (fun w' => w'.cell? ⟨bb, o + i * 2, none⟩ = some (.int .u64 (F : Int)) ∧ w'.cell? ⟨bb, o + j * 2, none⟩ = some (.int .u64 (T : Int))) (first | exact ⟨c1, c2⟩) ((first | fail))
                have HMD := Lib.hid (HMO.out.grown (fun S => (Keeps.refl S wr).drew))
                have z0 : wr.drew.cell? ⟨w.heap.size, 0, none⟩ = some (.int .u64 (N : Int)) := y0
                have z1 : wr.drew.cell? ⟨w.heap.size, 1, none⟩ = some (.int .u64 (D : Int)) := y1
                have z2 : wr.drew.cell? ⟨w.heap.size, 2, none⟩ = some (.int .u64 (B : Int)) := y2
                clear y0 y1 y2 c1 c2 HMO
                generalize wr.drew = wy at *
                rcases Nat.lt_or_ge T F with hTF | hTF
                · have q1 : (T : Int) < (F : Int) := by omega
                  clear hTF
                  go_wp2_with fail
                  go_roundw
                  case rel => exact ⟨j + 1, HJL.out, by go_num, HMD.out⟩
                  case measure => have := HJL.out; simp [intOf]; omega
                · have q1 : ¬ (T : Int) < (F : Int) := by omega
                  have hsub : IntKind.u64.wrap ((T : Int) - (F : Int)) = ((T - F : Nat) : Int) := by have := HTJ.out; rw [wrap_u64]; omega
                  have HSUB := Lib.hid hsub
                  have HMS := fun wq => Lib.hid (HF wq N D B (T - F) HM.out (by have := HTJ.out; omega))
                  unfold bv at HMS
                  have hsum := sum_most HM.out HPG.out.1 hTF HTJ.out
                  have HTO := fun wq (hq : Asks wq wq.heap.size (some ⟨bb, o, none⟩) P) => Lib.hid (tokens_ wq (some ⟨bb, o, none⟩) P.length pc F T P hq rfl (by have := HPG.out.2.1; omega) (fun k hk => (hsum k hk).2))
                  have HTOH : Hid (∀ wq : World, Asks wq wq.heap.size (some ⟨bb, o, none⟩) P → _) := Lib.hid HTO
                  have q2 : ¬ (((B + (T - F) * N / D : Nat) : Int) < ((sumIn P F T P.length : Nat) : Int)) := by have := (hsum P.length (Nat.le_refl _)).1; omega
                  clear hTF hsum HTO hsub
                  obtain ⟨M, hM⟩ : ∃ M, M = B + (T - F) * N / D := ⟨_, rfl⟩
                  rw [← hM] at HMS q2
                  clear hM
                  obtain ⟨Y, hY⟩ : ∃ Y, Y = sumIn P F T P.length := ⟨_, rfl⟩
                  have HYH := Lib.hid (show ∀ wq : World, Asks wq wq.heap.size (some ⟨bb, o, none⟩) P → Calls Try.prog 29 #[.slice (some ⟨bb, o, none⟩) P.length pc, .int .u64 (F : Int), .int .u64 (T : Int)] wq fun e w' => e = .returned (.int .u64 (Y : Int)) ∧ wq = w' from fun wq hq => by rw [hY]; exact (HTOH.out wq hq).out)
                  rw [← hY] at q2
                  clear hY HTOH
                  go_wp2_with fail
                  rw [HSUB.out]
                  refine (HMS _).out.mono ?_
                  rintro e w5 ⟨rfl, k5⟩
                  have HM5 := Lib.hid (HMD.out.grown k5)
                  clear k5 z0 z1 z2
                  go_wp2_with fail
                  refine (HYH.out w5 (HM5.out.2.2.1.mono HM5.out.2.2.2)).mono ?_
                  rintro e w6 ⟨rfl, rfl⟩
                  go_wp2_with fail
                  go_roundw
                  case rel => exact ⟨j + 1, HJL.out, by go_num, HM5.out⟩
                  case measure => have := HJL.out; simp [intOf]; omega
              · have j1 : ¬ (j : Int) < (P.length : Int) := by omega
                clear hj hjl hmo
                go_wp2_with fail
                go_roundw
                case rel => exact ⟨i + 1, HIL.out, by go_num, HMO.out⟩
                case measure => have := HIL.out; simp [intOf]; omega
          · have i1 : ¬ (i : Int) < (P.length : Int) := by omega
            have hwk := fun wq => Lib.hid (HO wq)
            clear hi hil hmo
            go_wp2_with fail
            refine (hwk _).out.mono ?_
            rintro e w6 ⟨rfl, k6⟩
            have K6 : Hid (∀ S, Keeps S w w6) := Lib.hid (fun S => (HMO.out.1 S).trans (k6 S))
            clear k6
            go_wp2
            try rw [Exit.noGoto_ret]
            go_ret
            exact ⟨rfl, K6.out⟩
end
end Go.Proofs.Ytbiadglhfpapaaa.bk
