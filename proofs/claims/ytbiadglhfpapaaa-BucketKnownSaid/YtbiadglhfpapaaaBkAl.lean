/-
  patchbaylaw12's BucketAll, walked: whatever Take, Fits and works are, so long as they keep these words.
-/
import Derived.Test.YtbiadglhfpapaaaBkNv
set_option linter.unusedVariables false
namespace Go.Proofs.Ytbiadglhfpapaaa.bk
open Go.RowKit Go.Proofs.Ytbiadglhfpapaaa.oc Go.Proofs.Ytbiadglhfpapaaa.mz
theorem Am.base {w w1 wi : World} {v : Value} {l : List (Nat × Nat)} (h : Am w1 wi v l) (k : ∀ S, Keeps S w w1) : Am w wi v l := by
  refine ⟨⟨h.own.1, ?_⟩, fun S => (k S).trans (h.keep S)⟩
  rcases h.own.2 with q | ⟨g, cap, cur, e, hb, rest⟩
  · exact .inl q
  · exact .inr ⟨g, cap, cur, e, Nat.le_trans (k (fun _ => False)).size hb, rest⟩
/-- what stands at a round's beginning: what was let through, the state, the tick -/
def AlI (N D B : Nat) (P : List (Nat × Nat)) (S T k : Nat) : Prop := NvI N D B 0 P S k ∧ (∀ i j, i ≤ j → j < P.length → (P.getD i (0, 0)).1 ≤ (P.getD j (0, 0)).1) ∧ (∀ j, j < P.length → (P.getD j (0, 0)).1 ≤ T) ∧ T ≤ 1099511627776
theorem al_later {N D B : Nat} {P : List (Nat × Nat)} {S T U k : Nat} (h : AlI N D B P S T k) (hu : T ≤ U) (hU : U ≤ 1099511627776) : AlI N D B P S U k := ⟨h.1, h.2.1, fun j hj => Nat.le_trans (h.2.2.1 j hj) hu, hU⟩
theorem al_yes {N D B : Nat} {P : List (Nat × Nat)} {S T k q : Nat} (h : AlI N D B P S T k) (hk : k < 200) (hm : May N D B) (hq : q < 18446744073709551616) (hl : lets N D B S T q = true) : AlI N D B (P ++ [(T, q)]) (takeOf N D B S T q) T (k + 1) ∧ IsFits N D B (P ++ [(T, q)]) (P.length + 1) := by
  have hy := (nv_yes h.1 hk hm h.2.2.2 hq hl).1
  have hle : ∀ j, j < (P ++ [(T, q)]).length → ((P ++ [(T, q)]).getD j (0, 0)).1 ≤ T := by
    intro j hj
    rw [List.length_append, List.length_singleton] at hj
    rcases Nat.lt_or_ge j P.length with p | p
    · rw [getD_left P _ p]; exact h.2.2.1 j p
    · have e : j = P.length := by omega
      subst e
      rw [getD_last]; exact Nat.le_refl _
  refine ⟨⟨hy, ?_, hle, h.2.2.2⟩, ?_⟩
  · intro i j hij hj
    have hj' := hj
    rw [List.length_append, List.length_singleton] at hj'
    rcases Nat.lt_or_ge j P.length with p | p
    · rw [getD_left P _ p, getD_left P _ (show i < P.length by omega)]; exact h.2.1 i j hij p
    · have e : j = P.length := by omega
      subst e
      rw [getD_last]; exact hle i (by omega)
  · have := never_fits hm.2.1.1 hy.2.2.1
    simpa using this
theorem al_no {N D B : Nat} {P : List (Nat × Nat)} {S T k q : Nat} (h : AlI N D B P S T k) (hk : k < 200) (hm : May N D B) (hl : lets N D B S T q = false) : AlI N D B P S T (k + 1) ∧ IsFits N D B (P ++ [(T, q)]) P.length := by
  refine ⟨⟨nv_no h.1 hk, h.2.1, h.2.2.1, h.2.2.2⟩, ?_⟩
  have hn := (take_st_no hl).2
  rw [h.1.2.2.2.1] at hn
  exact all_fits hm.2.1.1 h.1.2.2.1 h.2.1 h.2.2.1 hn
section
variable (w : World) (n d b : Nat)
set_option maxRecDepth 100000 in
set_option maxHeartbeats 4000000 in
theorem all_walk (HT : TakeSaid) (HF : FitsSaid) (HO : WorksSaid) (A : Option Addr) (m c : Nat) (l : List (Nat × Nat)) (ha : Asks w w.heap.size A l) (hl : l.length = m) (hm9 : m ≤ 1000000000000000) : Calls Try.prog 8 #[bv n d b, .slice A m c] w fun e w' => e = .returned (.bool true) ∧ ∀ S, Keeps S w w' := by
  have HR := fun w => Lib.hid (right_ w n d b)
  have hmay := may_right n d b
  unfold bv at HR
  unfold bv
  obtain ⟨N, hN⟩ : ∃ N, N = n % 65536 + 1 := ⟨_, rfl⟩
  obtain ⟨D, hD⟩ : ∃ D, D = d % 65536 + 1 := ⟨_, rfl⟩
  obtain ⟨B, hB⟩ : ∃ B, B = b % 1048576 + 1 := ⟨_, rfl⟩
  rw [← hN, ← hD, ← hB] at hmay
  simp only [← hN, ← hD, ← hB] at HR
  have HA := Lib.hid ha
  have HL := Lib.hid (show l.length = m ∧ m ≤ 1000000000000000 from ⟨hl, hm9⟩)
  have HM := Lib.hid hmay
  have hm9' : (m : Int) ≤ 1000000000000000 := by omega
  clear ha hl hm9 hmay hN hD hB
  go_enter Try.func8, Try.ntmps8
  go_wp2_with fail
  have B0 := Blk.new w 24 #[.int .u64 (n : Int), .int .u64 (d : Int), .int .u64 (b : Int)]
  refine (HR _).out.mono ?_
  rintro e w1 ⟨rfl, k1⟩
  have b1 := Blk.keeps B0 (k1 (fun _ => False)) (fun z => z)
  have y0 : w1.cell? ⟨w.heap.size, 0, none⟩ = some (.int .u64 (n : Int)) := by rw [b1.cell]; rfl
  have y1 : w1.cell? ⟨w.heap.size, 1, none⟩ = some (.int .u64 (d : Int)) := by rw [b1.cell]; rfl
  have y2 : w1.cell? ⟨w.heap.size, 2, none⟩ = some (.int .u64 (b : Int)) := by rw [b1.cell]; rfl
  have f0 := b1.frozen 0
  have f1 := b1.frozen 1
  have f2 := b1.frozen 2
  have KW := Lib.hid (show (∀ S, Keeps S w w1) ∧ w.heap.size < w1.heap.size from ⟨fun S => ((Keeps.refl S w).alloc _).trans (k1 S), b1.lt⟩)
  have B1 := Lib.hid b1
  clear k1 b1 B0
  go_wp2_with fail
  have V2 := Lib.hid (show (∀ S, Keeps S w (((w1.setCell ⟨w.heap.size, 0, none⟩ (.int .u64 (N : Int))).setCell ⟨w.heap.size, 1, none⟩ (.int .u64 (D : Int))).setCell ⟨w.heap.size, 2, none⟩ (.int .u64 (B : Int)))) ∧ Blk (((w1.setCell ⟨w.heap.size, 0, none⟩ (.int .u64 (N : Int))).setCell ⟨w.heap.size, 1, none⟩ (.int .u64 (D : Int))).setCell ⟨w.heap.size, 2, none⟩ (.int .u64 (B : Int))) w.heap.size 24 [.int .u64 (N : Int), .int .u64 (D : Int), .int .u64 (B : Int)] from ⟨fun S => ((((KW.out.1 S).setCell (.inr (Nat.le_refl _)) _).setCell (.inr (Nat.le_refl _)) _).setCell (.inr (Nat.le_refl _)) _), by simpa using ((B1.out.put 0 (.int .u64 (N : Int))).put 1 (.int .u64 (D : Int))).put 2 (.int .u64 (B : Int))⟩)
  clear y0 y1 y2 f0 f1 f2 KW B1
  have HKW : Hid (∀ S, Keeps S w (((w1.setCell ⟨w.heap.size, 0, none⟩ (.int .u64 (N : Int))).setCell ⟨w.heap.size, 1, none⟩ (.int .u64 (D : Int))).setCell ⟨w.heap.size, 2, none⟩ (.int .u64 (B : Int)))) := Lib.hid V2.out.1
  generalize ((w1.setCell ⟨w.heap.size, 0, none⟩ (.int .u64 (N : Int))).setCell ⟨w.heap.size, 1, none⟩ (.int .u64 (D : Int))).setCell ⟨w.heap.size, 2, none⟩ (.int .u64 (B : Int)) = w2 at *
  have hw2 : w.heap.size < w2.heap.size := V2.out.2.lt
  have HAW := Lib.hid (HA.out.keeps (S := fun _ => False) (V2.out.1 _) (fun _ _ z => z))
  go_loopw [5, 6, 7, 8] (fun v si ti i wr => ∃ (k S T : Nat) (P : List (Nat × Nat)), k ≤ m ∧ i = .int .i64 (k : Int) ∧ si = .int .u64 (S : Int) ∧ ti = .int .u64 (T : Int) ∧ AlI N D B P S T k ∧ Am w2 wr v P ∧ Blk wr w.heap.size 24 [.int .u64 (N : Int), .int .u64 (D : Int), .int .u64 (B : Int)]) (fun _ _ _ i _ => m + 1 - (intOf i).toNat)
  case atStart => exact ⟨0, 0, 0, [], Nat.zero_le _, rfl, rfl, rfl, ⟨nv_start (by omega), fun i j _ h => absurd h (Nat.not_lt_zero _), fun j h => absurd h (Nat.not_lt_zero _), Nat.zero_le _⟩, Am.nil_ (fun S => Keeps.refl S w2), V2.out.2⟩
  case round =>
    clear V2
    obtain ⟨k, S, T, P, hk, rfl, rfl, rfl, hal, ham, hbk⟩ := hrel
    have k0 : (0 : Int) ≤ (k : Int) := by omega
    have HAL := Lib.hid hal
    obtain ⟨PA, pc, rfl, hpa⟩ := ham.asks (fun p hp => ⟨by have := (hal.1.2.2.2.2.2 p hp).1; omega, (hal.1.2.2.2.2.2 p hp).2⟩)
    obtain ⟨X0, hX0⟩ : ∃ X0, X0 = wr.heap.size := ⟨_, rfl⟩
    rw [← hX0] at hpa
    have HPA := Lib.hid hpa
    have HAM := Lib.hid ham
    clear hpa hX0
    have HBK := Lib.hid hbk
    have y0 : wr.cell? ⟨w.heap.size, 0, none⟩ = some (.int .u64 (N : Int)) := by rw [hbk.cell]; rfl
    have y1 : wr.cell? ⟨w.heap.size, 1, none⟩ = some (.int .u64 (D : Int)) := by rw [hbk.cell]; rfl
    have y2 : wr.cell? ⟨w.heap.size, 2, none⟩ = some (.int .u64 (B : Int)) := by rw [hbk.cell]; rfl
    by_cases hgo : k < m ∧ k < 60
    · have k1 : (k : Int) < (m : Int) := by omega
      have k2 : (k : Int) < 60 := by omega
      have HGO := Lib.hid hgo
      obtain ⟨pp, hp⟩ : ∃ pp, l[k]? = some pp := ⟨_, List.getElem?_eq_getElem (by have := HL.out; omega)⟩
      have haw := HAW.out.keeps (S := fun _ => False) (ham.keep _) (fun _ _ z => z)
      obtain ⟨bb, o, rfl, hbb, c1, c2⟩ := haw.at_ hp
      have hsm := HA.out.sm pp (List.mem_of_getElem? hp)
      obtain ⟨pt, q⟩ := pp
      simp only at c1 c2 hsm
      have hTm := hal.2.2.2
      obtain ⟨U, hU⟩ : ∃ U, U = min (T + pt % 1073741824) 1099511627776 := ⟨_, rfl⟩
      have HUU := Lib.hid (show T ≤ U ∧ U ≤ 1099511627776 ∧ (U : Int) = min ((T : Int) + (pt : Int) % 1073741824) 1099511627776 from ⟨by omega, by omega, by omega⟩)
      have hsu : IntKind.u64.wrap ((T : Int) + (pt : Int) % 1073741824) = (T : Int) + (pt : Int) % 1073741824 := by rw [wrap_u64]; omega
      have HTK := Lib.hid (fun wq => HT wq N D B S U q HM.out (by omega) hal.1.2.2.2.2.1 hsm.2)
      have HQ := Lib.hid hsm.2
      have HSM : Hid (∀ p ∈ P ++ [(U, q)], p.1 < 18446744073709551616 ∧ p.2 < 18446744073709551616) := Lib.hid (fun p hp => by
        rcases List.mem_append.1 hp with hp | hp
        · exact ⟨by have := (HAL.out.1.2.2.2.2.2 p hp).1; omega, (HAL.out.1.2.2.2.2.2 p hp).2⟩
        · rw [List.mem_singleton.1 hp]; exact ⟨by have := HUU.out.2.1; simp only; omega, HQ.out⟩)
      have HTT : Hid (∀ p ∈ P ++ [(U, q)], p.1 ≤ 1099511627776) := Lib.hid (fun p hp => by
        rcases List.mem_append.1 hp with hp | hp
        · exact (HAL.out.1.2.2.2.2.2 p hp).1
        · rw [List.mem_singleton.1 hp]; exact HUU.out.2.1)
      have HPL := Lib.hid (show P.length + 1 ≤ 1000000000000 ∧ P.length ≤ 200 by have := hal.1.1; omega)
      clear hk hgo hp haw hbb hsm hal ham hbk hTm hU
      cases hlet : lets N D B S U q
      case true =>
        have HY := Lib.hid (al_yes (al_later HAL.out HUU.out.1 HUU.out.2.1) (by have := HGO.out.2; omega) HM.out HQ.out hlet)
        have hTK := fun wq => Lib.hid (HTK.out wq)
        unfold bv at hTK
        rw [hlet] at hTK
        clear hlet
        have hmin : (if (1099511627776 : Int) < (T : Int) + (pt : Int) % 1073741824 then 1099511627776 else (T : Int) + (pt : Int) % 1073741824) = (U : Int) := by have := HUU.out.2.2; split <;> omega
        go_wp2_with fail
        go_region_held3 (fun w' => w'.cell? ⟨w.heap.size, 0, none⟩ = some (.int .u64 (N : Int)) ∧ w'.cell? ⟨w.heap.size, 1, none⟩ = some (.int .u64 (D : Int)) ∧ w'.cell? ⟨w.heap.size, 2, none⟩ = some (.int .u64 (B : Int)) ∧ w'.cell? ⟨bb, o + k * 2 + 1, none⟩ = some (.int .u64 (q : Int)))
          (first | exact ⟨y0, y1, y2, c2⟩ | exact ⟨z0, z1, z2, z4⟩)
          ((first
            | (go_at_call 12; refine (hTK _).out.mono ?_; rintro e w3 ⟨rfl, k3⟩; have z0 := Keeps.cell (k3 (fun _ => False)) (show wr.drew.cell? _ = _ from y0) (fun z => z); have z1 := Keeps.cell (k3 (fun _ => False)) (show wr.drew.cell? _ = _ from y1) (fun z => z); have z2 := Keeps.cell (k3 (fun _ => False)) (show wr.drew.cell? _ = _ from y2) (fun z => z); have z4 := Keeps.cell (k3 (fun _ => False)) (show wr.drew.cell? _ = _ from c2) (fun z => z); have K3 : Hid (∀ S, Keeps S wr w3) := Lib.hid (fun S => Keeps.trans (Keeps.refl S wr).drew (k3 S)); clear k3)))
        have HPA3 := Lib.hid (HPA.out.keeps (S := fun _ => False) (K3.out _) (fun _ _ z => z))
        have BK3 := Lib.hid (Blk.keeps HBK.out (K3.out (fun _ => False)) (fun z => z))
        have Z4 := Lib.hid z4
        clear z0 z1 z2 z4 y0 y1 y2 c1 c2 HBK
        go_wp2_with (first
          | (at_builtin; refine Am.wpList_appendA rfl _ _ rfl (Am.nil_ (fun S => Keeps.refl S w3)) rfl PA P.length pc X0 P rfl rfl HPA3.out (by have := HPL.out; simp; omega) ?_; intro v4 w4 m4 kk4; have M4 := Lib.hid (by simpa using m4 : Am w3 w4 v4 P); have u2 := Keeps.cell (m4.keep (fun _ => False)) Z4.out (fun z => z); clear m4 kk4)
          | (at_builtin; refine Am.wpList_append rfl _ _ rfl (M4.out.alloc _) rfl w4.heap.size 1 1 [(U, q)] rfl rfl (Blk.new w4 50 (askc [(U, q)]).toArray) HPL.out.1 ?_; intro v6 w6 m6 kk6; have M6 := Lib.hid m6; have b6 := Blk.keeps BK3.out (m6.keep (fun _ => False)) (fun z => z); have x0 : w6.cell? ⟨w.heap.size, 0, none⟩ = some (.int .u64 (N : Int)) := (by rw [b6.cell]; rfl); have x1 : w6.cell? ⟨w.heap.size, 1, none⟩ = some (.int .u64 (D : Int)) := (by rw [b6.cell]; rfl); have x2 : w6.cell? ⟨w.heap.size, 2, none⟩ = some (.int .u64 (B : Int)) := (by rw [b6.cell]; rfl); have B6 := Lib.hid b6; obtain ⟨A6, c6, rfl, h6⟩ := m6.asks HSM.out; have H6 := Lib.hid h6; obtain ⟨L6, hL6⟩ : ∃ L6, L6 = (P ++ [(U, q)]).length := ⟨_, rfl⟩; rw [← hL6] at M6; rw [← hL6]; have HL6 := Lib.hid hL6; clear m6 kk6 b6 h6 hL6))
        have HFT := HF w6 N D B A6 L6 c6 (P ++ [(U, q)]) HM.out H6.out HL6.out.symm (by rw [HL6.out, List.length_append, List.length_singleton]; have := HPL.out.2; omega) HTT.out
        unfold bv at HFT
        refine HFT.mono ?_
        rintro e w7 ⟨kf, rfl, hfit, k7⟩
        have e7 := hfit.one HY.out.2
        subst e7
        have K7 := Lib.hid k7
        clear hfit HFT k7 x0 x1 x2 u2
        have e8 : (P.length + 1 : Nat) = L6 := by rw [HL6.out, List.length_append, List.length_singleton]
        rw [e8]
        obtain ⟨X, hX⟩ : ∃ X, X = takeOf N D B S U q := ⟨_, rfl⟩
        rw [← hX] at HY ⊢
        clear e8 hX
        go_wp2_with fail
        go_roundw
        case rel => exact ⟨k + 1, X, U, P ++ [(U, q)], HGO.out.1, by go_num, rfl, rfl, HY.out.1, (M6.out.base (fun S => (HAM.out.keep S).trans (K3.out S))).grown K7.out, Blk.keeps B6.out (K7.out (fun _ => False)) (fun z => z)⟩
        case measure => have := HGO.out.1; simp [intOf]; omega
      case false =>
        have HY := Lib.hid (al_no (al_later HAL.out HUU.out.1 HUU.out.2.1) (by have := HGO.out.2; omega) HM.out hlet)
        have hTK := fun wq => Lib.hid (HTK.out wq)
        unfold bv at hTK
        have hX : takeOf N D B S U q = S := by unfold takeOf; rw [hlet]; rfl
        rw [hlet, hX] at hTK
        clear hlet hX
        have hmin : (if (1099511627776 : Int) < (T : Int) + (pt : Int) % 1073741824 then 1099511627776 else (T : Int) + (pt : Int) % 1073741824) = (U : Int) := by have := HUU.out.2.2; split <;> omega
        go_wp2_with fail
        go_region_held3 (fun w' => w'.cell? ⟨w.heap.size, 0, none⟩ = some (.int .u64 (N : Int)) ∧ w'.cell? ⟨w.heap.size, 1, none⟩ = some (.int .u64 (D : Int)) ∧ w'.cell? ⟨w.heap.size, 2, none⟩ = some (.int .u64 (B : Int)) ∧ w'.cell? ⟨bb, o + k * 2 + 1, none⟩ = some (.int .u64 (q : Int)))
          (first | exact ⟨y0, y1, y2, c2⟩ | exact ⟨z0, z1, z2, z4⟩)
          ((first
            | (go_at_call 12; refine (hTK _).out.mono ?_; rintro e w3 ⟨rfl, k3⟩; have z0 := Keeps.cell (k3 (fun _ => False)) (show wr.drew.cell? _ = _ from y0) (fun z => z); have z1 := Keeps.cell (k3 (fun _ => False)) (show wr.drew.cell? _ = _ from y1) (fun z => z); have z2 := Keeps.cell (k3 (fun _ => False)) (show wr.drew.cell? _ = _ from y2) (fun z => z); have z4 := Keeps.cell (k3 (fun _ => False)) (show wr.drew.cell? _ = _ from c2) (fun z => z); have K3 : Hid (∀ S, Keeps S wr w3) := Lib.hid (fun S => Keeps.trans (Keeps.refl S wr).drew (k3 S)); clear k3)))
        have HPA3 := Lib.hid (HPA.out.keeps (S := fun _ => False) (K3.out _) (fun _ _ z => z))
        have BK3 := Lib.hid (Blk.keeps HBK.out (K3.out (fun _ => False)) (fun z => z))
        have Z4 := Lib.hid z4
        clear z0 z1 z2 z4 y0 y1 y2 c1 c2 HBK
        go_wp2_with (first
          | (at_builtin; refine Am.wpList_appendA rfl _ _ rfl (Am.nil_ (fun S => Keeps.refl S w3)) rfl PA P.length pc X0 P rfl rfl HPA3.out (by have := HPL.out; simp; omega) ?_; intro v4 w4 m4 kk4; have M4 := Lib.hid (by simpa using m4 : Am w3 w4 v4 P); have u2 := Keeps.cell (m4.keep (fun _ => False)) Z4.out (fun z => z); clear m4 kk4)
          | (at_builtin; refine Am.wpList_append rfl _ _ rfl (M4.out.alloc _) rfl w4.heap.size 1 1 [(U, q)] rfl rfl (Blk.new w4 50 (askc [(U, q)]).toArray) HPL.out.1 ?_; intro v6 w6 m6 kk6; have M6 := Lib.hid m6; have b6 := Blk.keeps BK3.out (m6.keep (fun _ => False)) (fun z => z); have x0 : w6.cell? ⟨w.heap.size, 0, none⟩ = some (.int .u64 (N : Int)) := (by rw [b6.cell]; rfl); have x1 : w6.cell? ⟨w.heap.size, 1, none⟩ = some (.int .u64 (D : Int)) := (by rw [b6.cell]; rfl); have x2 : w6.cell? ⟨w.heap.size, 2, none⟩ = some (.int .u64 (B : Int)) := (by rw [b6.cell]; rfl); have B6 := Lib.hid b6; obtain ⟨A6, c6, rfl, h6⟩ := m6.asks HSM.out; have H6 := Lib.hid h6; obtain ⟨L6, hL6⟩ : ∃ L6, L6 = (P ++ [(U, q)]).length := ⟨_, rfl⟩; rw [← hL6] at M6; rw [← hL6]; have HL6 := Lib.hid hL6; clear m6 kk6 b6 h6 hL6))
        have HFT := HF w6 N D B A6 L6 c6 (P ++ [(U, q)]) HM.out H6.out HL6.out.symm (by rw [HL6.out, List.length_append, List.length_singleton]; have := HPL.out.2; omega) HTT.out
        unfold bv at HFT
        refine HFT.mono ?_
        rintro e w7 ⟨kf, rfl, hfit, k7⟩
        have e7 := hfit.one HY.out.2
        subst e7
        have K7 := Lib.hid k7
        clear hfit HFT k7 x0 x1 x2 u2
        go_wp2_with fail
        go_roundw
        case rel => exact ⟨k + 1, S, U, P, HGO.out.1, by go_num, rfl, rfl, HY.out.1, HAM.out.grown (fun S => ((K3.out S).trans (M6.out.keep S)).trans (K7.out S)), Blk.keeps B6.out (K7.out (fun _ => False)) (fun z => z)⟩
        case measure => have := HGO.out.1; simp [intOf]; omega
    · have k1 : (¬ (k : Int) < (m : Int)) ∨ ((k : Int) < (m : Int) ∧ ¬ (k : Int) < 60) := by omega
      have HK : Hid (∀ S, Keeps S w wr) := Lib.hid (fun S => Keeps.trans (HKW.out S) (ham.keep S))
      have hwk := fun wq => Lib.hid (HO wq)
      clear hk hgo hal ham hbk y0 y1 y2
      rcases k1 with k1 | ⟨k1, k2⟩
      all_goals
        go_wp2_with fail
        refine (hwk _).out.mono ?_
        rintro e w6 ⟨rfl, k6⟩
        have K6 : Hid (∀ S, Keeps S w w6) := Lib.hid (fun S => (HK.out S).trans (k6 S))
        clear k6
        go_wp2
        try rw [Exit.noGoto_ret]
        go_ret
        exact ⟨rfl, K6.out⟩
end
end Go.Proofs.Ytbiadglhfpapaaa.bk
