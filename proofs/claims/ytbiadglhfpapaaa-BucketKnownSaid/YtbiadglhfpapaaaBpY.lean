/-
  BucketRuns, walked.
-/
import Derived.Test.YtbiadglhfpapaaaBpX
import Derived.Test.YtbiadglhfpapaaaBpW
set_option linter.unusedVariables false
namespace Go.Proofs.Ytbiadglhfpapaaa.bp
open Go.RowKit Go.Proofs.Ytbiadglhfpapaaa.oc Go.Proofs.Ytbiadglhfpapaaa.mz Go.Proofs.Ytbiadglhfpapaaa.bk
/-- a place of a list of truths: what it holds, and what a store leaves -/
theorem Bm.spot {w wi : World} {v : Value} {l : List Bool} {i : Nat} {x : Bool} (h : Bm w wi v l) (hx : l[i]? = some x) : ∃ g c, v = .slice (some ⟨g, 0, none⟩) l.length c ∧ w.heap.size ≤ g ∧ wi.cell? ⟨g, i, none⟩ = some (.bool x) ∧ wi.frozen? ⟨g, i, none⟩ = false ∧ ∀ y, Bm w (wi.setCell ⟨g, i, none⟩ (.bool y)) v (l.set i y) := by
  have hi : i < l.length := (List.getElem?_eq_some_iff.1 hx).1
  rcases h.own.2 with ⟨_, e0⟩ | ⟨g, cap, cur, e, hb, hg, h1, h2, h3, h4⟩
  · omega
  · have hblk : Blk wi g 4 cur.toList := by simpa [Blk] using hg
    have hcell := h.own.cells (g := g) (by rw [e]; rfl) i (.bool x) (by simp [bools, hx])
    rw [Addr.add_lit, Nat.zero_add] at hcell
    refine ⟨g, cap, e, hb, hcell, hblk.frozen i, fun y => ⟨⟨by simp [bools], .inr ⟨g, cap, (cur.toList.set i (.bool y)).toArray, by rw [e, List.length_set], hb, hblk.put i (.bool y), by rw [List.length_set]; exact h1, h2, by simpa using h3, ?_⟩⟩, fun S => (h.keep S).setCell (.inr hb) _⟩⟩
    rw [List.length_set, ← bools_set, ← h4]
    simp [List.take_set]
theorem small_room {l : List (Nat × Nat)} (h : ∀ p ∈ l, p.1 < 18446744073709551616 ∧ p.2 < 18446744073709551616) : ∀ p ∈ l ++ room 4, p.1 < 18446744073709551616 ∧ p.2 < 18446744073709551616 := by
  intro p hp
  rcases List.mem_append.1 hp with q | q
  · exact h p q
  · simp [room] at q
    rcases q with rfl | rfl | rfl | rfl <;> decide
theorem bm_form {w wi : World} {v : Value} {l : List Bool} (h : Bm w wi v l) : ∃ A c, v = .slice A l.length c := by
  obtain ⟨A, c, e, _⟩ := rd_of_row h.own
  exact ⟨A, c, e⟩
/-- two lists that are the same -/
theorem same_yes (w : World) (B B' q : Nat) (v v' : Value) (ls : List Bool) (h : w.ownsRow B 4 1 v q (bools ls)) (h' : w.ownsRow B' 4 1 v' q (bools ls)) (hq : ls.length = q) (hq9 : q ≤ 100000000000000) : Calls Try.prog 24 #[v, v'] w fun e w' => e = .returned (.bool true) ∧ ∀ S, Keeps S w w' := by
  obtain ⟨a, c, rfl, hr⟩ := rd_of_row h
  obtain ⟨a', c', rfl, hr'⟩ := rd_of_row h'
  have := same_ w a a' q c q c' ls ls hr hr' hq hq hq9
  simpa using this
/-- the walk's world: the bucket's block, the asks with room behind them -/
structure Env (w : World) (n d b : Nat) (B1 : Nat) (A1 : Option Addr) (l1 : List (Nat × Nat)) (wr : World) : Prop where
  ks : ∀ S, Keeps S w wr
  box : Blk wr w.heap.size 24 [.int .u64 (n : Int), .int .u64 (d : Int), .int .u64 (b : Int)]
  inn : Asks wr B1 A1 (l1 ++ room 4)
  bl : B1 ≤ wr.heap.size
  wb : w.heap.size < B1
theorem Env.on {w wr w' : World} {n d b B1 : Nat} {A1 : Option Addr} {l1 : List (Nat × Nat)} {S : Nat → Prop} (h : Env w n d b B1 A1 l1 wr) (k : Keeps S wr w') (hS : ∀ x, x < B1 → ¬ S x) : Env w n d b B1 A1 l1 w' :=
  ⟨fun S' => glue_ (h.ks S') k (fun x hx hxs => absurd hxs (hS x (by have := h.wb; omega))), Blk.keeps h.box k (hS _ h.wb), h.inn.keeps k hS, Nat.le_trans h.bl k.size, h.wb⟩
set_option maxRecDepth 100000 in
set_option maxHeartbeats 16000000 in
theorem runs_walk (w : World) (n d b : Nat) (A : Option Addr) (m c : Nat) (l : List (Nat × Nat)) (ha : Asks w w.heap.size A l) (hl : l.length = m) (hmc : m ≤ c) (hm9 : c ≤ 1000000000000000) : Calls Try.prog 4 #[bv n d b, .slice A m c] w fun e w' => e = .returned (.bool true) ∧ ∀ S, Keeps S w w' := by
  obtain ⟨m1, hm1⟩ : ∃ x, x = min m 300 := ⟨_, rfl⟩
  obtain ⟨m2, hm2⟩ : ∃ x, x = min m1 24 := ⟨_, rfl⟩
  obtain ⟨l1, hl1⟩ : ∃ x, x = l.take m1 := ⟨_, rfl⟩
  obtain ⟨l2, hl2⟩ : ∃ x, x = l1.take m2 := ⟨_, rfl⟩
  have n1 : l1.length = m1 := by rw [hl1, List.length_take]; omega
  have n2 : l2.length = m2 := by rw [hl2, List.length_take]; omega
  have ha1 : Asks w w.heap.size A l1 := by rw [hl1]; exact Asks.take ha m1
  have ha2 : Asks w w.heap.size A l2 := by rw [hl2]; exact Asks.take ha1 m2
  obtain ⟨e, ls, hls, R1, R2⟩ := run_both n d b l1 (by omega)
  obtain ⟨k, fe, F1, F2⟩ := fits_both n d b l2 (by omega)
  unfold RunIs at R1 R2
  unfold FitsIs at F1 F2
  unfold bv at R1 R2 F1 F2 ⊢
  rw [n1] at R1 R2
  rw [n2] at F1 F2
  obtain ⟨q, hq⟩ : ∃ q, q = ls.length := ⟨_, rfl⟩
  have HR1 := Lib.hid R1
  have HR2 := Lib.hid R2
  have HF1 := Lib.hid F1
  have HF2 := Lib.hid F2
  have HA1 := Lib.hid ha1
  have HA2 := Lib.hid ha2
  have HN := Lib.hid (show l1.length = m1 ∧ l2.length = m2 ∧ m1 ≤ 300 ∧ m2 ≤ 24 ∧ ls.length = q ∧ q ≤ 300 from ⟨n1, n2, by omega, by omega, hq.symm, by omega⟩)
  have HO := fun w => Lib.hid (works_said w)
  have HM1 := Lib.hid hm1
  have HM2 := Lib.hid hm2
  have hmc' : (m : Int) ≤ (c : Int) := by omega
  have hmc1 : (m1 : Int) ≤ (c : Int) := by omega
  have hq9 : (q : Int) ≤ 300 := by omega
  have hmin : (if (300 : Int) < (m : Int) then (300 : Int) else (m : Int)) = (m1 : Int) := by split <;> omega
  have HMIN2 := Lib.hid (show (if (24 : Int) < (m1 : Int) then (24 : Int) else (m1 : Int)) = (m2 : Int) from by split <;> omega)
  have hm0 : (0 : Int) ≤ (m1 : Int) := by omega
  have hm02 : (0 : Int) ≤ (m2 : Int) := by omega
  have hmc2 : (m2 : Int) ≤ (c : Int) := by omega
  obtain ⟨w0, hw0⟩ : ∃ x, x = w.alloc (.cells #[.int .u64 (n : Int), .int .u64 (d : Int), .int .u64 (b : Int)] 24) := ⟨_, rfl⟩
  have b0 := Blk.new w 24 #[.int .u64 (n : Int), .int .u64 (d : Int), .int .u64 (b : Int)]
  rw [← hw0] at b0
  have k0 : ∀ S, Keeps S w w0 := fun S => by rw [hw0]; exact (Keeps.refl S w).alloc _
  have SP1 := Lib.hid (spare_ w0 A m1 c l1 ((ha1.keeps (S := fun _ => False) (k0 _) (fun _ _ z => z)).base (k0 (fun _ => False)).size) n1 (by omega))
  have B0 := Lib.hid b0
  have K0 := Lib.hid k0
  clear ha hl hmc hm9 hm1 hm2 hl1 hl2 n1 n2 ha1 ha2 R1 R2 F1 F2 hls b0 k0 hq
  go_enter Try.func4, Try.ntmps4
  go_wp2_with fail
  rw [← hw0]
  try rw [← HM1.out]
  clear hw0 hmin
  refine SP1.out.mono ?_
  rintro r w1 ⟨A1, c1, hc1, rfl, ham⟩
  have hin : Asks w1 w1.heap.size A1 (l1 ++ room 4) := by
    obtain ⟨A', c', e', h'⟩ := ham.asks (small_room HA1.out.sm)
    have : A1 = A' := by injection e'
    rw [this]; exact h'
  have E1 := Lib.hid (show Env w n d b w1.heap.size A1 l1 w1 from ⟨fun S => (K0.out S).trans (ham.keep S), Blk.keeps B0.out (ham.keep (fun _ => False)) (fun z => z), hin, Nat.le_refl _, (Blk.keeps B0.out (ham.keep (fun _ => False)) (fun z => z)).lt⟩)
  have HC1 := Lib.hid (show m1 + 4 ≤ c1 from hc1)
  clear ham hin hc1 SP1 B0 K0
  have x0 : w1.cell? ⟨w.heap.size, 0, none⟩ = some (.int .u64 (n : Int)) := by rw [E1.out.box.cell]; rfl
  have x1 : w1.cell? ⟨w.heap.size, 1, none⟩ = some (.int .u64 (d : Int)) := by rw [E1.out.box.cell]; rfl
  have x2 : w1.cell? ⟨w.heap.size, 2, none⟩ = some (.int .u64 (b : Int)) := by rw [E1.out.box.cell]; rfl
  go_wp2_with fail
  refine (HR1.out w1 A1 c1 (Asks.left E1.out.inn)).mono ?_
  rintro r w2 ⟨v1, rfl, bm1⟩
  obtain ⟨a1, d1, rfl⟩ := bm_form bm1
  rw [HN.out.2.2.2.2.1]
  rw [HN.out.2.2.2.2.1] at bm1
  have E2 := Lib.hid (E1.out.on (bm1.keep (fun _ => False)) (fun _ _ z => z))
  have M1 := Lib.hid bm1
  clear bm1 x0 x1 x2
  have x0 : w2.cell? ⟨w.heap.size, 0, none⟩ = some (.int .u64 (n : Int)) := by rw [E2.out.box.cell]; rfl
  have x1 : w2.cell? ⟨w.heap.size, 1, none⟩ = some (.int .u64 (d : Int)) := by rw [E2.out.box.cell]; rfl
  have x2 : w2.cell? ⟨w.heap.size, 2, none⟩ = some (.int .u64 (b : Int)) := by rw [E2.out.box.cell]; rfl
  go_wp2_with fail
  refine (HR1.out w2 A1 c1 ((Asks.left E2.out.inn).base E2.out.bl)).mono ?_
  rintro r w3 ⟨v2, rfl, bm2⟩
  obtain ⟨a2, d2, rfl⟩ := bm_form bm2
  rw [HN.out.2.2.2.2.1]
  rw [HN.out.2.2.2.2.1] at bm2
  have E3 := Lib.hid (E2.out.on (bm2.keep (fun _ => False)) (fun _ _ z => z))
  have M13 := Lib.hid (M1.out.grown bm2.keep)
  have M2 := Lib.hid bm2
  clear bm2 x0 x1 x2
  have x0 : w3.cell? ⟨w.heap.size, 0, none⟩ = some (.int .u64 (n : Int)) := by rw [E3.out.box.cell]; rfl
  have x1 : w3.cell? ⟨w.heap.size, 1, none⟩ = some (.int .u64 (d : Int)) := by rw [E3.out.box.cell]; rfl
  have x2 : w3.cell? ⟨w.heap.size, 2, none⟩ = some (.int .u64 (b : Int)) := by rw [E3.out.box.cell]; rfl
  go_wp2_with fail
  refine (HR2.out w3 A c ((HA1.out.keeps (S := fun _ => False) (E3.out.ks _) (fun _ _ z => z)).base (E3.out.ks (fun _ => False)).size)).mono ?_
  rintro r w4 ⟨v3, rfl, bm3⟩
  obtain ⟨a3, d3, rfl⟩ := bm_form bm3
  rw [HN.out.2.2.2.2.1]
  rw [HN.out.2.2.2.2.1] at bm3
  have E4 := Lib.hid (E3.out.on (bm3.keep (fun _ => False)) (fun _ _ z => z))
  have hq := HN.out.2.2.2.2
  have o1 := (M13.out.grown bm3.keep).own
  have o2 := (M2.out.grown bm3.keep).own
  have o3 := bm3.own
  rw [hq.1] at o1 o2 o3
  have M14 := Lib.hid (M13.out.grown bm3.keep)
  have AP := Lib.hid (show (∀ x, (Value.slice a1 q d1).ownBlock = some x → x < w2.heap.size) ∧ (∀ x, (Value.slice a2 q d2).ownBlock = some x → w2.heap.size ≤ x) ∧ (∀ x, (Value.slice a3 q d3).ownBlock = some x → w2.heap.size ≤ x) from ⟨fun x hx => (M1.out.own.lt x hx).2, fun x hx => (M2.out.own.lt x hx).1, fun x hx => Nat.le_trans (M2.out.keep (fun _ => False)).size (bm3.own.lt x hx).1⟩)
  have HS1 := Lib.hid (same_yes w4 _ _ q _ _ ls o1 o3 hq.1 (by omega))
  have O2 := Lib.hid o2
  have O3 := Lib.hid o3
  clear bm3 x0 x1 x2 o1 o2 o3 hq M13 M2
  go_wp2_with fail
  refine HS1.out.mono ?_
  rintro r w5 ⟨rfl, k5⟩
  have E5 := Lib.hid (E4.out.on (k5 (fun _ => False)) (fun _ _ z => z))
  have M15 := Lib.hid (M14.out.grown k5)
  have O25 := Lib.hid (owns_keeps O2.out (k5 (fun _ => False)) (fun _ _ z => z))
  have O35 := Lib.hid (owns_keeps O3.out (k5 (fun _ => False)) (fun _ _ z => z))
  have HS2 := Lib.hid (same_yes w5 _ _ q _ _ ls O25.out O35.out HN.out.2.2.2.2.1 (by have := HN.out; omega))
  clear k5 HS1
  go_wp2_with fail
  refine HS2.out.mono ?_
  rintro r w6 ⟨rfl, k6⟩
  have E6 := Lib.hid (E5.out.on (k6 (fun _ => False)) (fun _ _ z => z))
  have M16 := Lib.hid (M15.out.grown k6)
  have O26 := Lib.hid (owns_keeps O25.out (k6 (fun _ => False)) (fun _ _ z => z))
  have O36 := Lib.hid (owns_keeps O35.out (k6 (fun _ => False)) (fun _ _ z => z))
  have HK1 := Lib.hid (kept_ w6 A1 A m1 c1 m1 c l1 (E6.out.inn.base E6.out.bl) ((HA1.out.keeps (S := fun _ => False) (E6.out.ks _) (fun _ _ z => z)).base (E6.out.ks (fun _ => False)).size) HN.out.1 (by have := HN.out; omega) HC1.out)
  clear k6 HS2
  go_wp2_with fail
  refine HK1.out.mono ?_
  rintro r w7 ⟨rfl, k7⟩
  have E7 := Lib.hid (E6.out.on (k7 (fun _ => False)) (fun _ _ z => z))
  have M17 := Lib.hid (M16.out.grown k7)
  have O27 := Lib.hid (owns_keeps O26.out (k7 (fun _ => False)) (fun _ _ z => z))
  have O37 := Lib.hid (owns_keeps O36.out (k7 (fun _ => False)) (fun _ _ z => z))
  clear k7 HK1 E1 E2 E3 E4 E5 E6 M1 M14 M15 M16 O2 O3 O25 O35 O26 O36
  go_wp2_with fail
  go_loopw [12] (fun iv wr => ∃ (i : Nat) (ls' : List Bool), iv = .int .i64 (i : Int) ∧ i ≤ q ∧ ls'.length = q ∧ Env w n d b w1.heap.size A1 l1 wr ∧ Bm w1 wr (.slice a1 q d1) ls' ∧ wr.ownsRow w2.heap.size 4 1 (.slice a2 q d2) q (bools ls) ∧ wr.ownsRow w3.heap.size 4 1 (.slice a3 q d3) q (bools ls)) (fun iv _ => q + 1 - (intOf iv).toNat)
  case atStart => exact ⟨0, ls, rfl, Nat.zero_le _, HN.out.2.2.2.2.1, E7.out, M17.out, O27.out, O37.out⟩
  case round =>
    clear E7 M17 O27 O37
    obtain ⟨i, ls', rfl, hi, hlq, hE, hM, hO2, hO3⟩ := hrel
    have EE := Lib.hid hE
    have MM := Lib.hid hM
    have OO2 := Lib.hid hO2
    have OO3 := Lib.hid hO3
    have HLQ := Lib.hid hlq
    have i0 : (0 : Int) ≤ (i : Int) := by omega
    rcases Nat.lt_or_ge i q with hlt | hlt
    · have hlt' : (i : Int) < (q : Int) := by omega
      have HLT := Lib.hid hlt
      obtain ⟨x, hx⟩ : ∃ x, ls'[i]? = some x := ⟨_, List.getElem?_eq_getElem (by omega)⟩
      obtain ⟨g, cg, hv, hg, hcl, hfr, hput⟩ := bp.Bm.spot hM hx
      have ha1 : a1 = some ⟨g, 0, none⟩ := by injection hv
      subst ha1
      have PUT := Lib.hid (hput (!x))
      have HG := Lib.hid (show w1.heap.size ≤ g ∧ g < w2.heap.size from ⟨hg, AP.out.1 g rfl⟩)
      clear hi hlq hE hM hO2 hO3 hlt hx hv hg hput
      go_wp2
      go_roundw
      case rel =>
        refine ⟨i + 1, ls'.set i (!x), by first | rfl | go_num, HLT.out, by rw [List.length_set]; exact HLQ.out, EE.out.on (Keeps.here (b := g) _) (fun y hy e => by have := HG.out; omega), PUT.out, owns_keeps OO2.out (Keeps.here (b := g) _) (fun y hy e => by have h1 := AP.out.2.1 y hy; have h2 := HG.out; omega), owns_keeps OO3.out (Keeps.here (b := g) _) (fun y hy e => by have h1 := AP.out.2.2 y hy; have h2 := HG.out; omega)⟩
      case measure => have := HLT.out; simp only [intOf]; omega
    · have hlt' : ¬ (i : Int) < (q : Int) := by omega
      clear hi hlq hE hM hO2 hO3 hlt
      go_wp2_with fail
      go_loopw [6, 13] (fun lv iv wr => ∃ (i : Nat) (v : Value) (ls' : List Bool), iv = .int .i64 (i : Int) ∧ lv = v ∧ i ≤ 20 ∧ ls'.length ≤ 300 + i ∧ Env w n d b w1.heap.size A1 l1 wr ∧ Bm w1 wr v ls' ∧ wr.ownsRow w2.heap.size 4 1 (.slice a2 q d2) q (bools ls) ∧ wr.ownsRow w3.heap.size 4 1 (.slice a3 q d3) q (bools ls) ∧ (∀ x, v.ownBlock = some x → ¬ (Value.slice a2 q d2).ownBlock = some x ∧ ¬ (Value.slice a3 q d3).ownBlock = some x)) (fun _ iv _ => 21 - (intOf iv).toNat)
      case atStart => exact ⟨0, _, ls', rfl, rfl, by omega, by have := HLQ.out; have := HN.out; omega, EE.out, MM.out, OO2.out, OO3.out, fun x hx => ⟨fun h => by have h1 := AP.out.1 x hx; have h2 := AP.out.2.1 x h; omega, fun h => by have h1 := AP.out.1 x hx; have h2 := AP.out.2.2 x h; omega⟩⟩
      case round =>
        clear EE MM OO2 OO3 HLQ
        obtain ⟨j, v, lj, rfl, rfl, hj, hlj, hE, hM, hO2, hO3, hap⟩ := hrel
        have EE := Lib.hid hE
        have OO2 := Lib.hid hO2
        have OO3 := Lib.hid hO3
        have HJ := Lib.hid (show j ≤ 20 ∧ lj.length ≤ 300 + j from ⟨hj, hlj⟩)
        have HAP := Lib.hid hap
        have j0 : (0 : Int) ≤ (j : Int) := by omega
        rcases Nat.lt_or_ge j 20 with hlt2 | hlt2
        · have hlt2' : (j : Int) < 20 := by omega
          have HLT := Lib.hid hlt2
          have HM2' := Lib.hid (hM.alloc (.cells #[.bool true] 4))
          have HB2 := Lib.hid (Blk.new wr 4 (bools [true]).toArray)
          have HRL := Lib.hid (show lj.length + 1 ≤ 140737488355327 by omega)
          clear hj hlj hE hM hO2 hO3 hap hlt2
          go_wp2_with (at_builtin; refine Bm.wpList_append2 rfl _ _ rfl HM2'.out rfl wr.heap.size 1 1 [true] rfl rfl HB2.out HRL.out ?_; intro v9 w9 m9 kk9 at9; have M9 := Lib.hid m9; have K9 := Lib.hid kk9; have T9 := Lib.hid at9; clear m9 kk9 at9)
          go_roundw
          case rel =>
            have hz : (wr.alloc (.cells #[.bool true] 4)).heap.size = wr.heap.size + 1 := World.size_alloc _ _
            have ka : ∀ S, Keeps S wr (wr.alloc (.cells #[.bool true] 4)) := fun S => (Keeps.refl S wr).alloc _
            refine ⟨j + 1, v9, lj ++ [true], by first | rfl | go_num, rfl, HLT.out, by rw [List.length_append]; have := HJ.out; simp; omega, (EE.out.on (ka (fun _ => False)) (fun _ _ z => z)).on K9.out (fun y hy e => by have := (HM2'.out.own.lt y e).1; omega), M9.out, ?_, ?_, fun x hx => ?_⟩
            · exact owns_keeps (owns_keeps OO2.out (ka (fun _ => False)) (fun _ _ z => z)) K9.out (fun y hy e => (HAP.out y e).1 hy)
            · exact owns_keeps (owns_keeps OO3.out (ka (fun _ => False)) (fun _ _ z => z)) K9.out (fun y hy e => (HAP.out y e).2 hy)
            · rcases T9.out with h | h
              · rw [h] at hx; exact HAP.out x hx
              · rw [h, hz] at hx
                injection hx with hx
                exact ⟨fun h2 => by have := (OO2.out.lt x h2).2; omega, fun h2 => by have := (OO3.out.lt x h2).2; omega⟩
          case measure => have := HLT.out; simp only [intOf]; omega
        · have hlt2' : ¬ (j : Int) < 20 := by omega
          have HS3 := Lib.hid (same_yes wr _ _ q _ _ ls OO2.out OO3.out HN.out.2.2.2.2.1 (by have := HN.out; omega))
          clear hj hlj hE hM hO2 hO3 hap hlt2
          go_wp2_with fail
          refine HS3.out.mono ?_
          rintro r w8 ⟨rfl, k8⟩
          have E8 := Lib.hid (EE.out.on (k8 (fun _ => False)) (fun _ _ z => z))
          have SP2 := Lib.hid (spare_ w8 A m2 c l2 ((HA2.out.keeps (S := fun _ => False) (E8.out.ks _) (fun _ _ z => z)).base (E8.out.ks (fun _ => False)).size) HN.out.2.1 (by have := HN.out; omega))
          clear k8 HS3 OO2 OO3 EE HAP HJ
          have hmin2 := HMIN2.out
          go_wp2_with fail
          try rw [← HM2.out]
          clear hmin2
          refine SP2.out.mono ?_
          rintro r w9 ⟨A4, c4, hc4, rfl, ham⟩
          have hin : Asks w9 w9.heap.size A4 (l2 ++ room 4) := by
            obtain ⟨A', c', e', h'⟩ := ham.asks (small_room HA2.out.sm)
            have : A4 = A' := by injection e'
            rw [this]; exact h'
          have E9 := Lib.hid (show Env w n d b w9.heap.size A4 l2 w9 from ⟨fun S => (E8.out.ks S).trans (ham.keep S), Blk.keeps E8.out.box (ham.keep (fun _ => False)) (fun z => z), hin, Nat.le_refl _, (Blk.keeps E8.out.box (ham.keep (fun _ => False)) (fun z => z)).lt⟩)
          have HC4 := Lib.hid (show m2 + 4 ≤ c4 from hc4)
          clear ham hin hc4 SP2 E8
          have x0 : w9.cell? ⟨w.heap.size, 0, none⟩ = some (.int .u64 (n : Int)) := by rw [E9.out.box.cell]; rfl
          have x1 : w9.cell? ⟨w.heap.size, 1, none⟩ = some (.int .u64 (d : Int)) := by rw [E9.out.box.cell]; rfl
          have x2 : w9.cell? ⟨w.heap.size, 2, none⟩ = some (.int .u64 (b : Int)) := by rw [E9.out.box.cell]; rfl
          go_wp2_with fail
          refine (HF1.out w9 A4 c4 (Asks.left E9.out.inn)).mono ?_
          rintro r w10 ⟨rfl, k10⟩
          have E10 := Lib.hid (E9.out.on (k10 (fun _ => False)) (fun _ _ z => z))
          clear k10 x0 x1 x2
          have x0 : w10.cell? ⟨w.heap.size, 0, none⟩ = some (.int .u64 (n : Int)) := by rw [E10.out.box.cell]; rfl
          have x1 : w10.cell? ⟨w.heap.size, 1, none⟩ = some (.int .u64 (d : Int)) := by rw [E10.out.box.cell]; rfl
          have x2 : w10.cell? ⟨w.heap.size, 2, none⟩ = some (.int .u64 (b : Int)) := by rw [E10.out.box.cell]; rfl
          go_wp2_with fail
          refine (HF2.out w10 A c ((HA2.out.keeps (S := fun _ => False) (E10.out.ks _) (fun _ _ z => z)).base (E10.out.ks (fun _ => False)).size)).mono ?_
          rintro r w11 ⟨rfl, k11⟩
          have E11 := Lib.hid (E10.out.on (k11 (fun _ => False)) (fun _ _ z => z))
          have HK2 := Lib.hid (kept_ w11 A4 A m2 c4 m2 c l2 (E11.out.inn.base E11.out.bl) ((HA2.out.keeps (S := fun _ => False) (E11.out.ks _) (fun _ _ z => z)).base (E11.out.ks (fun _ => False)).size) HN.out.2.1 (by have := HN.out; omega) HC4.out)
          clear k11 x0 x1 x2
          go_wp2_with fail
          refine HK2.out.mono ?_
          rintro r w12 ⟨rfl, k12⟩
          have K12 : Hid (∀ S, Keeps S w w12) := Lib.hid (fun S => (E11.out.ks S).trans (k12 S))
          clear k12 HK2
          go_wp2_with fail
          refine (HO _).out.mono ?_
          rintro r w13 ⟨rfl, k13⟩
          have K13 : Hid (∀ S, Keeps S w w13) := Lib.hid (fun S => (K12.out S).trans (k13 S))
          clear k13
          go_wp2
          try rw [Exit.noGoto_ret]
          go_ret
          exact ⟨rfl, K13.out⟩
end Go.Proofs.Ytbiadglhfpapaaa.bp
namespace Go.Proofs.Ytbiadglhfpapaaa.oc
open Go.RowKit Go.Proofs.Ytbiadglhfpapaaa.mz Go.Proofs.Ytbiadglhfpapaaa.bk Go.Proofs.Ytbiadglhfpapaaa.bp
theorem walk_bucketRuns (W : World) (n d b : Nat) (hn : n < 18446744073709551616) (hd : d < 18446744073709551616) (hb : b < 18446744073709551616) (A : Option Addr) (m c : Nat) (xs : List (List Value)) (hx : flat.IsFlat W (List.replicate 2 (.int .u64)) A m xs) (hmc : m ≤ c) (hz : c * 16 ≤ 140737488351232) : Calls Try.prog 4 #[bv n d b, .slice A m c] W fun e W' => e = .returned (.bool true) ∧ Below W.heap.size W W' := by
  obtain ⟨l, hl, ha⟩ := asks_of_flat hx
  exact (runs_walk W n d b A m c l ha hl hmc (by omega)).mono fun e W' ⟨he, hk⟩ => ⟨he, (hk (fun _ => False)).below⟩
end Go.Proofs.Ytbiadglhfpapaaa.oc
