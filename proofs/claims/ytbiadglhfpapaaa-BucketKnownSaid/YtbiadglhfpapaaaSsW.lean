/-
  Rows of ints that are sorted in place: exchanges, swapRange, rotate.
-/
import Derived.Test.YtbiadglhfpapaaaSsP
import Derived.Test.YtbiadglhfpapaaaBkW
import Derived.Deep.RegionHeld3
import Derived.Deep.QuietTactic
import Derived.BigQuiet
import Derived.BigRegion
import Derived.OwnWalk
set_option linter.unusedVariables false
namespace Go.Proofs.Ytbiadglhfpapaaa.ss
open Go.RowKit Go.Proofs.Ytbiadglhfpapaaa.oc Go.Proofs.Ytbiadglhfpapaaa.mz
/-- the block R holds d's first m places -/
structure Ro (w : World) (R m : Nat) (d : Nat → Nat) : Prop where
  old : R < w.heap.size
  cell : ∀ i, i < m → w.cell? ⟨R, i, none⟩ = some (.int .i64 (d i : Int))
  free : ∀ i, i < m → w.frozen? ⟨R, i, none⟩ = false
  lt : ∀ i, i < m → d i < m
theorem Ro.keeps {w w' : World} {R m : Nat} {d : Nat → Nat} {S : Nat → Prop} (h : Ro w R m d) (k : Keeps S w w') (hs : ¬ S R) : Ro w' R m d :=
  ⟨Nat.lt_of_lt_of_le h.old k.size, fun i hi => Keeps.cell k (h.cell i hi) hs, fun i hi => by
    have := k.block R h.old hs
    rw [← h.free i hi]
    unfold World.frozen?
    simp only [this], h.lt⟩
theorem Ro.congr {w : World} {R m : Nat} {d e : Nat → Nat} (h : Ro w R m d) (he : ∀ i, i < m → e i = d i) : Ro w R m e :=
  ⟨h.old, fun i hi => by rw [he i hi]; exact h.cell i hi, h.free, fun i hi => by rw [he i hi]; exact h.lt i hi⟩
theorem Ro.swapped {w : World} {R m i j : Nat} {d : Nat → Nat} (h : Ro w R m d) (hi : i < m) (hj : j < m) : Ro ((w.setCell ⟨R, i, none⟩ (.int .i64 (d j : Int))).setCell ⟨R, j, none⟩ (.int .i64 (d i : Int))) R m (sw d i j) := by
  refine ⟨by simpa using h.old, fun t ht => ?_, fun t ht => by rw [World.frozen?_setCell, World.frozen?_setCell]; exact h.free t ht, fun t ht => ?_⟩
  · rw [sw_upd]
    unfold upd
    by_cases h2 : t = j
    · subst h2
      rw [if_pos rfl]
      exact World.cell?_setCell_same' _ _ _ (by
        by_cases h1 : t = i
        · subst h1; rw [World.cell?_setCell_same' _ _ _ (by rw [h.cell t ht]; rfl)]; rfl
        · rw [World.cell?_setCell_other _ _ _ _ (by intro e'; simp only [Addr.mk.injEq] at e'; omega), h.cell t ht]; rfl)
    · rw [if_neg h2, World.cell?_setCell_other _ _ _ _ (by intro e'; simp only [Addr.mk.injEq] at e'; omega)]
      by_cases h1 : t = i
      · subst h1
        rw [if_pos rfl]
        exact World.cell?_setCell_same' _ _ _ (by rw [h.cell t ht]; rfl)
      · rw [if_neg h1, World.cell?_setCell_other _ _ _ _ (by intro e'; simp only [Addr.mk.injEq] at e'; omega)]
        exact h.cell t ht
  · unfold sw
    split
    · exact h.lt j hj
    · split
      · exact h.lt i hi
      · exact h.lt t ht
theorem Keeps.swapped {w : World} {R i j : Nat} {a b : Value} : Keeps (· = R) w ((w.setCell ⟨R, i, none⟩ a).setCell ⟨R, j, none⟩ b) := (Keeps.here _).trans (Keeps.here _)
theorem Ro.c2 {w : World} {R m i j : Nat} {d : Nat → Nat} (h : Ro w R m d) (hi : i < m) (hj : j < m) (v : Value) : ∃ u, (w.setCell ⟨R, i, none⟩ v).cell? ⟨R, j, none⟩ = some u := by
  by_cases e : i = j
  · subst e; exact ⟨v, World.cell?_setCell_same _ _ _ (h.cell i hi)⟩
  · exact ⟨_, (World.cell?_setCell_other _ _ _ _ (by intro e'; simp only [Addr.mk.injEq] at e'; omega)).trans (h.cell j hj)⟩
theorem Ro.drew {w : World} {R m : Nat} {d : Nat → Nat} (h : Ro w R m d) : Ro w.drew R m d := h.keeps (S := fun _ => False) (Keeps.refl _ w).drew (fun z => z)
section
variable (w : World) (R m c : Nat) (F : Value)
set_option maxRecDepth 100000 in
set_option maxHeartbeats 2000000 in
theorem swapRange_ (a b n : Nat) (d : Nat → Nat) (h : Ro w R m d) (hab : a + n ≤ b) (hb : b + n ≤ m) (hm : m ≤ 1000000) : Calls Try.prog 60 #[.slice (some ⟨R, 0, none⟩) m c, .int .i64 (a : Int), .int .i64 (b : Int), .int .i64 (n : Int), F] w fun e w' => e = .returned (.tuple #[]) ∧ Keeps (· = R) w w' ∧ Ro w' R m (swr a b n d) := by
  have H0 := Lib.hid h
  have HA := Lib.hid (show a + n ≤ b ∧ b + n ≤ m ∧ m ≤ 1000000 from ⟨hab, hb, hm⟩)
  clear h hab hb hm
  go_enter Try.func60, Try.ntmps60
  go_wp2_with fail
  go_loopw [10] (fun iv wr => ∃ k : Nat, k ≤ n ∧ iv = .int .i64 (k : Int) ∧ Keeps (· = R) w wr ∧ Ro wr R m (swr a b k d)) (fun iv _ => n + 1 - (intOf iv).toNat)
  case atStart => exact ⟨0, Nat.zero_le _, rfl, Keeps.refl _ _, by rw [swr_zero]; exact H0.out⟩
  case round =>
    clear H0
    obtain ⟨k, hk, rfl, hkk, hr⟩ := hrel
    have k0 : (0 : Int) ≤ (k : Int) := by omega
    rcases Nat.lt_or_ge k n with hlt | hlt
    · have hlt' : (k : Int) < (n : Int) := by omega
      have HK := Lib.hid hkk
      have HR := Lib.hid hr
      have HLT := Lib.hid hlt
      obtain ⟨x, hx⟩ : ∃ x, x = a + k := ⟨_, rfl⟩
      obtain ⟨y, hy⟩ : ∃ y, y = b + k := ⟨_, rfl⟩
      have wx : IntKind.i64.wrap ((a : Int) + (k : Int)) = (x : Int) := by have := HA.out; rw [IntKind.wrap_i64]; omega
      have wy : IntKind.i64.wrap ((b : Int) + (k : Int)) = (y : Int) := by have := HA.out; rw [IntKind.wrap_i64]; omega
      have wk : IntKind.i64.wrap ((k : Int) + 1) = (k : Int) + 1 := by have := HA.out; rw [IntKind.wrap_i64]; omega
      have x0 : (0 : Int) ≤ (x : Int) := by omega
      have y0 : (0 : Int) ≤ (y : Int) := by omega
      have x1 : (x : Int) < (m : Int) := by have := HA.out; omega
      have y1 : (y : Int) < (m : Int) := by have := HA.out; omega
      have hxm : x < m := by omega
      have hym : y < m := by omega
      have cx := hr.cell x hxm
      have cy := hr.cell y hym
      have fx := hr.free x hxm
      have fy := hr.free y hym
      obtain ⟨u, cu⟩ := hr.c2 hxm hym (.int .i64 (swr a b k d y : Int))
      have RS := Lib.hid (hr.swapped hxm hym)
      have HXY := Lib.hid (show x = a + k ∧ y = b + k from ⟨hx, hy⟩)
      clear hkk hr hlt hx hy hxm hym hk
      generalize hg1 : swr a b k d x = gx at *
      generalize hg2 : swr a b k d y = gy at *
      clear hg1 hg2
      go_wp2_with fail
      go_big_region
      have K2 := Lib.hid (((HK.out.trans Keeps.swapped).drew : Keeps (· = R) w ((wr.setCell ⟨R, x, none⟩ (.int .i64 (gy : Int))).setCell ⟨R, y, none⟩ (.int .i64 (gx : Int))).drew))
      have R2 := Lib.hid RS.out.drew
      clear cx cy fx fy cu RS HK HR
      generalize ((wr.setCell ⟨R, x, none⟩ (.int .i64 (gy : Int))).setCell ⟨R, y, none⟩ (.int .i64 (gx : Int))).drew = w3 at *
      go_wp2
      go_roundw
      case rel => exact ⟨k + 1, HLT.out, by go_num, K2.out, by
        have := R2.out
        rw [HXY.out.1, HXY.out.2, swr_step d HA.out.1 HLT.out] at this
        exact this⟩
      case measure => have := HLT.out; simp only [intOf]; omega
    · have hlt' : ¬ (k : Int) < (n : Int) := by omega
      have hkn : k = n := by omega
      subst hkn
      have HP := Lib.hid (show Keeps (· = R) w wr ∧ Ro wr R m (swr a b k d) from ⟨hkk, hr⟩)
      clear hkk hr hk hlt
      go_wp2
      go_end0
      exact ⟨rfl, HP.out⟩
theorem swr_seg {a b n x y : Nat} (d : Nat → Nat) (hx : x ≤ a) (hab : a + n ≤ b) (hy : b + n ≤ y) : ∀ k, k ≤ n → Seg x y d (swr a b k d)
  | 0, _ => by rw [swr_zero]; exact Seg.refl _ _ _
  | k + 1, h => by
    rw [← swr_step d hab (show k < n from h)]
    exact (swr_seg d hx hab hy k (by omega)).trans (Seg.swap _ (by omega) (by omega))
set_option maxRecDepth 100000 in
set_option maxHeartbeats 2000000 in
theorem rotate_ (a q b : Nat) (d : Nat → Nat) (h : Ro w R m d) (ha : a < q) (hq : q < b) (hb : b ≤ m) (hm : m ≤ 1000000) : Calls Try.prog 59 #[.slice (some ⟨R, 0, none⟩) m c, .int .i64 (a : Int), .int .i64 (q : Int), .int .i64 (b : Int), F] w fun e w' => e = .returned (.tuple #[]) ∧ Keeps (· = R) w w' ∧ Ro w' R m (rot a q b d) ∧ Seg a b d (rot a q b d) := by
  have HSW := fun (w : World) (x y n : Nat) (e : Nat → Nat) (h : Ro w R m e) (h1 : x + n ≤ y) (h2 : y + n ≤ m) => Lib.hid (swapRange_ w R m c F x y n e h h1 h2 hm)
  have H0 := Lib.hid h
  have HA := Lib.hid (show a < q ∧ q < b ∧ b ≤ m ∧ m ≤ 1000000 from ⟨ha, hq, hb, hm⟩)
  have w1 : IntKind.i64.wrap ((q : Int) - (a : Int)) = ((q - a : Nat) : Int) := by rw [IntKind.wrap_i64]; omega
  have w2 : IntKind.i64.wrap ((b : Int) - (q : Int)) = ((b - q : Nat) : Int) := by rw [IntKind.wrap_i64]; omega
  clear h ha hq hb hm
  go_enter Try.func59, Try.ntmps59
  go_wp2_with fail
  go_loopw [10, 11] (fun iv jv wr => ∃ (i j : Nat) (e : Nat → Nat), iv = .int .i64 (i : Int) ∧ jv = .int .i64 (j : Int) ∧ (0 < i ∧ 0 < j ∧ a + i ≤ q ∧ q + j ≤ b) ∧ Keeps (· = R) w wr ∧ Ro wr R m e ∧ Seg a b d e ∧ rot (q - i) q (q + j) e = rot a q b d) (fun iv jv _ => (intOf iv).toNat + (intOf jv).toNat)
  case atStart => exact ⟨q - a, b - q, d, rfl, rfl, by have := HA.out; omega, Keeps.refl _ _, H0.out, Seg.refl _ _ _, by have := HA.out; rw [show q - (q - a) = a from by omega, show q + (b - q) = b from by omega]⟩
  case round =>
    clear H0 w1 w2
    obtain ⟨i, j, e, rfl, rfl, hij, hkk, hr, hsg, hrot⟩ := hrel
    have HIJ := Lib.hid hij
    have HK := Lib.hid hkk
    have HR := Lib.hid hr
    have HSG := Lib.hid hsg
    have HRO := Lib.hid hrot
    obtain ⟨x, hx⟩ : ∃ x, x = q - i := ⟨_, rfl⟩
    have w3 : IntKind.i64.wrap ((q : Int) - (i : Int)) = (x : Int) := by have := HA.out; rw [IntKind.wrap_i64]; omega
    rcases Nat.lt_trichotomy i j with hlt | hlt | hlt
    · have q1 : ((i : Int) == (j : Int)) = false := by simp; omega
      have q1' : ¬ (i : Int) = (j : Int) := by omega
      have q2 : ¬ (j : Int) < (i : Int) := by omega
      obtain ⟨z, hz⟩ : ∃ z, z = q + j := ⟨_, rfl⟩
      obtain ⟨y, hy⟩ : ∃ y, y = z - i := ⟨_, rfl⟩
      obtain ⟨v, hv⟩ : ∃ v, v = j - i := ⟨_, rfl⟩
      have w6 : IntKind.i64.wrap ((q : Int) + (j : Int)) = (z : Int) := by have := HA.out; rw [IntKind.wrap_i64]; omega
      have w4 : IntKind.i64.wrap ((z : Int) - (i : Int)) = (y : Int) := by have := HA.out; rw [IntKind.wrap_i64]; omega
      have w5 : IntKind.i64.wrap ((j : Int) - (i : Int)) = (v : Int) := by have := HA.out; rw [IntKind.wrap_i64]; omega
      have HC := HSW wr x y i e hr (by omega) (by have := HA.out.2.2.1; omega)
      have HLT := Lib.hid (show i < j ∧ x = q - i ∧ y = q + j - i ∧ v = j - i from ⟨hlt, hx, by omega, hv⟩)
      clear hij hkk hr hsg hrot hlt hx hy hz hv
      go_wp2_with fail
      refine HC.out.mono ?_
      rintro r w6 ⟨rfl, k6, r6⟩
      have K6 := Lib.hid (HK.out.trans k6)
      have R6 := Lib.hid r6
      clear k6 r6 HC
      go_wp2
      go_roundw
      case rel =>
        refine ⟨i, v, swr x y i e, rfl, rfl, by have := HIJ.out; have := HLT.out; omega, K6.out, R6.out, HSG.out.trans (swr_seg (n := i) e (by have := HIJ.out; have := HLT.out; omega) (by have := HIJ.out; have := HLT.out; omega) (by have := HIJ.out; have := HLT.out; omega) i (Nat.le_refl _)), ?_⟩
        obtain ⟨g1, g2, g3, g4⟩ := HLT.out
        subst g2; subst g3; subst g4
        rw [← HRO.out, ← rot_right e (by have := HIJ.out; omega) HIJ.out.1 g1]
      case measure => have := HIJ.out; have := HLT.out; simp only [intOf]; omega
    · have q1 : ((i : Int) == (j : Int)) = true := by simp; omega
      have q1' : (i : Int) = (j : Int) := by omega
      subst hlt
      have HC := HSW wr x q i e hr (by omega) (by have := HA.out.2.2.1; omega)
      have HX := Lib.hid hx
      clear hij hkk hr hsg hrot hx
      go_wp2_with fail
      refine HC.out.mono ?_
      rintro r w6 ⟨rfl, k6, r6⟩
      rw [HX.out] at r6
      have hsg2 := HSG.out.trans (swr_seg (n := i) e (x := a) (y := b) (show a ≤ q - i by have := HIJ.out; omega) (show q - i + i ≤ q by have := HIJ.out; omega) (by have := HIJ.out; omega) i (Nat.le_refl _))
      rw [rot_even e (by have := HIJ.out; omega), HRO.out] at r6 hsg2
      have K6 := Lib.hid (HK.out.trans k6)
      have R6 := Lib.hid r6
      have S6 := Lib.hid hsg2
      clear k6 r6 HC hsg2
      go_wp2
      go_end0
      exact ⟨rfl, K6.out, R6.out, S6.out⟩
    · have q1 : ((i : Int) == (j : Int)) = false := by simp; omega
      have q1' : ¬ (i : Int) = (j : Int) := by omega
      have q2 : (j : Int) < (i : Int) := by omega
      obtain ⟨v, hv⟩ : ∃ v, v = i - j := ⟨_, rfl⟩
      have w5 : IntKind.i64.wrap ((i : Int) - (j : Int)) = (v : Int) := by have := HA.out; rw [IntKind.wrap_i64]; omega
      have HC := HSW wr x q j e hr (by omega) (by have := HA.out.2.2.1; omega)
      have HLT := Lib.hid (show j < i ∧ x = q - i ∧ v = i - j from ⟨hlt, hx, hv⟩)
      clear hij hkk hr hsg hrot hlt hx hv
      go_wp2_with fail
      refine HC.out.mono ?_
      rintro r w6 ⟨rfl, k6, r6⟩
      have K6 := Lib.hid (HK.out.trans k6)
      have R6 := Lib.hid r6
      clear k6 r6 HC
      go_wp2
      go_roundw
      case rel =>
        refine ⟨v, j, swr x q j e, rfl, rfl, by have := HIJ.out; have := HLT.out; omega, K6.out, R6.out, HSG.out.trans (swr_seg (n := j) e (by have := HIJ.out; have := HLT.out; omega) (by have := HIJ.out; have := HLT.out; omega) (by have := HIJ.out; have := HLT.out; omega) j (Nat.le_refl _)), ?_⟩
        obtain ⟨g1, g2, g3⟩ := HLT.out
        subst g2; subst g3
        rw [← HRO.out, ← rot_left e (by have := HIJ.out; omega) HIJ.out.2.1 g1]
      case measure => have := HIJ.out; have := HLT.out; simp only [intOf]; omega
end
end Go.Proofs.Ytbiadglhfpapaaa.ss
