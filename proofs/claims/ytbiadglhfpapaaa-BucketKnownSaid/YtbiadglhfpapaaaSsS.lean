/-
  SortStableFunc of a row of ints, by the closure.
-/
import Derived.Test.YtbiadglhfpapaaaSsO
set_option linter.unusedVariables false
namespace Go.Proofs.Ytbiadglhfpapaaa.ss
open Go.RowKit Go.Proofs.Ytbiadglhfpapaaa.oc Go.Proofs.Ytbiadglhfpapaaa.mz Go.Proofs.Ytbiadglhfpapaaa.bk
theorem Seg.into {a b n : Nat} {d g : Nat → Nat} (h : Seg a b d g) (hab : a ≤ b) (hb : b ≤ n) : Seg 0 n d g := h.wide (Nat.zero_le _) hab hb
/-- what lies outside stays -/
theorem So.off {K d g : Nat → Nat} {a b x y : Nat} (h : So K d x y) (hs : Seg a b d g) (ho : y ≤ a ∨ b ≤ x) : So K g x y := h.congr (fun t h1 h2 => hs.out t (by omega))
/-- the first blocks -/
structure Fst (K : Nat → Nat) (n a : Nat) (d g : Nat → Nat) : Prop where
  sg : Seg 0 n d g
  bl : ∀ q, 20 * q + 20 ≤ a → So K g (20 * q) (20 * q + 20)
theorem Fst.step {K : Nat → Nat} {n k : Nat} {d g e : Nat → Nat} (h : Fst K n (20 * k) d g) (hn : 20 * k + 20 ≤ n) (hs : Seg (20 * k) (20 * k + 20) g e) (ho : So K e (20 * k) (20 * k + 20)) : Fst K n (20 * (k + 1)) d e := by
  refine ⟨h.sg.trans (hs.into (by omega) hn), fun q hq => ?_⟩
  rcases Nat.lt_or_ge q k with r | r
  · exact (h.bl q (by omega)).off hs (.inl (by omega))
  · have e : q = k := by omega
    subst e; exact ho
theorem Fst.last {K : Nat → Nat} {n k : Nat} {d g e : Nat → Nat} (h : Fst K n (20 * k) d g) (hk : 20 * k ≤ n) (hn : n < 20 * k + 20) (hs : Seg (20 * k) n g e) (ho : So K e (20 * k) n) : Seg 0 n d e ∧ Bls K e 20 n n := by
  refine ⟨h.sg.trans (hs.into hk (Nat.le_refl _)), fun q hq => ?_⟩
  rcases Nat.lt_or_ge q k with r | r
  · rw [show min (20 * q + 20) n = 20 * q + 20 from by omega]
    exact (h.bl q (by omega)).off hs (.inl (by omega))
  · have e : q = k := by omega
    subst e
    rw [show min (20 * q + 20) n = n from by omega]; exact ho
/-- the pairs of blocks below 2 bs k are merged, the blocks from there on are sorted -/
structure Prs (K : Nat → Nat) (bs n k : Nat) (d g : Nat → Nat) : Prop where
  sg : Seg 0 n d g
  done : ∀ q, q < k → So K g (2 * bs * q) (2 * bs * q + 2 * bs)
  todo : ∀ q, 2 * k ≤ q → bs * q < n → So K g (bs * q) (min (bs * q + bs) n)
theorem Prs.start {K : Nat → Nat} {bs n : Nat} {d g : Nat → Nat} (h : Seg 0 n d g) (hb : Bls K g bs n n) : Prs K bs n 0 d g := ⟨h, fun q hq => absurd hq (Nat.not_lt_zero _), fun q _ hq => hb q hq⟩
theorem two_mul_k (bs k : Nat) : 2 * bs * k = bs * (2 * k) := by rw [Nat.mul_comm 2 bs, Nat.mul_assoc]
theorem Prs.halves {K : Nat → Nat} {bs n k : Nat} {d g : Nat → Nat} (h : Prs K bs n k d g) (hb : 0 < bs) (hn : 2 * bs * k + bs < n) : So K g (2 * bs * k) (2 * bs * k + bs) ∧ So K g (2 * bs * k + bs) (min (2 * bs * k + 2 * bs) n) := by
  have h1 := h.todo (2 * k) (Nat.le_refl _) (by rw [← two_mul_k]; omega)
  have h2 := h.todo (2 * k + 1) (by omega) (by rw [Nat.mul_succ, ← two_mul_k]; omega)
  rw [Nat.mul_succ, ← two_mul_k] at h2
  rw [← two_mul_k] at h1
  rw [show min (2 * bs * k + bs) n = 2 * bs * k + bs from by omega] at h1
  rw [show 2 * bs * k + bs + bs = 2 * bs * k + 2 * bs from by omega] at h2
  exact ⟨h1, h2⟩
theorem Prs.step {K : Nat → Nat} {bs n k : Nat} {d g e : Nat → Nat} (h : Prs K bs n k d g) (hn : 2 * bs * k + 2 * bs ≤ n) (hs : Seg (2 * bs * k) (2 * bs * k + 2 * bs) g e) (ho : So K e (2 * bs * k) (2 * bs * k + 2 * bs)) : Prs K bs n (k + 1) d e := by
  refine ⟨h.sg.trans (hs.into (by omega) hn), fun q hq => ?_, fun q hq h1 => ?_⟩
  · rcases Nat.lt_or_ge q k with r | r
    · refine (h.done q r).off hs (.inl ?_)
      have := Nat.mul_le_mul (Nat.le_refl (2 * bs)) (show q + 1 ≤ k from r)
      rw [Nat.mul_succ] at this; omega
    · have e : q = k := by omega
      subst e; exact ho
  · refine (h.todo q (by omega) h1).off hs (.inr ?_)
    have := Nat.mul_le_mul (Nat.le_refl bs) (show 2 * k + 2 ≤ q by omega)
    rw [Nat.mul_add, ← two_mul_k] at this; omega
/-- no whole pair is left, and less than a block, too -/
theorem Prs.end_no {K : Nat → Nat} {bs n k : Nat} {d g : Nat → Nat} (h : Prs K bs n k d g) (hb : 0 < bs) (hn : n < 2 * bs * k + 2 * bs) (hm : n ≤ 2 * bs * k + bs) : Seg 0 n d g ∧ Bls K g (2 * bs) n n := by
  refine ⟨h.sg, fun q hq => ?_⟩
  rcases Nat.lt_or_ge q k with r | r
  · have := Nat.mul_le_mul (Nat.le_refl (2 * bs)) (show q + 1 ≤ k from r)
    rw [Nat.mul_succ] at this
    rcases Nat.lt_or_ge n (2 * bs * q + 2 * bs) with s | s
    · exact (h.done q r).cut (Nat.le_refl _) (by omega)
    · rw [show min (2 * bs * q + 2 * bs) n = 2 * bs * q + 2 * bs from by omega]; exact h.done q r
  · have e : q = k := by
      rcases Nat.lt_or_ge k q with s | s
      · have := Nat.mul_le_mul (Nat.le_refl (2 * bs)) (show k + 1 ≤ q from s)
        rw [Nat.mul_succ] at this; omega
      · omega
    subst e
    have h1 := h.todo (2 * q) (Nat.le_refl _) (by rw [← two_mul_k]; exact hq)
    rw [← two_mul_k] at h1
    exact h1.cut (Nat.le_refl _) (by omega)
/-- no whole pair is left, but more than a block -/
theorem Prs.end_yes {K : Nat → Nat} {bs n k : Nat} {d g e : Nat → Nat} (h : Prs K bs n k d g) (hb : 0 < bs) (hn : n < 2 * bs * k + 2 * bs) (hm : 2 * bs * k + bs < n) (hs : Seg (2 * bs * k) n g e) (ho : So K e (2 * bs * k) n) : Seg 0 n d e ∧ Bls K e (2 * bs) n n := by
  refine ⟨h.sg.trans (hs.into (by omega) (Nat.le_refl _)), fun q hq => ?_⟩
  rcases Nat.lt_or_ge q k with r | r
  · have := Nat.mul_le_mul (Nat.le_refl (2 * bs)) (show q + 1 ≤ k from r)
    rw [Nat.mul_succ] at this
    rw [show min (2 * bs * q + 2 * bs) n = 2 * bs * q + 2 * bs from by omega]
    exact (h.done q r).off hs (.inl (by omega))
  · have e : q = k := by
      rcases Nat.lt_or_ge k q with s | s
      · have := Nat.mul_le_mul (Nat.le_refl (2 * bs)) (show k + 1 ≤ q from s)
        rw [Nat.mul_succ] at this; omega
      · omega
    subst e
    rw [show min (2 * bs * q + 2 * bs) n = n from by omega]; exact ho
/-- a count kept in another one's words -/
theorem wm2 (bs : Nat) (h : bs ≤ 2000000) : IntKind.i64.wrap (2 * (bs : Int)) = ((2 * bs : Nat) : Int) := by rw [IntKind.wrap_i64]; omega
theorem wm2' (bs : Nat) (h : bs ≤ 2000000) : IntKind.i64.wrap ((bs : Int) * 2) = ((2 * bs : Nat) : Int) := by rw [IntKind.wrap_i64]; omega
section
variable (w : World) (R m c X : Nat) (K : Nat → Nat)
/-- a row is sorted whole -/
def StablePost (d : Nat → Nat) (w : World) (e : Ending) (w' : World) : Prop := SortPost K R m 0 m d w e w'
set_option maxRecDepth 100000 in
set_option maxHeartbeats 8000000 in
theorem stable_ (d : Nat → Nat) (h : Ro w R m d) (hc : CmpOk w R m X K) (hm : m ≤ 100000) : Calls Try.prog 55 #[.slice (some ⟨R, 0, none⟩) m c, .int .i64 (m : Int), .func (.func 51) #[] #[.pointer (some ⟨X, 0, none⟩)]] w (SortPost K R m 0 m d w) := by
  have HIN := Lib.hid (fun (w : World) (a b : Nat) (g : Nat → Nat) (h : Ro w R m g) (hc : CmpOk w R m X K) (hab : a ≤ b) (hb : b ≤ m) => insertion_ w R m c X K a b g h hc hab hb (by omega))
  have HME := Lib.hid (fun (w : World) (a q b : Nat) (g : Nat → Nat) (h : Ro w R m g) (hc : CmpOk w R m X K) (haq : a < q) (hqb : q < b) (hb : b ≤ m) (h1 : So K g a q) (h2 : So K g q b) => merge_ok R m c X K (by omega) (b - a + 1) w a q b g (by omega) h hc haq hqb hb h1 h2)
  have H0 := Lib.hid h
  have HC := Lib.hid hc
  have HM := Lib.hid hm
  clear h hc hm
  go_enter Try.func55, Try.ntmps55
  go_wp2_with fail
  go_loopw [7, 8] (fun av bv wr => ∃ (k x y : Nat) (g : Nat → Nat), av = .int .i64 (x : Int) ∧ bv = .int .i64 (y : Int) ∧ (x = 20 * k ∧ y = 20 * k + 20 ∧ x ≤ m) ∧ Keeps (· = R) w wr ∧ Ro wr R m g ∧ Fst K m (20 * k) d g) (fun av bv _ => m + 20 - (intOf bv).toNat)
  case atStart => exact ⟨0, 0, 20, d, rfl, rfl, ⟨rfl, rfl, Nat.zero_le _⟩, Keeps.refl _ _, H0.out, ⟨Seg.refl _ _ _, fun q hq => by omega⟩⟩
  case round =>
    clear H0
    obtain ⟨k, x, y, g, rfl, rfl, ⟨hx, hy, hkm⟩, hkk, hr, hf⟩ := hrel
    have HK := Lib.hid hkk
    have HR := Lib.hid hr
    have HF := Lib.hid hf
    have HX := Lib.hid (show x = 20 * k ∧ y = 20 * k + 20 ∧ x ≤ m ∧ m ≤ 100000 from ⟨hx, hy, by omega, HM.out⟩)
    rcases Nat.lt_or_ge m y with hlt | hlt
    · have hlt' : ¬ (y : Int) ≤ (m : Int) := by omega
      have HI := Lib.hid (HIN.out wr x m g hr (HC.out.on hkk) (by omega) (Nat.le_refl _))
      have HLT := Lib.hid hlt
      clear hkm hkk hr hf hx hy hlt
      go_wp2_with fail
      refine HI.out.mono ?_
      rintro e w1 ⟨rfl, k1, g1, r1, s1, o1⟩
      have fl := HF.out.last (by have := HX.out; omega) (by have := HX.out; have := HLT.out; omega) (by rw [← HX.out.1]; exact s1) (by rw [← HX.out.1]; exact o1)
      have V0 := Lib.hid (show Keeps (· = R) w w1 ∧ Ro w1 R m g1 ∧ Seg 0 m d g1 ∧ Bls K g1 20 m m from ⟨HK.out.trans k1, r1, fl.1, fl.2⟩)
      clear k1 r1 s1 o1 fl HI HF HR HK
      go_wp2_with fail
      go_loopw [6] (fun bv wr => ∃ (bs : Nat) (g : Nat → Nat), bv = .int .i64 (bs : Int) ∧ (0 < bs ∧ bs ≤ 200000) ∧ Keeps (· = R) w wr ∧ Ro wr R m g ∧ Seg 0 m d g ∧ Bls K g bs m m) (fun bv _ => m - (intOf bv).toNat)
      case atStart => exact ⟨20, g1, rfl, by omega, V0.out⟩
      case round =>
        clear V0
        obtain ⟨bs, g2, rfl, hbs, hkk, hr, hsg, hbl⟩ := hrel
        have HBS := Lib.hid hbs
        rcases Nat.lt_or_ge bs m with hbm | hbm
        · have hbm' : (bs : Int) < (m : Int) := by omega
          have HBM := Lib.hid hbm
          have V0 := Lib.hid (show Keeps (· = R) w wr ∧ Ro wr R m g2 ∧ Prs K bs m 0 d g2 from ⟨hkk, hr, Prs.start hsg hbl⟩)
          obtain ⟨z, hz⟩ : ∃ z, z = 2 * bs := ⟨_, rfl⟩
          have e1 := wm2 bs (by omega)
          have e2 := wm2' bs (by omega)
          rw [← hz] at e1 e2
          have HZ := Lib.hid (show z = 2 * bs ∧ 0 < bs ∧ bs < m ∧ m ≤ 100000 from ⟨hz, hbs.1, hbm, HM.out⟩)
          clear hbs hbm hkk hr hsg hbl hz
          go_wp2_with fail
          go_loopw [7, 8] (fun av bv wr => ∃ (k x y : Nat) (g : Nat → Nat), av = .int .i64 (x : Int) ∧ bv = .int .i64 (y : Int) ∧ (x = 2 * bs * k ∧ y = 2 * bs * k + 2 * bs ∧ x ≤ m) ∧ Keeps (· = R) w wr ∧ Ro wr R m g ∧ Prs K bs m k d g) (fun av bv _ => m + 2 * bs - (intOf bv).toNat)
          case atStart => exact ⟨0, 0, z, g2, rfl, rfl, ⟨rfl, by have := HZ.out; omega, Nat.zero_le _⟩, V0.out⟩
          case round =>
            clear V0
            obtain ⟨k2, a, b, g3, rfl, rfl, ⟨ha, hb, hkm⟩, hkk, hr, hp⟩ := hrel
            have HK := Lib.hid hkk
            have HR := Lib.hid hr
            have HP := Lib.hid hp
            obtain ⟨q, hq⟩ : ∃ y, y = a + bs := ⟨_, rfl⟩
            have HAB := Lib.hid (show a = 2 * bs * k2 ∧ b = 2 * bs * k2 + 2 * bs ∧ b = a + z ∧ q = a + bs ∧ a ≤ m from ⟨ha, hb, by have := HZ.out; omega, hq, by omega⟩)
            have G1 := Lib.hid (wadd a bs q hq.symm (by have := HZ.out; omega))
            rcases Nat.lt_or_ge m b with hlt | hlt
            · have hlt' : ¬ (b : Int) ≤ (m : Int) := by omega
              have HL2 := Lib.hid hlt
              rcases Nat.lt_or_ge q m with hqm | hqm
              · have hqm' : (q : Int) < (m : Int) := by omega
                have hv := hp.halves HZ.out.2.1 (by have := HAB.out; omega)
                rw [show min (2 * bs * k2 + 2 * bs) m = m from by have := HAB.out; omega, ← ha, ← hq] at hv
                have HI := Lib.hid (HME.out wr a q m g3 hr (HC.out.on hkk) (by have := HZ.out; omega) hqm (Nat.le_refl _) hv.1 hv.2)
                have HQM := Lib.hid hqm
                clear hkm hkk hr hp ha hb hq hlt hqm hv
                have g1 := G1.out
                go_wp2_with fail
                refine HI.out.mono ?_
                rintro e w5 ⟨rfl, k5, g5, r5, s5, o5⟩
                have ee := HP.out.end_yes HZ.out.2.1 (by have := HAB.out; have := HL2.out; omega) (by have := HAB.out; have := HQM.out; omega) (by rw [← HAB.out.1]; exact s5) (by rw [← HAB.out.1]; exact o5)
                rw [← HZ.out.1] at ee
                have V5 := Lib.hid (show Keeps (· = R) w w5 ∧ Ro w5 R m g5 ∧ Seg 0 m d g5 ∧ Bls K g5 z m m from ⟨HK.out.trans k5, r5, ee.1, ee.2⟩)
                clear k5 r5 s5 o5 ee g1 HI
                go_wp2
                go_roundw
                case rel => exact ⟨z, g5, by first | rfl | rw [e2], by have := HZ.out; omega, V5.out⟩
                case measure => have := HZ.out; first | (simp only [intOf]; omega) | (rw [e2]; simp only [intOf]; omega)
              · have hqm' : ¬ (q : Int) < (m : Int) := by omega
                have ee := hp.end_no HZ.out.2.1 (by have := HAB.out; omega) (by have := HAB.out; omega)
                rw [← HZ.out.1] at ee
                have V5 := Lib.hid (show Keeps (· = R) w wr ∧ Ro wr R m g3 ∧ Seg 0 m d g3 ∧ Bls K g3 z m m from ⟨hkk, hr, ee.1, ee.2⟩)
                clear hkm hkk hr hp ha hb hq hlt hqm ee
                have g1 := G1.out
                go_wp2
                go_roundw
                case rel => exact ⟨z, g3, by first | rfl | rw [e2], by have := HZ.out; omega, V5.out⟩
                case measure => have := HZ.out; first | (simp only [intOf]; omega) | (rw [e2]; simp only [intOf]; omega)
            · have hlt' : (b : Int) ≤ (m : Int) := by omega
              have hv := hp.halves HZ.out.2.1 (by have := HAB.out; have := HZ.out; omega)
              rw [show min (2 * bs * k2 + 2 * bs) m = b from by have := HAB.out; omega, ← ha, ← hq] at hv
              have HI := Lib.hid (HME.out wr a q b g3 hr (HC.out.on hkk) (by have := HZ.out; omega) (by have := HZ.out; have := HAB.out; omega) hlt hv.1 hv.2)
              have HL2 := Lib.hid hlt
              obtain ⟨b2, hb2⟩ : ∃ x, x = b + z := ⟨_, rfl⟩
              have G2 := Lib.hid (wadd b z b2 hb2.symm (by have := HZ.out; omega))
              have HB2 := Lib.hid hb2
              clear hkm hkk hr hp ha hb hq hlt hv hb2
              have g1 := G1.out
              go_wp2_with fail
              refine HI.out.mono ?_
              rintro e w5 ⟨rfl, k5, g5, r5, s5, o5⟩
              have ee := HP.out.step (by have := HAB.out; have := HL2.out; omega) (by rw [← HAB.out.2.1, ← HAB.out.1]; exact s5) (by rw [← HAB.out.2.1, ← HAB.out.1]; exact o5)
              have V5 := Lib.hid (show Keeps (· = R) w w5 ∧ Ro w5 R m g5 ∧ Prs K bs m (k2 + 1) d g5 from ⟨HK.out.trans k5, r5, ee⟩)
              clear k5 r5 s5 o5 ee g1 HI
              have g2 := G2.out
              go_wp2
              go_roundw
              case rel =>
                have hm1 : 2 * bs * (k2 + 1) = b := by rw [Nat.mul_succ]; exact HAB.out.2.1.symm
                have hm2 : b + 2 * bs = b2 := by rw [HB2.out, HZ.out.1]
                exact ⟨k2 + 1, b, b2, g5, rfl, by first | rfl | rw [g2], ⟨hm1.symm, by rw [hm1]; exact hm2.symm, HL2.out⟩, V5.out⟩
              case measure =>
                have h1 := HL2.out
                have h2 := HB2.out
                have h3 := HZ.out
                first | (simp only [intOf]; omega) | (rw [g2]; simp only [intOf]; omega)
        · have hbm' : ¬ (bs : Int) < (m : Int) := by omega
          have HP := Lib.hid (show Keeps (· = R) w wr ∧ ∃ g, Ro wr R m g ∧ Seg 0 m d g ∧ So K g 0 m from ⟨hkk, g2, hr, hsg, hbl.all hbm⟩)
          clear hbs hbm hkk hr hsg hbl
          go_wp2
          go_end0
          exact ⟨rfl, HP.out⟩
    · have hlt' : (y : Int) ≤ (m : Int) := by omega
      have HI := Lib.hid (HIN.out wr x y g hr (HC.out.on hkk) (by omega) hlt)
      have HLT := Lib.hid hlt
      obtain ⟨y2, hy2⟩ : ∃ x, x = y + 20 := ⟨_, rfl⟩
      have G2 := Lib.hid (wadd y 20 y2 hy2.symm (by have := HX.out; omega))
      have HY2 := Lib.hid hy2
      clear hkm hkk hr hf hx hy hlt hy2
      go_wp2_with fail
      refine HI.out.mono ?_
      rintro e w1 ⟨rfl, k1, g1, r1, s1, o1⟩
      have fl := HF.out.step (by have := HX.out; have := HLT.out; omega) (by rw [← HX.out.2.1, ← HX.out.1]; exact s1) (by rw [← HX.out.2.1, ← HX.out.1]; exact o1)
      have V1 := Lib.hid (show Keeps (· = R) w w1 ∧ Ro w1 R m g1 ∧ Fst K m (20 * (k + 1)) d g1 from ⟨HK.out.trans k1, r1, fl⟩)
      clear k1 r1 s1 o1 fl HI
      have g2 := G2.out
      rw [show ((20 : Nat) : Int) = 20 from rfl] at g2
      go_wp2
      go_roundw
      case rel =>
        have hm1 : 20 * (k + 1) = y := by have := HX.out; omega
        exact ⟨k + 1, y, y2, g1, rfl, by first | rfl | rw [g2], ⟨hm1.symm, by rw [hm1]; exact HY2.out, HLT.out⟩, V1.out⟩
      case measure =>
        have h1 := HLT.out
        have h2 := HY2.out
        have h3 := HX.out
        first | (simp only [intOf]; omega) | (rw [g2]; simp only [intOf]; omega)
set_option maxRecDepth 100000 in
set_option maxHeartbeats 1000000 in
theorem sortStable_ (d : Nat → Nat) (h : Ro w R m d) (hc : CmpOk w R m X K) (hm : m ≤ 100000) : Calls Try.prog 50 #[.slice (some ⟨R, 0, none⟩) m c, .func (.func 51) #[] #[.pointer (some ⟨X, 0, none⟩)]] w (SortPost K R m 0 m d w) := by
  have HS := Lib.hid (stable_ w R m c X K d h hc hm)
  clear h hc hm
  go_enter Try.func50, Try.ntmps50
  go_wp2_with fail
  refine HS.out.mono ?_
  rintro e w1 ⟨rfl, hp⟩
  have HP := Lib.hid hp
  clear hp HS
  go_wp2
  go_end0
  exact ⟨rfl, HP.out⟩
end
end Go.Proofs.Ytbiadglhfpapaaa.ss
