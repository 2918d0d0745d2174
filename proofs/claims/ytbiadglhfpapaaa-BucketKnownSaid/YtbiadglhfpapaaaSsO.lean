/-
  symMerge: the main case; symMerge whole.
-/
import Derived.Test.YtbiadglhfpapaaaSsN
set_option linter.unusedVariables false
namespace Go.Proofs.Ytbiadglhfpapaaa.ss
open Go.RowKit Go.Proofs.Ytbiadglhfpapaaa.oc Go.Proofs.Ytbiadglhfpapaaa.mz Go.Proofs.Ytbiadglhfpapaaa.bk
theorem rot_triv {s q ed : Nat} (d : Nat → Nat) (h : s = q ∨ ed = q) (h1 : s ≤ q) (h2 : q ≤ ed) : rot s q ed d = d := by
  funext t
  unfold rot
  by_cases c1 : s ≤ t ∧ t < s + (ed - q)
  · rw [if_pos c1]
    rcases h with h | h
    · subst h; rw [Nat.sub_self, Nat.add_zero]
    · omega
  · rw [if_neg c1]
    by_cases c2 : s + (ed - q) ≤ t ∧ t < ed
    · rw [if_pos c2]
      rcases h with h | h
      · omega
      · subst h; rw [Nat.sub_self, Nat.sub_zero]
    · rw [if_neg c2]
theorem wadd (a b c : Nat) (h : a + b = c) (hc : c ≤ 4000000) : IntKind.i64.wrap ((a : Int) + (b : Int)) = (c : Int) := by rw [IntKind.wrap_i64]; omega
theorem wsub (a b c : Nat) (h : c + b = a) (ha : a ≤ 4000000) : IntKind.i64.wrap ((a : Int) - (b : Int)) = (c : Int) := by rw [IntKind.wrap_i64]; omega
theorem wsub1 (a c : Nat) (h : c + 1 = a) (ha : a ≤ 4000000) : IntKind.i64.wrap ((a : Int) - 1) = (c : Int) := by rw [IntKind.wrap_i64]; omega
theorem whalf (s y : Nat) (h : y = s / 2) (hs : s ≤ 4000000) : IntKind.u64.wrap (s : Int) = (s : Int) ∧ wrap64 ((s : Int) / 2) = (y : Int) := by
  refine ⟨by rw [IntKind.wrap_u64]; omega, by unfold wrap64; omega⟩
/-- behind the first half's merge -/
structure Six (K : Nat → Nat) (a mid ed b : Nat) (d g : Nat → Nat) : Prop where
  sg : Seg a b d g
  lo : So K g a mid
  m1 : So K g mid ed
  m2 : So K g ed b
  ord : ∀ x y, a ≤ x → x < mid → mid ≤ y → y < b → K (g x) ≤ K (g y)
theorem six_no {K d : Nat → Nat} {a q b mid s ed : Nat} (c : Cut K d a q b mid s) (ham : a < q) (hmb : q < b) (h1 : So K d a q) (h2 : So K d q b) (hed : ed = mid + q - s) (hsg : Seg a b d (rot s q ed d)) (hno : ¬ (a < s ∧ s < mid)) : Six K a mid ed b d (rot s q ed d) := by
  subst hed
  obtain ⟨r1, r2, r3, r4, r5⟩ := c.rot_ ham hmb h1 h2
  have := c.as
  have := c.sd
  refine ⟨hsg, ?_, r3, r4, r5⟩
  by_cases ha : a < s
  · rw [show mid = s by omega] at r1 ⊢; exact r1
  · have e : s = a := by omega
    subst e; exact r2
theorem six_yes {K d g : Nat → Nat} {a q b mid s ed : Nat} (c : Cut K d a q b mid s) (ham : a < q) (hmb : q < b) (h1 : So K d a q) (h2 : So K d q b) (hed : ed = mid + q - s) (hsg : Seg a b d (rot s q ed d)) (hs : Seg a mid (rot s q ed d) g) (hso : So K g a mid) : Six K a mid ed b d g := by
  subst hed
  obtain ⟨r1, r2, r3, r4, r5⟩ := c.rot_ ham hmb h1 h2
  have := c.sm
  exact ⟨hsg.trans (hs.wide (Nat.le_refl _) c.md.1 c.md.2), hso, r3.congr (fun t h _ => hs.out t (.inr h)), r4.congr (fun t h _ => hs.out t (.inr (by omega))), halves hs hso r5⟩
theorem fin_no {K d g : Nat → Nat} {a mid ed b : Nat} (h : Six K a mid ed b d g) (hno : ed = mid ∨ ed = b) : Seg a b d g ∧ So K g a b := by
  refine ⟨h.sg, h.lo.join ?_ h.ord⟩
  rcases hno with e | e
  · have := h.m2; rw [e] at this; exact this
  · have := h.m1; rw [e] at this; exact this
theorem fin_yes {K d g e : Nat → Nat} {a mid ed b : Nat} (h : Six K a mid ed b d g) (ham : a ≤ mid) (hmb : mid ≤ b) (hs : Seg mid b g e) (hso : So K e mid b) : Seg a b d e ∧ So K e a b :=
  ⟨h.sg.trans (hs.wide ham hmb (Nat.le_refl _)), (h.lo.congr (fun t _ h2 => hs.out t (.inl h2))).join hso (halves2 hs h.ord)⟩
/-- symMerge of shorter stretches -/
def MergeOk (R m c X : Nat) (K : Nat → Nat) (N : Nat) : Prop := ∀ (w : World) (a q b : Nat) (d : Nat → Nat), b - a < N → Ro w R m d → CmpOk w R m X K → a < q → q < b → b ≤ m → So K d a q → So K d q b → Calls Try.prog 58 #[.slice (some ⟨R, 0, none⟩) m c, .int .i64 (a : Int), .int .i64 (q : Int), .int .i64 (b : Int), .func (.func 51) #[] #[.pointer (some ⟨X, 0, none⟩)]] w (SortPost K R m a b d w)
/-- what the walk of the halves knows -/
structure Bnd (a q b m mid n p s0 r0 : Nat) : Prop where
  a0 : a ≤ s0
  s0r : s0 ≤ r0
  rq : r0 ≤ q
  rm : r0 ≤ mid
  nb : n ≤ b + s0
  s0e : s0 = a ∨ n = b + s0
  r0e : r0 = q ∨ r0 = mid
  ne : n = mid + q
  pe : p + 1 = n
  m1 : 2 * mid ≤ a + b
  m2 : a + b ≤ 2 * mid + 1
  aq : a + 1 < q
  qb : q + 1 < b
  bm : b ≤ m
  mm : m ≤ 1000000
  nm : n ≤ 2000000
theorem bnd_ex (a q b m mid n p sab : Nat) (haq : a + 1 < q) (hqb : q + 1 < b) (hb : b ≤ m) (hm : m ≤ 1000000) (hsab : sab = a + b) (hmid : mid = sab / 2) (hn : n = mid + q) (hp : p + 1 = n) : ∃ s0 r0, Bnd a q b m mid n p s0 r0 ∧ ((mid < q ∧ s0 = n - b ∧ r0 = mid) ∨ (q ≤ mid ∧ s0 = a ∧ r0 = q)) := by
  have m1 : 2 * mid ≤ a + b := by omega
  have m2 : a + b ≤ 2 * mid + 1 := by omega
  clear hmid hsab
  rcases Nat.lt_or_ge mid q with hcq | hcq
  · have e : n = b + (n - b) ∨ n ≤ b := by omega
    rcases Nat.lt_or_ge n b with hnb | hnb
    · exfalso; omega
    · obtain ⟨s0, hs0⟩ : ∃ s0, n = b + s0 := ⟨n - b, by omega⟩
      exact ⟨s0, mid, ⟨by omega, by omega, by omega, by omega, by omega, .inr hs0, .inr rfl, hn, hp, m1, m2, haq, hqb, hb, hm, by omega⟩, .inl ⟨hcq, by omega, rfl⟩⟩
  · exact ⟨a, q, ⟨by omega, by omega, by omega, hcq, by omega, .inl rfl, .inl rfl, hn, hp, m1, m2, haq, hqb, hb, hm, by omega⟩, .inr ⟨hcq, rfl, rfl⟩⟩
section
variable (w : World) (R m c X : Nat) (K : Nat → Nat)
set_option maxRecDepth 100000 in
set_option maxHeartbeats 16000000 in
theorem merge_mid (a q b : Nat) (d : Nat → Nat) (h : Ro w R m d) (hc : CmpOk w R m X K) (haq : a + 1 < q) (hqb : q + 1 < b) (hb : b ≤ m) (hm : m ≤ 1000000) (h1 : So K d a q) (h2 : So K d q b) (IH : MergeOk R m c X K (b - a)) : Calls Try.prog 58 #[.slice (some ⟨R, 0, none⟩) m c, .int .i64 (a : Int), .int .i64 (q : Int), .int .i64 (b : Int), .func (.func 51) #[] #[.pointer (some ⟨X, 0, none⟩)]] w (SortPost K R m a b d w) := by
  obtain ⟨v, hv⟩ : ∃ v, v = q - a := ⟨_, rfl⟩
  obtain ⟨u, hu⟩ : ∃ u, u = b - q := ⟨_, rfl⟩
  obtain ⟨sab, hsab⟩ : ∃ x, x = a + b := ⟨_, rfl⟩
  obtain ⟨mid, hmid⟩ : ∃ x, x = sab / 2 := ⟨_, rfl⟩
  obtain ⟨n, hn⟩ : ∃ x, x = mid + q := ⟨_, rfl⟩
  obtain ⟨p, hp⟩ : ∃ x, x + 1 = n := ⟨n - 1, by omega⟩
  have hbig : q ≤ 4000000 ∧ b ≤ 4000000 ∧ sab ≤ 4000000 ∧ n ≤ 4000000 := by omega
  have v1 : ((v : Int) == 1) = false := by simp; omega
  have v2 : ¬ (v : Int) = 1 := by omega
  have u1 : ((u : Int) == 1) = false := by simp; omega
  have u2 : ¬ (u : Int) = 1 := by omega
  have GG := Lib.hid (And.intro (wsub q a v (by omega) hbig.1) (And.intro (wsub b q u (by omega) hbig.2.1) (And.intro (wadd a b sab hsab.symm hbig.2.2.1) (And.intro (whalf sab mid hmid hbig.2.2.1) (And.intro (wadd mid q n hn.symm hbig.2.2.2) (wsub1 n p hp hbig.2.2.2))))))
  have H0 := Lib.hid h
  have HC := Lib.hid hc
  have H1 := Lib.hid h1
  have H2 := Lib.hid h2
  have HIH := Lib.hid IH
  obtain ⟨s0, r0, hb0, hcase⟩ := bnd_ex a q b m mid n p sab haq hqb hb hm hsab hmid hn hp
  have HB := Lib.hid hb0
  clear h hc h1 h2 IH hv hu hsab hmid hn hp hb0 hbig
  rcases hcase with ⟨hcq, hs0, hr0⟩ | ⟨hcq, hs0, hr0⟩
  · have qm : (mid : Int) < (q : Int) := by omega
    have G9 := Lib.hid (wsub n b s0 (by have h1 := HB.out.nb; have h2 := HB.out.ne; have h3 := HB.out.m1; have h4 := HB.out.m2; have h5 := HB.out.aq; omega) (by have h1 := HB.out.ne; have h2 := HB.out.m1; have h3 := HB.out.mm; have h4 := HB.out.bm; have h5 := HB.out.qb; have h6 := HB.out.aq; omega))
    have HR0 := Lib.hid hr0
    have HS0 := Lib.hid hs0
    clear haq hqb hb hm hcq hr0 hs0
    obtain ⟨g1, g2, g3, ⟨g4, g6⟩, g7, g8⟩ := GG.out
    have g9 := G9.out
    go_enter Try.func58, Try.ntmps58
    go_wp2_with fail
    try rw [g6]
    clear g1 g2 v1 v2 u1 u2 g3 g4 g6 g7 g8 GG
    clear g9 G9
    have hr0 := HR0.out
    have hs0 := HS0.out
    go_loopw [20, 21] (fun sv rv wr => ∃ s r : Nat, sv = .int .i64 (s : Int) ∧ rv = .int .i64 (r : Int) ∧ (s0 ≤ s ∧ s ≤ r ∧ r ≤ r0) ∧ Keeps (· = R) w wr ∧ Ro wr R m d ∧ (∀ t, s0 ≤ t → t < s → K (d t) ≤ K (d (p - t))) ∧ (∀ t, r ≤ t → t < r0 → K (d (p - t)) < K (d t))) (fun sv rv _ => (intOf rv - intOf sv).toNat)
    case atStart => exact ⟨s0, r0, rfl, by rw [hr0], ⟨Nat.le_refl _, HB.out.s0r, Nat.le_refl _⟩, Keeps.refl _ _, H0.out, fun t h1 h2 => by omega, fun t h1 h2 => by omega⟩
    case round =>
      clear H0 hr0 hs0 HR0 HS0
      obtain ⟨s, r, rfl, rfl, hsr, hkk, hr, hlo, hhi⟩ := hrel
      have HSR := Lib.hid hsr
      have HK := Lib.hid hkk
      have HR := Lib.hid hr
      have HLO := Lib.hid hlo
      have HHI := Lib.hid hhi
      rcases Nat.lt_or_ge s r with hlt | hlt
      · have hlt' : (s : Int) < (r : Int) := by omega
        obtain ⟨x, hx⟩ : ∃ x, x = s + r := ⟨_, rfl⟩
        obtain ⟨y, hy⟩ : ∃ y, y = x / 2 := ⟨_, rfl⟩
        obtain ⟨z, hz⟩ : ∃ z, z = p - y := ⟨_, rfl⟩
        have HY := Lib.hid (show (s ≤ y ∧ y < r) ∧ (y < m ∧ z < m) ∧ (a ≤ y ∧ y < q) ∧ (q ≤ z ∧ z < b) ∧ z = p - y ∧ x < 2000000 ∧ x = s + r ∧ y = x / 2 from by
          have h1 := HB.out.a0; have h2 := HB.out.rq; have h3 := HB.out.rm; have h4 := HB.out.nb; have h5 := HB.out.ne; have h6 := HB.out.pe; have h7 := HB.out.bm; have h8 := HB.out.mm
          omega)
        clear hx hy hz
        have hx2 : x ≤ 4000000 := by have h1 := HY.out.2.2.2.2.2.1; omega
        have GX := Lib.hid (And.intro (wadd s r x HY.out.2.2.2.2.2.2.1.symm hx2) (And.intro (whalf x y HY.out.2.2.2.2.2.2.2 hx2) (wsub p y z (by have h1 := HY.out; have h2 := HB.out.ne; have h3 := HB.out.pe; have h4 := HB.out.rq; have h5 := HB.out.rm; omega) (by have h1 := HB.out.nm; have h2 := HB.out.pe; omega))))
        clear hx2
        have WY := Lib.hid (wrap_inc y (Nat.lt_of_lt_of_le HY.out.2.1.1 HB.out.mm))
        have y0 : (0 : Int) ≤ (y : Int) := by omega
        have z0 : (0 : Int) ≤ (z : Int) := by omega
        have y1 : (y : Int) < (m : Int) := by have := HY.out.2.1; omega
        have z1 : (z : Int) < (m : Int) := by have := HY.out.2.1; omega
        have cy := hr.cell y HY.out.2.1.1
        have ca := hr.cell z HY.out.2.1.2
        have HCC := fun W (hk : Keeps (· = R) w W) => Lib.hid (HC.out W (d z) (d y) hk (hr.lt z HY.out.2.1.2) (hr.lt y HY.out.2.1.1))
        clear hsr hkk hr hlo hhi hlt
        by_cases hcc : K (d z) < K (d y)
        · have qz : cmpv (K (d z)) (K (d y)) < 0 := (cmpv_neg _ _).2 hcc
          have HCL := Lib.hid hcc
          clear hcc
          generalize cmpv (K (d z)) (K (d y)) = cz at *
          have qd : decide (cz < 0) = true := decide_eq_true qz
          obtain ⟨dy, hdy⟩ : ∃ x, x = d y := ⟨_, rfl⟩
          obtain ⟨da, hda⟩ : ∃ x, x = d z := ⟨_, rfl⟩
          rw [← hdy, ← hda] at HCC
          rw [← hdy] at cy
          rw [← hda] at ca
          clear hdy hda
          obtain ⟨g1, ⟨g2, g4⟩, g5⟩ := GX.out
          have wy := WY.out
          go_wp2_with fail
          go_region_held3 (fun w' => w'.cell? ⟨R, y, none⟩ = some (.int .i64 (dy : Int)) ∧ w'.cell? ⟨R, z, none⟩ = some (.int .i64 (da : Int)))
            (first | exact ⟨cy, ca⟩ | exact ⟨z0, z1⟩)
            ((first
              | (go_at_call 51; refine (HCC _ (Keeps.drew HK.out)).out.mono ?_; rintro e w3 ⟨rfl, k3⟩; have z0 := Keeps.cell (k3 (fun _ => False)) (show wr.drew.cell? _ = _ from cy) (fun z => z); have z1 := Keeps.cell (k3 (fun _ => False)) (show wr.drew.cell? _ = _ from ca) (fun z => z); have K3 : Hid (∀ S, Keeps S wr w3) := Lib.hid (fun S => Keeps.trans (Keeps.refl S wr).drew (k3 S)); clear k3)))
          have R3 := Lib.hid (HR.out.keeps (K3.out (fun _ => False)) (fun z => z))
          have K4 := Lib.hid (HK.out.trans (K3.out _))
          clear z0 z1 cy ca K3 HK HR HCC g1 g2 g4 g5
          go_wp2
          go_roundw
          clear wy
          case rel => exact ⟨s, y, rfl, by first | rfl | go_num, by have := HSR.out; have := HY.out.1; omega, K4.out, R3.out, HLO.out, fun t h1 h2 => by
            have h3 := HB.out.a0; have h4 := HB.out.rq; have h5 := HB.out.rm; have h6 := HB.out.nb; have h7 := HB.out.ne; have h8 := HB.out.pe
            have h9 := HSR.out; have h10 := HY.out
            have e1 := H1.out y t (by omega) h1 (by omega)
            have e2 := H2.out (p - t) z (by omega) (by omega) (by omega)
            have e3 := HCL.out
            omega⟩
          case measure => have := HY.out.1; simp only [intOf]; omega
        · have qz : ¬ cmpv (K (d z)) (K (d y)) < 0 := fun h => hcc ((cmpv_neg _ _).1 h)
          have HCL := Lib.hid hcc
          clear hcc
          generalize cmpv (K (d z)) (K (d y)) = cz at *
          have qd : decide (cz < 0) = false := decide_eq_false qz
          obtain ⟨dy, hdy⟩ : ∃ x, x = d y := ⟨_, rfl⟩
          obtain ⟨da, hda⟩ : ∃ x, x = d z := ⟨_, rfl⟩
          rw [← hdy, ← hda] at HCC
          rw [← hdy] at cy
          rw [← hda] at ca
          clear hdy hda
          obtain ⟨g1, ⟨g2, g4⟩, g5⟩ := GX.out
          have wy := WY.out
          go_wp2_with fail
          go_region_held3 (fun w' => w'.cell? ⟨R, y, none⟩ = some (.int .i64 (dy : Int)) ∧ w'.cell? ⟨R, z, none⟩ = some (.int .i64 (da : Int)))
            (first | exact ⟨cy, ca⟩ | exact ⟨z0, z1⟩)
            ((first
              | (go_at_call 51; refine (HCC _ (Keeps.drew HK.out)).out.mono ?_; rintro e w3 ⟨rfl, k3⟩; have z0 := Keeps.cell (k3 (fun _ => False)) (show wr.drew.cell? _ = _ from cy) (fun z => z); have z1 := Keeps.cell (k3 (fun _ => False)) (show wr.drew.cell? _ = _ from ca) (fun z => z); have K3 : Hid (∀ S, Keeps S wr w3) := Lib.hid (fun S => Keeps.trans (Keeps.refl S wr).drew (k3 S)); clear k3)))
          have R3 := Lib.hid (HR.out.keeps (K3.out (fun _ => False)) (fun z => z))
          have K4 := Lib.hid (HK.out.trans (K3.out _))
          clear z0 z1 cy ca K3 HK HR HCC g1 g2 g4 g5
          go_wp2
          go_roundw
          clear wy
          case rel => exact ⟨y + 1, r, by first | rfl | go_num, rfl, by have := HSR.out; have := HY.out.1; omega, K4.out, R3.out, fun t h1 h2 => by
            have h3 := HB.out.a0; have h4 := HB.out.rq; have h5 := HB.out.rm; have h6 := HB.out.nb; have h7 := HB.out.ne; have h8 := HB.out.pe
            have h9 := HSR.out; have h10 := HY.out
            have e1 := H1.out t y (by omega) (by omega) (by omega)
            have e2 := H2.out z (p - t) (by omega) (by omega) (by omega)
            have e3 := HCL.out
            omega, HHI.out⟩
          case measure => have := HY.out.1; simp only [intOf]; omega
      · have hlt' : ¬ (s : Int) < (r : Int) := by omega
        have hsre : s = r := by omega
        obtain ⟨ed, hed⟩ : ∃ x, x = mid + q - s := ⟨_, rfl⟩
        have hcut : Cut K d a q b mid s := by
          have h3 := HB.out.a0; have h4 := HB.out.rq; have h5 := HB.out.rm; have h6 := HB.out.nb; have h7 := HB.out.ne; have h8 := HB.out.pe; have h9 := HB.out.aq; have h10 := HB.out.qb; have h11 := HB.out.m1; have h12 := HB.out.m2
          refine ⟨by omega, by omega, by omega, by omega, by omega, fun i1 i2 => ?_, fun i1 i2 => ?_⟩
          · have i3 := hlo (s - 1) (by have := HB.out.s0e; omega) (by omega)
            rw [show p - (s - 1) = mid + q - s by omega] at i3
            exact i3
          · have i3 := hhi s (by omega) (by have := HB.out.r0e; omega)
            rw [show p - s = mid + q - s - 1 by omega] at i3
            exact i3
        have HED := Lib.hid (show ed = mid + q - s ∧ (a ≤ s ∧ s ≤ q ∧ s ≤ mid ∧ ed ≤ b ∧ q ≤ ed ∧ mid ≤ ed) ∧ ed ≤ m ∧ mid ≤ m from by
          have h1 := hcut.as; have h2 := hcut.sm; have h3 := hcut.sd; have h4 := hcut.eb; have h5 := HB.out.bm; have h6 := hcut.md
          omega)
        have G1 := Lib.hid (wsub n s ed (by have h1 := HED.out; have h2 := HB.out.ne; omega) (by have h1 := HB.out.nm; omega))
        have HCU := Lib.hid hcut
        have HRC := Lib.hid (fun (i1 : s < q) (i2 : q < ed) => rotate_ wr R m c (.func (.func 51) #[] #[.pointer (some ⟨X, 0, none⟩)]) s q ed d hr i1 i2 HED.out.2.2.1 HB.out.mm)
        have HQ := Lib.hid (show a < q ∧ q < b from by have := HB.out.aq; have := HB.out.qb; omega)
        have hlen : mid - a < b - a ∧ b - mid < b - a := by have h1 := HB.out.m1; have h2 := HB.out.m2; have h3 := HB.out.aq; have h4 := HB.out.qb; omega
        have HLEN := Lib.hid hlen
        clear hsr hkk hlo hhi hlt hsre hed hcut hr hlen HSR HLO HHI
        by_cases hP : s < q
        · by_cases hQ : s < mid
          · by_cases hA : a < s
            · by_cases hB : ed < b
              · have p1 : (s : Int) < (q : Int) := by omega
                have p2 : (mid : Int) < (ed : Int) := by have := HED.out; omega
                have q1 : (q : Int) < (ed : Int) := by have := HED.out; omega
                have q2 : (s : Int) < (mid : Int) := by omega
                have a1 : (a : Int) < (s : Int) := by omega
                have b1 : (ed : Int) < (b : Int) := by omega
                have HF := Lib.hid (And.intro hP (And.intro hQ (And.intro hA hB)))
                clear hP hQ hA hB
                have RC := Lib.hid (HRC.out HF.out.1 (by have := HED.out; have := HF.out; omega))
                have g1 := G1.out
                go_wp2_with fail
                clear g1
                refine RC.out.mono ?_
                rintro e5 w5 ⟨rfl, k5, r5, s5⟩
                have S5 := Lib.hid (show Keeps (· = R) w w5 ∧ Ro w5 R m (rot s q ed d) ∧ Seg a b d (rot s q ed d) from ⟨HK.out.trans k5, r5, s5.wide HED.out.2.1.1 (by have := HED.out; omega) HED.out.2.1.2.2.2.1⟩)
                clear k5 r5 s5 RC
                clear HRC HK HR
                obtain ⟨g0, hg0⟩ : ∃ x, x = rot s q ed d := ⟨_, rfl⟩
                have rr := HCU.out.rot_ HQ.out.1 HQ.out.2 H1.out H2.out
                rw [← HED.out.1, ← hg0] at rr
                have RM := Lib.hid (HIH.out w5 a s mid g0 HLEN.out.1 (by rw [hg0]; exact S5.out.2.1) (HC.out.on S5.out.1) HF.out.2.2.1 HF.out.2.1 HED.out.2.2.2 rr.1 rr.2.1)
                have HG := Lib.hid hg0
                clear rr hg0
                have g1 := G1.out
                go_wp2_with fail
                clear g1
                refine RM.out.mono ?_
                rintro e6 w6 ⟨rfl, k6, g6, r6, s6, o6⟩
                have S6 := Lib.hid (show Keeps (· = R) w w6 ∧ Ro w6 R m g6 ∧ Six K a mid ed b d g6 from ⟨S5.out.1.trans k6, r6, six_yes HCU.out HQ.out.1 HQ.out.2 H1.out H2.out HED.out.1 S5.out.2.2 (by rw [← HG.out]; exact s6) o6⟩)
                clear k6 r6 s6 o6 RM HG
                clear S5 H1 H2
                have RM := Lib.hid (HIH.out w6 mid ed b g6 HLEN.out.2 S6.out.2.1 (HC.out.on S6.out.1) (by have := HED.out; have := HF.out; omega) HF.out.2.2.2 HB.out.bm S6.out.2.2.m1 S6.out.2.2.m2)
                have g1 := G1.out
                go_wp2_with fail
                clear g1
                refine RM.out.mono ?_
                rintro e7 w7 ⟨rfl, k7, g7, r7, s7, o7⟩
                have ff := fin_yes S6.out.2.2 HCU.out.md.1 HCU.out.md.2 s7 o7
                have S7 := Lib.hid (show Keeps (· = R) w w7 ∧ ∃ g, Ro w7 R m g ∧ Seg a b d g ∧ So K g a b from ⟨S6.out.1.trans k7, g7, r7, ff.1, ff.2⟩)
                clear k7 r7 s7 o7 ff RM
                clear S6
                have g1 := G1.out
                go_wp2
                all_goals (first | go_end0 | ((try simp only [Exit.inBlock, Exit.then]); refine bodyPost_ret (results_none rfl _ _ _) rfl ?_))
                all_goals exact ⟨rfl, S7.out⟩
              · have p1 : (s : Int) < (q : Int) := by omega
                have p2 : (mid : Int) < (ed : Int) := by have := HED.out; omega
                have q1 : (q : Int) < (ed : Int) := by have := HED.out; omega
                have q2 : (s : Int) < (mid : Int) := by omega
                have a1 : (a : Int) < (s : Int) := by omega
                have b1 : ¬ (ed : Int) < (b : Int) := by omega
                have HF := Lib.hid (And.intro hP (And.intro hQ (And.intro hA hB)))
                clear hP hQ hA hB
                have RC := Lib.hid (HRC.out HF.out.1 (by have := HED.out; have := HF.out; omega))
                have g1 := G1.out
                go_wp2_with fail
                clear g1
                refine RC.out.mono ?_
                rintro e5 w5 ⟨rfl, k5, r5, s5⟩
                have S5 := Lib.hid (show Keeps (· = R) w w5 ∧ Ro w5 R m (rot s q ed d) ∧ Seg a b d (rot s q ed d) from ⟨HK.out.trans k5, r5, s5.wide HED.out.2.1.1 (by have := HED.out; omega) HED.out.2.1.2.2.2.1⟩)
                clear k5 r5 s5 RC
                clear HRC HK HR
                obtain ⟨g0, hg0⟩ : ∃ x, x = rot s q ed d := ⟨_, rfl⟩
                have rr := HCU.out.rot_ HQ.out.1 HQ.out.2 H1.out H2.out
                rw [← HED.out.1, ← hg0] at rr
                have RM := Lib.hid (HIH.out w5 a s mid g0 HLEN.out.1 (by rw [hg0]; exact S5.out.2.1) (HC.out.on S5.out.1) HF.out.2.2.1 HF.out.2.1 HED.out.2.2.2 rr.1 rr.2.1)
                have HG := Lib.hid hg0
                clear rr hg0
                have g1 := G1.out
                go_wp2_with fail
                clear g1
                refine RM.out.mono ?_
                rintro e6 w6 ⟨rfl, k6, g6, r6, s6, o6⟩
                have S6 := Lib.hid (show Keeps (· = R) w w6 ∧ Ro w6 R m g6 ∧ Six K a mid ed b d g6 from ⟨S5.out.1.trans k6, r6, six_yes HCU.out HQ.out.1 HQ.out.2 H1.out H2.out HED.out.1 S5.out.2.2 (by rw [← HG.out]; exact s6) o6⟩)
                clear k6 r6 s6 o6 RM HG
                clear S5 H1 H2
                have ff := fin_no S6.out.2.2 (by have := HED.out; have := HF.out; omega)
                have S7 := Lib.hid (show Keeps (· = R) w w6 ∧ ∃ g, Ro w6 R m g ∧ Seg a b d g ∧ So K g a b from ⟨S6.out.1, g6, S6.out.2.1, ff.1, ff.2⟩)
                clear ff
                clear S6
                have g1 := G1.out
                go_wp2
                all_goals (first | go_end0 | ((try simp only [Exit.inBlock, Exit.then]); refine bodyPost_ret (results_none rfl _ _ _) rfl ?_))
                all_goals exact ⟨rfl, S7.out⟩
            · by_cases hB : ed < b
              · have p1 : (s : Int) < (q : Int) := by omega
                have p2 : (mid : Int) < (ed : Int) := by have := HED.out; omega
                have q1 : (q : Int) < (ed : Int) := by have := HED.out; omega
                have q2 : (s : Int) < (mid : Int) := by omega
                have a1 : ¬ (a : Int) < (s : Int) := by omega
                have b1 : (ed : Int) < (b : Int) := by omega
                have HF := Lib.hid (And.intro hP (And.intro hQ (And.intro hA hB)))
                clear hP hQ hA hB
                have RC := Lib.hid (HRC.out HF.out.1 (by have := HED.out; have := HF.out; omega))
                have g1 := G1.out
                go_wp2_with fail
                clear g1
                refine RC.out.mono ?_
                rintro e5 w5 ⟨rfl, k5, r5, s5⟩
                have S5 := Lib.hid (show Keeps (· = R) w w5 ∧ Ro w5 R m (rot s q ed d) ∧ Seg a b d (rot s q ed d) from ⟨HK.out.trans k5, r5, s5.wide HED.out.2.1.1 (by have := HED.out; omega) HED.out.2.1.2.2.2.1⟩)
                clear k5 r5 s5 RC
                clear HRC HK HR
                obtain ⟨g0, hg0⟩ : ∃ x, x = rot s q ed d := ⟨_, rfl⟩
                have six := six_no HCU.out HQ.out.1 HQ.out.2 H1.out H2.out HED.out.1 S5.out.2.2 (by have := HF.out; omega)
                rw [← hg0] at six
                obtain ⟨g6, hg6⟩ : ∃ x, x = g0 := ⟨_, rfl⟩
                rw [← hg6] at six
                obtain ⟨w6, hw6⟩ : ∃ x, x = w5 := ⟨_, rfl⟩
                rw [← hw6]
                have S6 := Lib.hid (show Keeps (· = R) w w6 ∧ Ro w6 R m g6 ∧ Six K a mid ed b d g6 from ⟨by rw [hw6]; exact S5.out.1, by rw [hw6, hg6, hg0]; exact S5.out.2.1, six⟩)
                clear six hg6 hw6 hg0
                clear S5 H1 H2
                have RM := Lib.hid (HIH.out w6 mid ed b g6 HLEN.out.2 S6.out.2.1 (HC.out.on S6.out.1) (by have := HED.out; have := HF.out; omega) HF.out.2.2.2 HB.out.bm S6.out.2.2.m1 S6.out.2.2.m2)
                have g1 := G1.out
                go_wp2_with fail
                clear g1
                refine RM.out.mono ?_
                rintro e7 w7 ⟨rfl, k7, g7, r7, s7, o7⟩
                have ff := fin_yes S6.out.2.2 HCU.out.md.1 HCU.out.md.2 s7 o7
                have S7 := Lib.hid (show Keeps (· = R) w w7 ∧ ∃ g, Ro w7 R m g ∧ Seg a b d g ∧ So K g a b from ⟨S6.out.1.trans k7, g7, r7, ff.1, ff.2⟩)
                clear k7 r7 s7 o7 ff RM
                clear S6
                have g1 := G1.out
                go_wp2
                all_goals (first | go_end0 | ((try simp only [Exit.inBlock, Exit.then]); refine bodyPost_ret (results_none rfl _ _ _) rfl ?_))
                all_goals exact ⟨rfl, S7.out⟩
              · have p1 : (s : Int) < (q : Int) := by omega
                have p2 : (mid : Int) < (ed : Int) := by have := HED.out; omega
                have q1 : (q : Int) < (ed : Int) := by have := HED.out; omega
                have q2 : (s : Int) < (mid : Int) := by omega
                have a1 : ¬ (a : Int) < (s : Int) := by omega
                have b1 : ¬ (ed : Int) < (b : Int) := by omega
                have HF := Lib.hid (And.intro hP (And.intro hQ (And.intro hA hB)))
                clear hP hQ hA hB
                have RC := Lib.hid (HRC.out HF.out.1 (by have := HED.out; have := HF.out; omega))
                have g1 := G1.out
                go_wp2_with fail
                clear g1
                refine RC.out.mono ?_
                rintro e5 w5 ⟨rfl, k5, r5, s5⟩
                have S5 := Lib.hid (show Keeps (· = R) w w5 ∧ Ro w5 R m (rot s q ed d) ∧ Seg a b d (rot s q ed d) from ⟨HK.out.trans k5, r5, s5.wide HED.out.2.1.1 (by have := HED.out; omega) HED.out.2.1.2.2.2.1⟩)
                clear k5 r5 s5 RC
                clear HRC HK HR
                obtain ⟨g0, hg0⟩ : ∃ x, x = rot s q ed d := ⟨_, rfl⟩
                have six := six_no HCU.out HQ.out.1 HQ.out.2 H1.out H2.out HED.out.1 S5.out.2.2 (by have := HF.out; omega)
                rw [← hg0] at six
                obtain ⟨g6, hg6⟩ : ∃ x, x = g0 := ⟨_, rfl⟩
                rw [← hg6] at six
                obtain ⟨w6, hw6⟩ : ∃ x, x = w5 := ⟨_, rfl⟩
                rw [← hw6]
                have S6 := Lib.hid (show Keeps (· = R) w w6 ∧ Ro w6 R m g6 ∧ Six K a mid ed b d g6 from ⟨by rw [hw6]; exact S5.out.1, by rw [hw6, hg6, hg0]; exact S5.out.2.1, six⟩)
                clear six hg6 hw6 hg0
                clear S5 H1 H2
                have ff := fin_no S6.out.2.2 (by have := HED.out; have := HF.out; omega)
                have S7 := Lib.hid (show Keeps (· = R) w w6 ∧ ∃ g, Ro w6 R m g ∧ Seg a b d g ∧ So K g a b from ⟨S6.out.1, g6, S6.out.2.1, ff.1, ff.2⟩)
                clear ff
                clear S6
                have g1 := G1.out
                go_wp2
                all_goals (first | go_end0 | ((try simp only [Exit.inBlock, Exit.then]); refine bodyPost_ret (results_none rfl _ _ _) rfl ?_))
                all_goals exact ⟨rfl, S7.out⟩
          · by_cases hA : a < s
            · by_cases hB : ed < b
              · have p1 : (s : Int) < (q : Int) := by omega
                have p2 : (mid : Int) < (ed : Int) := by have := HED.out; omega
                have q1 : ¬ (q : Int) < (ed : Int) := by have := HED.out; omega
                have q2 : ¬ (s : Int) < (mid : Int) := by omega
                have a1 : (a : Int) < (s : Int) := by omega
                have b1 : (ed : Int) < (b : Int) := by omega
                have HF := Lib.hid (And.intro hP (And.intro hQ (And.intro hA hB)))
                clear hP hQ hA hB
                have ht : rot s q ed d = d := rot_triv d (by have := HED.out; have := HF.out; omega) HED.out.2.1.2.1 HED.out.2.1.2.2.2.2.1
                obtain ⟨w5, hw5⟩ : ∃ x, x = wr := ⟨_, rfl⟩
                rw [← hw5]
                have S5 := Lib.hid (show Keeps (· = R) w w5 ∧ Ro w5 R m (rot s q ed d) ∧ Seg a b d (rot s q ed d) from ⟨by rw [hw5]; exact HK.out, by rw [hw5, ht]; exact HR.out, by rw [ht]; exact Seg.refl _ _ _⟩)
                clear hw5 ht
                clear HRC HK HR
                obtain ⟨g0, hg0⟩ : ∃ x, x = rot s q ed d := ⟨_, rfl⟩
                have six := six_no HCU.out HQ.out.1 HQ.out.2 H1.out H2.out HED.out.1 S5.out.2.2 (by have := HF.out; omega)
                rw [← hg0] at six
                obtain ⟨g6, hg6⟩ : ∃ x, x = g0 := ⟨_, rfl⟩
                rw [← hg6] at six
                obtain ⟨w6, hw6⟩ : ∃ x, x = w5 := ⟨_, rfl⟩
                rw [← hw6]
                have S6 := Lib.hid (show Keeps (· = R) w w6 ∧ Ro w6 R m g6 ∧ Six K a mid ed b d g6 from ⟨by rw [hw6]; exact S5.out.1, by rw [hw6, hg6, hg0]; exact S5.out.2.1, six⟩)
                clear six hg6 hw6 hg0
                clear S5 H1 H2
                have RM := Lib.hid (HIH.out w6 mid ed b g6 HLEN.out.2 S6.out.2.1 (HC.out.on S6.out.1) (by have := HED.out; have := HF.out; omega) HF.out.2.2.2 HB.out.bm S6.out.2.2.m1 S6.out.2.2.m2)
                have g1 := G1.out
                go_wp2_with fail
                clear g1
                refine RM.out.mono ?_
                rintro e7 w7 ⟨rfl, k7, g7, r7, s7, o7⟩
                have ff := fin_yes S6.out.2.2 HCU.out.md.1 HCU.out.md.2 s7 o7
                have S7 := Lib.hid (show Keeps (· = R) w w7 ∧ ∃ g, Ro w7 R m g ∧ Seg a b d g ∧ So K g a b from ⟨S6.out.1.trans k7, g7, r7, ff.1, ff.2⟩)
                clear k7 r7 s7 o7 ff RM
                clear S6
                have g1 := G1.out
                go_wp2
                all_goals (first | go_end0 | ((try simp only [Exit.inBlock, Exit.then]); refine bodyPost_ret (results_none rfl _ _ _) rfl ?_))
                all_goals exact ⟨rfl, S7.out⟩
              · have p1 : (s : Int) < (q : Int) := by omega
                have p2 : (mid : Int) < (ed : Int) := by have := HED.out; omega
                have q1 : ¬ (q : Int) < (ed : Int) := by have := HED.out; omega
                have q2 : ¬ (s : Int) < (mid : Int) := by omega
                have a1 : (a : Int) < (s : Int) := by omega
                have b1 : ¬ (ed : Int) < (b : Int) := by omega
                have HF := Lib.hid (And.intro hP (And.intro hQ (And.intro hA hB)))
                clear hP hQ hA hB
                have ht : rot s q ed d = d := rot_triv d (by have := HED.out; have := HF.out; omega) HED.out.2.1.2.1 HED.out.2.1.2.2.2.2.1
                obtain ⟨w5, hw5⟩ : ∃ x, x = wr := ⟨_, rfl⟩
                rw [← hw5]
                have S5 := Lib.hid (show Keeps (· = R) w w5 ∧ Ro w5 R m (rot s q ed d) ∧ Seg a b d (rot s q ed d) from ⟨by rw [hw5]; exact HK.out, by rw [hw5, ht]; exact HR.out, by rw [ht]; exact Seg.refl _ _ _⟩)
                clear hw5 ht
                clear HRC HK HR
                obtain ⟨g0, hg0⟩ : ∃ x, x = rot s q ed d := ⟨_, rfl⟩
                have six := six_no HCU.out HQ.out.1 HQ.out.2 H1.out H2.out HED.out.1 S5.out.2.2 (by have := HF.out; omega)
                rw [← hg0] at six
                obtain ⟨g6, hg6⟩ : ∃ x, x = g0 := ⟨_, rfl⟩
                rw [← hg6] at six
                obtain ⟨w6, hw6⟩ : ∃ x, x = w5 := ⟨_, rfl⟩
                rw [← hw6]
                have S6 := Lib.hid (show Keeps (· = R) w w6 ∧ Ro w6 R m g6 ∧ Six K a mid ed b d g6 from ⟨by rw [hw6]; exact S5.out.1, by rw [hw6, hg6, hg0]; exact S5.out.2.1, six⟩)
                clear six hg6 hw6 hg0
                clear S5 H1 H2
                have ff := fin_no S6.out.2.2 (by have := HED.out; have := HF.out; omega)
                have S7 := Lib.hid (show Keeps (· = R) w w6 ∧ ∃ g, Ro w6 R m g ∧ Seg a b d g ∧ So K g a b from ⟨S6.out.1, g6, S6.out.2.1, ff.1, ff.2⟩)
                clear ff
                clear S6
                have g1 := G1.out
                go_wp2
                all_goals (first | go_end0 | ((try simp only [Exit.inBlock, Exit.then]); refine bodyPost_ret (results_none rfl _ _ _) rfl ?_))
                all_goals exact ⟨rfl, S7.out⟩
            · by_cases hB : ed < b
              · have p1 : (s : Int) < (q : Int) := by omega
                have p2 : (mid : Int) < (ed : Int) := by have := HED.out; omega
                have q1 : ¬ (q : Int) < (ed : Int) := by have := HED.out; omega
                have q2 : ¬ (s : Int) < (mid : Int) := by omega
                have a1 : ¬ (a : Int) < (s : Int) := by omega
                have b1 : (ed : Int) < (b : Int) := by omega
                have HF := Lib.hid (And.intro hP (And.intro hQ (And.intro hA hB)))
                clear hP hQ hA hB
                have ht : rot s q ed d = d := rot_triv d (by have := HED.out; have := HF.out; omega) HED.out.2.1.2.1 HED.out.2.1.2.2.2.2.1
                obtain ⟨w5, hw5⟩ : ∃ x, x = wr := ⟨_, rfl⟩
                rw [← hw5]
                have S5 := Lib.hid (show Keeps (· = R) w w5 ∧ Ro w5 R m (rot s q ed d) ∧ Seg a b d (rot s q ed d) from ⟨by rw [hw5]; exact HK.out, by rw [hw5, ht]; exact HR.out, by rw [ht]; exact Seg.refl _ _ _⟩)
                clear hw5 ht
                clear HRC HK HR
                obtain ⟨g0, hg0⟩ : ∃ x, x = rot s q ed d := ⟨_, rfl⟩
                have six := six_no HCU.out HQ.out.1 HQ.out.2 H1.out H2.out HED.out.1 S5.out.2.2 (by have := HF.out; omega)
                rw [← hg0] at six
                obtain ⟨g6, hg6⟩ : ∃ x, x = g0 := ⟨_, rfl⟩
                rw [← hg6] at six
                obtain ⟨w6, hw6⟩ : ∃ x, x = w5 := ⟨_, rfl⟩
                rw [← hw6]
                have S6 := Lib.hid (show Keeps (· = R) w w6 ∧ Ro w6 R m g6 ∧ Six K a mid ed b d g6 from ⟨by rw [hw6]; exact S5.out.1, by rw [hw6, hg6, hg0]; exact S5.out.2.1, six⟩)
                clear six hg6 hw6 hg0
                clear S5 H1 H2
                have RM := Lib.hid (HIH.out w6 mid ed b g6 HLEN.out.2 S6.out.2.1 (HC.out.on S6.out.1) (by have := HED.out; have := HF.out; omega) HF.out.2.2.2 HB.out.bm S6.out.2.2.m1 S6.out.2.2.m2)
                have g1 := G1.out
                go_wp2_with fail
                clear g1
                refine RM.out.mono ?_
                rintro e7 w7 ⟨rfl, k7, g7, r7, s7, o7⟩
                have ff := fin_yes S6.out.2.2 HCU.out.md.1 HCU.out.md.2 s7 o7
                have S7 := Lib.hid (show Keeps (· = R) w w7 ∧ ∃ g, Ro w7 R m g ∧ Seg a b d g ∧ So K g a b from ⟨S6.out.1.trans k7, g7, r7, ff.1, ff.2⟩)
                clear k7 r7 s7 o7 ff RM
                clear S6
                have g1 := G1.out
                go_wp2
                all_goals (first | go_end0 | ((try simp only [Exit.inBlock, Exit.then]); refine bodyPost_ret (results_none rfl _ _ _) rfl ?_))
                all_goals exact ⟨rfl, S7.out⟩
              · have p1 : (s : Int) < (q : Int) := by omega
                have p2 : (mid : Int) < (ed : Int) := by have := HED.out; omega
                have q1 : ¬ (q : Int) < (ed : Int) := by have := HED.out; omega
                have q2 : ¬ (s : Int) < (mid : Int) := by omega
                have a1 : ¬ (a : Int) < (s : Int) := by omega
                have b1 : ¬ (ed : Int) < (b : Int) := by omega
                have HF := Lib.hid (And.intro hP (And.intro hQ (And.intro hA hB)))
                clear hP hQ hA hB
                have ht : rot s q ed d = d := rot_triv d (by have := HED.out; have := HF.out; omega) HED.out.2.1.2.1 HED.out.2.1.2.2.2.2.1
                obtain ⟨w5, hw5⟩ : ∃ x, x = wr := ⟨_, rfl⟩
                rw [← hw5]
                have S5 := Lib.hid (show Keeps (· = R) w w5 ∧ Ro w5 R m (rot s q ed d) ∧ Seg a b d (rot s q ed d) from ⟨by rw [hw5]; exact HK.out, by rw [hw5, ht]; exact HR.out, by rw [ht]; exact Seg.refl _ _ _⟩)
                clear hw5 ht
                clear HRC HK HR
                obtain ⟨g0, hg0⟩ : ∃ x, x = rot s q ed d := ⟨_, rfl⟩
                have six := six_no HCU.out HQ.out.1 HQ.out.2 H1.out H2.out HED.out.1 S5.out.2.2 (by have := HF.out; omega)
                rw [← hg0] at six
                obtain ⟨g6, hg6⟩ : ∃ x, x = g0 := ⟨_, rfl⟩
                rw [← hg6] at six
                obtain ⟨w6, hw6⟩ : ∃ x, x = w5 := ⟨_, rfl⟩
                rw [← hw6]
                have S6 := Lib.hid (show Keeps (· = R) w w6 ∧ Ro w6 R m g6 ∧ Six K a mid ed b d g6 from ⟨by rw [hw6]; exact S5.out.1, by rw [hw6, hg6, hg0]; exact S5.out.2.1, six⟩)
                clear six hg6 hw6 hg0
                clear S5 H1 H2
                have ff := fin_no S6.out.2.2 (by have := HED.out; have := HF.out; omega)
                have S7 := Lib.hid (show Keeps (· = R) w w6 ∧ ∃ g, Ro w6 R m g ∧ Seg a b d g ∧ So K g a b from ⟨S6.out.1, g6, S6.out.2.1, ff.1, ff.2⟩)
                clear ff
                clear S6
                have g1 := G1.out
                go_wp2
                all_goals (first | go_end0 | ((try simp only [Exit.inBlock, Exit.then]); refine bodyPost_ret (results_none rfl _ _ _) rfl ?_))
                all_goals exact ⟨rfl, S7.out⟩
        · by_cases hQ : s < mid
          · by_cases hA : a < s
            · by_cases hB : ed < b
              · have p1 : ¬ (s : Int) < (q : Int) := by omega
                have p2 : ¬ (mid : Int) < (ed : Int) := by have := HED.out; omega
                have q1 : (q : Int) < (ed : Int) := by have := HED.out; omega
                have q2 : (s : Int) < (mid : Int) := by omega
                have a1 : (a : Int) < (s : Int) := by omega
                have b1 : (ed : Int) < (b : Int) := by omega
                have HF := Lib.hid (And.intro hP (And.intro hQ (And.intro hA hB)))
                clear hP hQ hA hB
                have ht : rot s q ed d = d := rot_triv d (by have := HED.out; have := HF.out; omega) HED.out.2.1.2.1 HED.out.2.1.2.2.2.2.1
                obtain ⟨w5, hw5⟩ : ∃ x, x = wr := ⟨_, rfl⟩
                rw [← hw5]
                have S5 := Lib.hid (show Keeps (· = R) w w5 ∧ Ro w5 R m (rot s q ed d) ∧ Seg a b d (rot s q ed d) from ⟨by rw [hw5]; exact HK.out, by rw [hw5, ht]; exact HR.out, by rw [ht]; exact Seg.refl _ _ _⟩)
                clear hw5 ht
                clear HRC HK HR
                obtain ⟨g0, hg0⟩ : ∃ x, x = rot s q ed d := ⟨_, rfl⟩
                have rr := HCU.out.rot_ HQ.out.1 HQ.out.2 H1.out H2.out
                rw [← HED.out.1, ← hg0] at rr
                have RM := Lib.hid (HIH.out w5 a s mid g0 HLEN.out.1 (by rw [hg0]; exact S5.out.2.1) (HC.out.on S5.out.1) HF.out.2.2.1 HF.out.2.1 HED.out.2.2.2 rr.1 rr.2.1)
                have HG := Lib.hid hg0
                clear rr hg0
                have g1 := G1.out
                go_wp2_with fail
                clear g1
                refine RM.out.mono ?_
                rintro e6 w6 ⟨rfl, k6, g6, r6, s6, o6⟩
                have S6 := Lib.hid (show Keeps (· = R) w w6 ∧ Ro w6 R m g6 ∧ Six K a mid ed b d g6 from ⟨S5.out.1.trans k6, r6, six_yes HCU.out HQ.out.1 HQ.out.2 H1.out H2.out HED.out.1 S5.out.2.2 (by rw [← HG.out]; exact s6) o6⟩)
                clear k6 r6 s6 o6 RM HG
                clear S5 H1 H2
                have ff := fin_no S6.out.2.2 (by have := HED.out; have := HF.out; omega)
                have S7 := Lib.hid (show Keeps (· = R) w w6 ∧ ∃ g, Ro w6 R m g ∧ Seg a b d g ∧ So K g a b from ⟨S6.out.1, g6, S6.out.2.1, ff.1, ff.2⟩)
                clear ff
                clear S6
                have g1 := G1.out
                go_wp2
                all_goals (first | go_end0 | ((try simp only [Exit.inBlock, Exit.then]); refine bodyPost_ret (results_none rfl _ _ _) rfl ?_))
                all_goals exact ⟨rfl, S7.out⟩
              · have p1 : ¬ (s : Int) < (q : Int) := by omega
                have p2 : ¬ (mid : Int) < (ed : Int) := by have := HED.out; omega
                have q1 : (q : Int) < (ed : Int) := by have := HED.out; omega
                have q2 : (s : Int) < (mid : Int) := by omega
                have a1 : (a : Int) < (s : Int) := by omega
                have b1 : ¬ (ed : Int) < (b : Int) := by omega
                have HF := Lib.hid (And.intro hP (And.intro hQ (And.intro hA hB)))
                clear hP hQ hA hB
                have ht : rot s q ed d = d := rot_triv d (by have := HED.out; have := HF.out; omega) HED.out.2.1.2.1 HED.out.2.1.2.2.2.2.1
                obtain ⟨w5, hw5⟩ : ∃ x, x = wr := ⟨_, rfl⟩
                rw [← hw5]
                have S5 := Lib.hid (show Keeps (· = R) w w5 ∧ Ro w5 R m (rot s q ed d) ∧ Seg a b d (rot s q ed d) from ⟨by rw [hw5]; exact HK.out, by rw [hw5, ht]; exact HR.out, by rw [ht]; exact Seg.refl _ _ _⟩)
                clear hw5 ht
                clear HRC HK HR
                obtain ⟨g0, hg0⟩ : ∃ x, x = rot s q ed d := ⟨_, rfl⟩
                have rr := HCU.out.rot_ HQ.out.1 HQ.out.2 H1.out H2.out
                rw [← HED.out.1, ← hg0] at rr
                have RM := Lib.hid (HIH.out w5 a s mid g0 HLEN.out.1 (by rw [hg0]; exact S5.out.2.1) (HC.out.on S5.out.1) HF.out.2.2.1 HF.out.2.1 HED.out.2.2.2 rr.1 rr.2.1)
                have HG := Lib.hid hg0
                clear rr hg0
                have g1 := G1.out
                go_wp2_with fail
                clear g1
                refine RM.out.mono ?_
                rintro e6 w6 ⟨rfl, k6, g6, r6, s6, o6⟩
                have S6 := Lib.hid (show Keeps (· = R) w w6 ∧ Ro w6 R m g6 ∧ Six K a mid ed b d g6 from ⟨S5.out.1.trans k6, r6, six_yes HCU.out HQ.out.1 HQ.out.2 H1.out H2.out HED.out.1 S5.out.2.2 (by rw [← HG.out]; exact s6) o6⟩)
                clear k6 r6 s6 o6 RM HG
                clear S5 H1 H2
                have ff := fin_no S6.out.2.2 (by have := HED.out; have := HF.out; omega)
                have S7 := Lib.hid (show Keeps (· = R) w w6 ∧ ∃ g, Ro w6 R m g ∧ Seg a b d g ∧ So K g a b from ⟨S6.out.1, g6, S6.out.2.1, ff.1, ff.2⟩)
                clear ff
                clear S6
                have g1 := G1.out
                go_wp2
                all_goals (first | go_end0 | ((try simp only [Exit.inBlock, Exit.then]); refine bodyPost_ret (results_none rfl _ _ _) rfl ?_))
                all_goals exact ⟨rfl, S7.out⟩
            · by_cases hB : ed < b
              · have p1 : ¬ (s : Int) < (q : Int) := by omega
                have p2 : ¬ (mid : Int) < (ed : Int) := by have := HED.out; omega
                have q1 : (q : Int) < (ed : Int) := by have := HED.out; omega
                have q2 : (s : Int) < (mid : Int) := by omega
                have a1 : ¬ (a : Int) < (s : Int) := by omega
                have b1 : (ed : Int) < (b : Int) := by omega
                have HF := Lib.hid (And.intro hP (And.intro hQ (And.intro hA hB)))
                clear hP hQ hA hB
                have ht : rot s q ed d = d := rot_triv d (by have := HED.out; have := HF.out; omega) HED.out.2.1.2.1 HED.out.2.1.2.2.2.2.1
                obtain ⟨w5, hw5⟩ : ∃ x, x = wr := ⟨_, rfl⟩
                rw [← hw5]
                have S5 := Lib.hid (show Keeps (· = R) w w5 ∧ Ro w5 R m (rot s q ed d) ∧ Seg a b d (rot s q ed d) from ⟨by rw [hw5]; exact HK.out, by rw [hw5, ht]; exact HR.out, by rw [ht]; exact Seg.refl _ _ _⟩)
                clear hw5 ht
                clear HRC HK HR
                obtain ⟨g0, hg0⟩ : ∃ x, x = rot s q ed d := ⟨_, rfl⟩
                have six := six_no HCU.out HQ.out.1 HQ.out.2 H1.out H2.out HED.out.1 S5.out.2.2 (by have := HF.out; omega)
                rw [← hg0] at six
                obtain ⟨g6, hg6⟩ : ∃ x, x = g0 := ⟨_, rfl⟩
                rw [← hg6] at six
                obtain ⟨w6, hw6⟩ : ∃ x, x = w5 := ⟨_, rfl⟩
                rw [← hw6]
                have S6 := Lib.hid (show Keeps (· = R) w w6 ∧ Ro w6 R m g6 ∧ Six K a mid ed b d g6 from ⟨by rw [hw6]; exact S5.out.1, by rw [hw6, hg6, hg0]; exact S5.out.2.1, six⟩)
                clear six hg6 hw6 hg0
                clear S5 H1 H2
                have ff := fin_no S6.out.2.2 (by have := HED.out; have := HF.out; omega)
                have S7 := Lib.hid (show Keeps (· = R) w w6 ∧ ∃ g, Ro w6 R m g ∧ Seg a b d g ∧ So K g a b from ⟨S6.out.1, g6, S6.out.2.1, ff.1, ff.2⟩)
                clear ff
                clear S6
                have g1 := G1.out
                go_wp2
                all_goals (first | go_end0 | ((try simp only [Exit.inBlock, Exit.then]); refine bodyPost_ret (results_none rfl _ _ _) rfl ?_))
                all_goals exact ⟨rfl, S7.out⟩
              · have p1 : ¬ (s : Int) < (q : Int) := by omega
                have p2 : ¬ (mid : Int) < (ed : Int) := by have := HED.out; omega
                have q1 : (q : Int) < (ed : Int) := by have := HED.out; omega
                have q2 : (s : Int) < (mid : Int) := by omega
                have a1 : ¬ (a : Int) < (s : Int) := by omega
                have b1 : ¬ (ed : Int) < (b : Int) := by omega
                have HF := Lib.hid (And.intro hP (And.intro hQ (And.intro hA hB)))
                clear hP hQ hA hB
                have ht : rot s q ed d = d := rot_triv d (by have := HED.out; have := HF.out; omega) HED.out.2.1.2.1 HED.out.2.1.2.2.2.2.1
                obtain ⟨w5, hw5⟩ : ∃ x, x = wr := ⟨_, rfl⟩
                rw [← hw5]
                have S5 := Lib.hid (show Keeps (· = R) w w5 ∧ Ro w5 R m (rot s q ed d) ∧ Seg a b d (rot s q ed d) from ⟨by rw [hw5]; exact HK.out, by rw [hw5, ht]; exact HR.out, by rw [ht]; exact Seg.refl _ _ _⟩)
                clear hw5 ht
                clear HRC HK HR
                obtain ⟨g0, hg0⟩ : ∃ x, x = rot s q ed d := ⟨_, rfl⟩
                have six := six_no HCU.out HQ.out.1 HQ.out.2 H1.out H2.out HED.out.1 S5.out.2.2 (by have := HF.out; omega)
                rw [← hg0] at six
                obtain ⟨g6, hg6⟩ : ∃ x, x = g0 := ⟨_, rfl⟩
                rw [← hg6] at six
                obtain ⟨w6, hw6⟩ : ∃ x, x = w5 := ⟨_, rfl⟩
                rw [← hw6]
                have S6 := Lib.hid (show Keeps (· = R) w w6 ∧ Ro w6 R m g6 ∧ Six K a mid ed b d g6 from ⟨by rw [hw6]; exact S5.out.1, by rw [hw6, hg6, hg0]; exact S5.out.2.1, six⟩)
                clear six hg6 hw6 hg0
                clear S5 H1 H2
                have ff := fin_no S6.out.2.2 (by have := HED.out; have := HF.out; omega)
                have S7 := Lib.hid (show Keeps (· = R) w w6 ∧ ∃ g, Ro w6 R m g ∧ Seg a b d g ∧ So K g a b from ⟨S6.out.1, g6, S6.out.2.1, ff.1, ff.2⟩)
                clear ff
                clear S6
                have g1 := G1.out
                go_wp2
                all_goals (first | go_end0 | ((try simp only [Exit.inBlock, Exit.then]); refine bodyPost_ret (results_none rfl _ _ _) rfl ?_))
                all_goals exact ⟨rfl, S7.out⟩
          · by_cases hA : a < s
            · by_cases hB : ed < b
              · have p1 : ¬ (s : Int) < (q : Int) := by omega
                have p2 : ¬ (mid : Int) < (ed : Int) := by have := HED.out; omega
                have q1 : ¬ (q : Int) < (ed : Int) := by have := HED.out; omega
                have q2 : ¬ (s : Int) < (mid : Int) := by omega
                have a1 : (a : Int) < (s : Int) := by omega
                have b1 : (ed : Int) < (b : Int) := by omega
                have HF := Lib.hid (And.intro hP (And.intro hQ (And.intro hA hB)))
                clear hP hQ hA hB
                have ht : rot s q ed d = d := rot_triv d (by have := HED.out; have := HF.out; omega) HED.out.2.1.2.1 HED.out.2.1.2.2.2.2.1
                obtain ⟨w5, hw5⟩ : ∃ x, x = wr := ⟨_, rfl⟩
                rw [← hw5]
                have S5 := Lib.hid (show Keeps (· = R) w w5 ∧ Ro w5 R m (rot s q ed d) ∧ Seg a b d (rot s q ed d) from ⟨by rw [hw5]; exact HK.out, by rw [hw5, ht]; exact HR.out, by rw [ht]; exact Seg.refl _ _ _⟩)
                clear hw5 ht
                clear HRC HK HR
                obtain ⟨g0, hg0⟩ : ∃ x, x = rot s q ed d := ⟨_, rfl⟩
                have six := six_no HCU.out HQ.out.1 HQ.out.2 H1.out H2.out HED.out.1 S5.out.2.2 (by have := HF.out; omega)
                rw [← hg0] at six
                obtain ⟨g6, hg6⟩ : ∃ x, x = g0 := ⟨_, rfl⟩
                rw [← hg6] at six
                obtain ⟨w6, hw6⟩ : ∃ x, x = w5 := ⟨_, rfl⟩
                rw [← hw6]
                have S6 := Lib.hid (show Keeps (· = R) w w6 ∧ Ro w6 R m g6 ∧ Six K a mid ed b d g6 from ⟨by rw [hw6]; exact S5.out.1, by rw [hw6, hg6, hg0]; exact S5.out.2.1, six⟩)
                clear six hg6 hw6 hg0
                clear S5 H1 H2
                have ff := fin_no S6.out.2.2 (by have := HED.out; have := HF.out; omega)
                have S7 := Lib.hid (show Keeps (· = R) w w6 ∧ ∃ g, Ro w6 R m g ∧ Seg a b d g ∧ So K g a b from ⟨S6.out.1, g6, S6.out.2.1, ff.1, ff.2⟩)
                clear ff
                clear S6
                have g1 := G1.out
                go_wp2
                all_goals (first | go_end0 | ((try simp only [Exit.inBlock, Exit.then]); refine bodyPost_ret (results_none rfl _ _ _) rfl ?_))
                all_goals exact ⟨rfl, S7.out⟩
              · have p1 : ¬ (s : Int) < (q : Int) := by omega
                have p2 : ¬ (mid : Int) < (ed : Int) := by have := HED.out; omega
                have q1 : ¬ (q : Int) < (ed : Int) := by have := HED.out; omega
                have q2 : ¬ (s : Int) < (mid : Int) := by omega
                have a1 : (a : Int) < (s : Int) := by omega
                have b1 : ¬ (ed : Int) < (b : Int) := by omega
                have HF := Lib.hid (And.intro hP (And.intro hQ (And.intro hA hB)))
                clear hP hQ hA hB
                have ht : rot s q ed d = d := rot_triv d (by have := HED.out; have := HF.out; omega) HED.out.2.1.2.1 HED.out.2.1.2.2.2.2.1
                obtain ⟨w5, hw5⟩ : ∃ x, x = wr := ⟨_, rfl⟩
                rw [← hw5]
                have S5 := Lib.hid (show Keeps (· = R) w w5 ∧ Ro w5 R m (rot s q ed d) ∧ Seg a b d (rot s q ed d) from ⟨by rw [hw5]; exact HK.out, by rw [hw5, ht]; exact HR.out, by rw [ht]; exact Seg.refl _ _ _⟩)
                clear hw5 ht
                clear HRC HK HR
                obtain ⟨g0, hg0⟩ : ∃ x, x = rot s q ed d := ⟨_, rfl⟩
                have six := six_no HCU.out HQ.out.1 HQ.out.2 H1.out H2.out HED.out.1 S5.out.2.2 (by have := HF.out; omega)
                rw [← hg0] at six
                obtain ⟨g6, hg6⟩ : ∃ x, x = g0 := ⟨_, rfl⟩
                rw [← hg6] at six
                obtain ⟨w6, hw6⟩ : ∃ x, x = w5 := ⟨_, rfl⟩
                rw [← hw6]
                have S6 := Lib.hid (show Keeps (· = R) w w6 ∧ Ro w6 R m g6 ∧ Six K a mid ed b d g6 from ⟨by rw [hw6]; exact S5.out.1, by rw [hw6, hg6, hg0]; exact S5.out.2.1, six⟩)
                clear six hg6 hw6 hg0
                clear S5 H1 H2
                have ff := fin_no S6.out.2.2 (by have := HED.out; have := HF.out; omega)
                have S7 := Lib.hid (show Keeps (· = R) w w6 ∧ ∃ g, Ro w6 R m g ∧ Seg a b d g ∧ So K g a b from ⟨S6.out.1, g6, S6.out.2.1, ff.1, ff.2⟩)
                clear ff
                clear S6
                have g1 := G1.out
                go_wp2
                all_goals (first | go_end0 | ((try simp only [Exit.inBlock, Exit.then]); refine bodyPost_ret (results_none rfl _ _ _) rfl ?_))
                all_goals exact ⟨rfl, S7.out⟩
            · by_cases hB : ed < b
              · have p1 : ¬ (s : Int) < (q : Int) := by omega
                have p2 : ¬ (mid : Int) < (ed : Int) := by have := HED.out; omega
                have q1 : ¬ (q : Int) < (ed : Int) := by have := HED.out; omega
                have q2 : ¬ (s : Int) < (mid : Int) := by omega
                have a1 : ¬ (a : Int) < (s : Int) := by omega
                have b1 : (ed : Int) < (b : Int) := by omega
                have HF := Lib.hid (And.intro hP (And.intro hQ (And.intro hA hB)))
                clear hP hQ hA hB
                have ht : rot s q ed d = d := rot_triv d (by have := HED.out; have := HF.out; omega) HED.out.2.1.2.1 HED.out.2.1.2.2.2.2.1
                obtain ⟨w5, hw5⟩ : ∃ x, x = wr := ⟨_, rfl⟩
                rw [← hw5]
                have S5 := Lib.hid (show Keeps (· = R) w w5 ∧ Ro w5 R m (rot s q ed d) ∧ Seg a b d (rot s q ed d) from ⟨by rw [hw5]; exact HK.out, by rw [hw5, ht]; exact HR.out, by rw [ht]; exact Seg.refl _ _ _⟩)
                clear hw5 ht
                clear HRC HK HR
                obtain ⟨g0, hg0⟩ : ∃ x, x = rot s q ed d := ⟨_, rfl⟩
                have six := six_no HCU.out HQ.out.1 HQ.out.2 H1.out H2.out HED.out.1 S5.out.2.2 (by have := HF.out; omega)
                rw [← hg0] at six
                obtain ⟨g6, hg6⟩ : ∃ x, x = g0 := ⟨_, rfl⟩
                rw [← hg6] at six
                obtain ⟨w6, hw6⟩ : ∃ x, x = w5 := ⟨_, rfl⟩
                rw [← hw6]
                have S6 := Lib.hid (show Keeps (· = R) w w6 ∧ Ro w6 R m g6 ∧ Six K a mid ed b d g6 from ⟨by rw [hw6]; exact S5.out.1, by rw [hw6, hg6, hg0]; exact S5.out.2.1, six⟩)
                clear six hg6 hw6 hg0
                clear S5 H1 H2
                have ff := fin_no S6.out.2.2 (by have := HED.out; have := HF.out; omega)
                have S7 := Lib.hid (show Keeps (· = R) w w6 ∧ ∃ g, Ro w6 R m g ∧ Seg a b d g ∧ So K g a b from ⟨S6.out.1, g6, S6.out.2.1, ff.1, ff.2⟩)
                clear ff
                clear S6
                have g1 := G1.out
                go_wp2
                all_goals (first | go_end0 | ((try simp only [Exit.inBlock, Exit.then]); refine bodyPost_ret (results_none rfl _ _ _) rfl ?_))
                all_goals exact ⟨rfl, S7.out⟩
              · have p1 : ¬ (s : Int) < (q : Int) := by omega
                have p2 : ¬ (mid : Int) < (ed : Int) := by have := HED.out; omega
                have q1 : ¬ (q : Int) < (ed : Int) := by have := HED.out; omega
                have q2 : ¬ (s : Int) < (mid : Int) := by omega
                have a1 : ¬ (a : Int) < (s : Int) := by omega
                have b1 : ¬ (ed : Int) < (b : Int) := by omega
                have HF := Lib.hid (And.intro hP (And.intro hQ (And.intro hA hB)))
                clear hP hQ hA hB
                have ht : rot s q ed d = d := rot_triv d (by have := HED.out; have := HF.out; omega) HED.out.2.1.2.1 HED.out.2.1.2.2.2.2.1
                obtain ⟨w5, hw5⟩ : ∃ x, x = wr := ⟨_, rfl⟩
                rw [← hw5]
                have S5 := Lib.hid (show Keeps (· = R) w w5 ∧ Ro w5 R m (rot s q ed d) ∧ Seg a b d (rot s q ed d) from ⟨by rw [hw5]; exact HK.out, by rw [hw5, ht]; exact HR.out, by rw [ht]; exact Seg.refl _ _ _⟩)
                clear hw5 ht
                clear HRC HK HR
                obtain ⟨g0, hg0⟩ : ∃ x, x = rot s q ed d := ⟨_, rfl⟩
                have six := six_no HCU.out HQ.out.1 HQ.out.2 H1.out H2.out HED.out.1 S5.out.2.2 (by have := HF.out; omega)
                rw [← hg0] at six
                obtain ⟨g6, hg6⟩ : ∃ x, x = g0 := ⟨_, rfl⟩
                rw [← hg6] at six
                obtain ⟨w6, hw6⟩ : ∃ x, x = w5 := ⟨_, rfl⟩
                rw [← hw6]
                have S6 := Lib.hid (show Keeps (· = R) w w6 ∧ Ro w6 R m g6 ∧ Six K a mid ed b d g6 from ⟨by rw [hw6]; exact S5.out.1, by rw [hw6, hg6, hg0]; exact S5.out.2.1, six⟩)
                clear six hg6 hw6 hg0
                clear S5 H1 H2
                have ff := fin_no S6.out.2.2 (by have := HED.out; have := HF.out; omega)
                have S7 := Lib.hid (show Keeps (· = R) w w6 ∧ ∃ g, Ro w6 R m g ∧ Seg a b d g ∧ So K g a b from ⟨S6.out.1, g6, S6.out.2.1, ff.1, ff.2⟩)
                clear ff
                clear S6
                have g1 := G1.out
                go_wp2
                all_goals (first | go_end0 | ((try simp only [Exit.inBlock, Exit.then]); refine bodyPost_ret (results_none rfl _ _ _) rfl ?_))
                all_goals exact ⟨rfl, S7.out⟩
  · have qm : ¬ (mid : Int) < (q : Int) := by omega
    have HR0 := Lib.hid hr0
    have HS0 := Lib.hid hs0
    clear haq hqb hb hm hcq hr0 hs0
    obtain ⟨g1, g2, g3, ⟨g4, g6⟩, g7, g8⟩ := GG.out
    go_enter Try.func58, Try.ntmps58
    go_wp2_with fail
    try rw [g6]
    clear g1 g2 v1 v2 u1 u2 g3 g4 g6 g7 g8 GG
    have hr0 := HR0.out
    have hs0 := HS0.out
    go_loopw [20, 21] (fun sv rv wr => ∃ s r : Nat, sv = .int .i64 (s : Int) ∧ rv = .int .i64 (r : Int) ∧ (s0 ≤ s ∧ s ≤ r ∧ r ≤ r0) ∧ Keeps (· = R) w wr ∧ Ro wr R m d ∧ (∀ t, s0 ≤ t → t < s → K (d t) ≤ K (d (p - t))) ∧ (∀ t, r ≤ t → t < r0 → K (d (p - t)) < K (d t))) (fun sv rv _ => (intOf rv - intOf sv).toNat)
    case atStart => exact ⟨s0, r0, by rw [hs0], by rw [hr0], ⟨Nat.le_refl _, HB.out.s0r, Nat.le_refl _⟩, Keeps.refl _ _, H0.out, fun t h1 h2 => by omega, fun t h1 h2 => by omega⟩
    case round =>
      clear H0 hr0 hs0 HR0 HS0
      obtain ⟨s, r, rfl, rfl, hsr, hkk, hr, hlo, hhi⟩ := hrel
      have HSR := Lib.hid hsr
      have HK := Lib.hid hkk
      have HR := Lib.hid hr
      have HLO := Lib.hid hlo
      have HHI := Lib.hid hhi
      rcases Nat.lt_or_ge s r with hlt | hlt
      · have hlt' : (s : Int) < (r : Int) := by omega
        obtain ⟨x, hx⟩ : ∃ x, x = s + r := ⟨_, rfl⟩
        obtain ⟨y, hy⟩ : ∃ y, y = x / 2 := ⟨_, rfl⟩
        obtain ⟨z, hz⟩ : ∃ z, z = p - y := ⟨_, rfl⟩
        have HY := Lib.hid (show (s ≤ y ∧ y < r) ∧ (y < m ∧ z < m) ∧ (a ≤ y ∧ y < q) ∧ (q ≤ z ∧ z < b) ∧ z = p - y ∧ x < 2000000 ∧ x = s + r ∧ y = x / 2 from by
          have h1 := HB.out.a0; have h2 := HB.out.rq; have h3 := HB.out.rm; have h4 := HB.out.nb; have h5 := HB.out.ne; have h6 := HB.out.pe; have h7 := HB.out.bm; have h8 := HB.out.mm
          omega)
        clear hx hy hz
        have hx2 : x ≤ 4000000 := by have h1 := HY.out.2.2.2.2.2.1; omega
        have GX := Lib.hid (And.intro (wadd s r x HY.out.2.2.2.2.2.2.1.symm hx2) (And.intro (whalf x y HY.out.2.2.2.2.2.2.2 hx2) (wsub p y z (by have h1 := HY.out; have h2 := HB.out.ne; have h3 := HB.out.pe; have h4 := HB.out.rq; have h5 := HB.out.rm; omega) (by have h1 := HB.out.nm; have h2 := HB.out.pe; omega))))
        clear hx2
        have WY := Lib.hid (wrap_inc y (Nat.lt_of_lt_of_le HY.out.2.1.1 HB.out.mm))
        have y0 : (0 : Int) ≤ (y : Int) := by omega
        have z0 : (0 : Int) ≤ (z : Int) := by omega
        have y1 : (y : Int) < (m : Int) := by have := HY.out.2.1; omega
        have z1 : (z : Int) < (m : Int) := by have := HY.out.2.1; omega
        have cy := hr.cell y HY.out.2.1.1
        have ca := hr.cell z HY.out.2.1.2
        have HCC := fun W (hk : Keeps (· = R) w W) => Lib.hid (HC.out W (d z) (d y) hk (hr.lt z HY.out.2.1.2) (hr.lt y HY.out.2.1.1))
        clear hsr hkk hr hlo hhi hlt
        by_cases hcc : K (d z) < K (d y)
        · have qz : cmpv (K (d z)) (K (d y)) < 0 := (cmpv_neg _ _).2 hcc
          have HCL := Lib.hid hcc
          clear hcc
          generalize cmpv (K (d z)) (K (d y)) = cz at *
          have qd : decide (cz < 0) = true := decide_eq_true qz
          obtain ⟨dy, hdy⟩ : ∃ x, x = d y := ⟨_, rfl⟩
          obtain ⟨da, hda⟩ : ∃ x, x = d z := ⟨_, rfl⟩
          rw [← hdy, ← hda] at HCC
          rw [← hdy] at cy
          rw [← hda] at ca
          clear hdy hda
          obtain ⟨g1, ⟨g2, g4⟩, g5⟩ := GX.out
          have wy := WY.out
          go_wp2_with fail
          go_region_held3 (fun w' => w'.cell? ⟨R, y, none⟩ = some (.int .i64 (dy : Int)) ∧ w'.cell? ⟨R, z, none⟩ = some (.int .i64 (da : Int)))
            (first | exact ⟨cy, ca⟩ | exact ⟨z0, z1⟩)
            ((first
              | (go_at_call 51; refine (HCC _ (Keeps.drew HK.out)).out.mono ?_; rintro e w3 ⟨rfl, k3⟩; have z0 := Keeps.cell (k3 (fun _ => False)) (show wr.drew.cell? _ = _ from cy) (fun z => z); have z1 := Keeps.cell (k3 (fun _ => False)) (show wr.drew.cell? _ = _ from ca) (fun z => z); have K3 : Hid (∀ S, Keeps S wr w3) := Lib.hid (fun S => Keeps.trans (Keeps.refl S wr).drew (k3 S)); clear k3)))
          have R3 := Lib.hid (HR.out.keeps (K3.out (fun _ => False)) (fun z => z))
          have K4 := Lib.hid (HK.out.trans (K3.out _))
          clear z0 z1 cy ca K3 HK HR HCC g1 g2 g4 g5
          go_wp2
          go_roundw
          clear wy
          case rel => exact ⟨s, y, rfl, by first | rfl | go_num, by have := HSR.out; have := HY.out.1; omega, K4.out, R3.out, HLO.out, fun t h1 h2 => by
            have h3 := HB.out.a0; have h4 := HB.out.rq; have h5 := HB.out.rm; have h6 := HB.out.nb; have h7 := HB.out.ne; have h8 := HB.out.pe
            have h9 := HSR.out; have h10 := HY.out
            have e1 := H1.out y t (by omega) h1 (by omega)
            have e2 := H2.out (p - t) z (by omega) (by omega) (by omega)
            have e3 := HCL.out
            omega⟩
          case measure => have := HY.out.1; simp only [intOf]; omega
        · have qz : ¬ cmpv (K (d z)) (K (d y)) < 0 := fun h => hcc ((cmpv_neg _ _).1 h)
          have HCL := Lib.hid hcc
          clear hcc
          generalize cmpv (K (d z)) (K (d y)) = cz at *
          have qd : decide (cz < 0) = false := decide_eq_false qz
          obtain ⟨dy, hdy⟩ : ∃ x, x = d y := ⟨_, rfl⟩
          obtain ⟨da, hda⟩ : ∃ x, x = d z := ⟨_, rfl⟩
          rw [← hdy, ← hda] at HCC
          rw [← hdy] at cy
          rw [← hda] at ca
          clear hdy hda
          obtain ⟨g1, ⟨g2, g4⟩, g5⟩ := GX.out
          have wy := WY.out
          go_wp2_with fail
          go_region_held3 (fun w' => w'.cell? ⟨R, y, none⟩ = some (.int .i64 (dy : Int)) ∧ w'.cell? ⟨R, z, none⟩ = some (.int .i64 (da : Int)))
            (first | exact ⟨cy, ca⟩ | exact ⟨z0, z1⟩)
            ((first
              | (go_at_call 51; refine (HCC _ (Keeps.drew HK.out)).out.mono ?_; rintro e w3 ⟨rfl, k3⟩; have z0 := Keeps.cell (k3 (fun _ => False)) (show wr.drew.cell? _ = _ from cy) (fun z => z); have z1 := Keeps.cell (k3 (fun _ => False)) (show wr.drew.cell? _ = _ from ca) (fun z => z); have K3 : Hid (∀ S, Keeps S wr w3) := Lib.hid (fun S => Keeps.trans (Keeps.refl S wr).drew (k3 S)); clear k3)))
          have R3 := Lib.hid (HR.out.keeps (K3.out (fun _ => False)) (fun z => z))
          have K4 := Lib.hid (HK.out.trans (K3.out _))
          clear z0 z1 cy ca K3 HK HR HCC g1 g2 g4 g5
          go_wp2
          go_roundw
          clear wy
          case rel => exact ⟨y + 1, r, by first | rfl | go_num, rfl, by have := HSR.out; have := HY.out.1; omega, K4.out, R3.out, fun t h1 h2 => by
            have h3 := HB.out.a0; have h4 := HB.out.rq; have h5 := HB.out.rm; have h6 := HB.out.nb; have h7 := HB.out.ne; have h8 := HB.out.pe
            have h9 := HSR.out; have h10 := HY.out
            have e1 := H1.out t y (by omega) (by omega) (by omega)
            have e2 := H2.out z (p - t) (by omega) (by omega) (by omega)
            have e3 := HCL.out
            omega, HHI.out⟩
          case measure => have := HY.out.1; simp only [intOf]; omega
      · have hlt' : ¬ (s : Int) < (r : Int) := by omega
        have hsre : s = r := by omega
        obtain ⟨ed, hed⟩ : ∃ x, x = mid + q - s := ⟨_, rfl⟩
        have hcut : Cut K d a q b mid s := by
          have h3 := HB.out.a0; have h4 := HB.out.rq; have h5 := HB.out.rm; have h6 := HB.out.nb; have h7 := HB.out.ne; have h8 := HB.out.pe; have h9 := HB.out.aq; have h10 := HB.out.qb; have h11 := HB.out.m1; have h12 := HB.out.m2
          refine ⟨by omega, by omega, by omega, by omega, by omega, fun i1 i2 => ?_, fun i1 i2 => ?_⟩
          · have i3 := hlo (s - 1) (by have := HB.out.s0e; omega) (by omega)
            rw [show p - (s - 1) = mid + q - s by omega] at i3
            exact i3
          · have i3 := hhi s (by omega) (by have := HB.out.r0e; omega)
            rw [show p - s = mid + q - s - 1 by omega] at i3
            exact i3
        have HED := Lib.hid (show ed = mid + q - s ∧ (a ≤ s ∧ s ≤ q ∧ s ≤ mid ∧ ed ≤ b ∧ q ≤ ed ∧ mid ≤ ed) ∧ ed ≤ m ∧ mid ≤ m from by
          have h1 := hcut.as; have h2 := hcut.sm; have h3 := hcut.sd; have h4 := hcut.eb; have h5 := HB.out.bm; have h6 := hcut.md
          omega)
        have G1 := Lib.hid (wsub n s ed (by have h1 := HED.out; have h2 := HB.out.ne; omega) (by have h1 := HB.out.nm; omega))
        have HCU := Lib.hid hcut
        have HRC := Lib.hid (fun (i1 : s < q) (i2 : q < ed) => rotate_ wr R m c (.func (.func 51) #[] #[.pointer (some ⟨X, 0, none⟩)]) s q ed d hr i1 i2 HED.out.2.2.1 HB.out.mm)
        have HQ := Lib.hid (show a < q ∧ q < b from by have := HB.out.aq; have := HB.out.qb; omega)
        have hlen : mid - a < b - a ∧ b - mid < b - a := by have h1 := HB.out.m1; have h2 := HB.out.m2; have h3 := HB.out.aq; have h4 := HB.out.qb; omega
        have HLEN := Lib.hid hlen
        clear hsr hkk hlo hhi hlt hsre hed hcut hr hlen HSR HLO HHI
        by_cases hP : s < q
        · by_cases hQ : s < mid
          · by_cases hA : a < s
            · by_cases hB : ed < b
              · have p1 : (s : Int) < (q : Int) := by omega
                have p2 : (mid : Int) < (ed : Int) := by have := HED.out; omega
                have q1 : (q : Int) < (ed : Int) := by have := HED.out; omega
                have q2 : (s : Int) < (mid : Int) := by omega
                have a1 : (a : Int) < (s : Int) := by omega
                have b1 : (ed : Int) < (b : Int) := by omega
                have HF := Lib.hid (And.intro hP (And.intro hQ (And.intro hA hB)))
                clear hP hQ hA hB
                have RC := Lib.hid (HRC.out HF.out.1 (by have := HED.out; have := HF.out; omega))
                have g1 := G1.out
                go_wp2_with fail
                clear g1
                refine RC.out.mono ?_
                rintro e5 w5 ⟨rfl, k5, r5, s5⟩
                have S5 := Lib.hid (show Keeps (· = R) w w5 ∧ Ro w5 R m (rot s q ed d) ∧ Seg a b d (rot s q ed d) from ⟨HK.out.trans k5, r5, s5.wide HED.out.2.1.1 (by have := HED.out; omega) HED.out.2.1.2.2.2.1⟩)
                clear k5 r5 s5 RC
                clear HRC HK HR
                obtain ⟨g0, hg0⟩ : ∃ x, x = rot s q ed d := ⟨_, rfl⟩
                have rr := HCU.out.rot_ HQ.out.1 HQ.out.2 H1.out H2.out
                rw [← HED.out.1, ← hg0] at rr
                have RM := Lib.hid (HIH.out w5 a s mid g0 HLEN.out.1 (by rw [hg0]; exact S5.out.2.1) (HC.out.on S5.out.1) HF.out.2.2.1 HF.out.2.1 HED.out.2.2.2 rr.1 rr.2.1)
                have HG := Lib.hid hg0
                clear rr hg0
                have g1 := G1.out
                go_wp2_with fail
                clear g1
                refine RM.out.mono ?_
                rintro e6 w6 ⟨rfl, k6, g6, r6, s6, o6⟩
                have S6 := Lib.hid (show Keeps (· = R) w w6 ∧ Ro w6 R m g6 ∧ Six K a mid ed b d g6 from ⟨S5.out.1.trans k6, r6, six_yes HCU.out HQ.out.1 HQ.out.2 H1.out H2.out HED.out.1 S5.out.2.2 (by rw [← HG.out]; exact s6) o6⟩)
                clear k6 r6 s6 o6 RM HG
                clear S5 H1 H2
                have RM := Lib.hid (HIH.out w6 mid ed b g6 HLEN.out.2 S6.out.2.1 (HC.out.on S6.out.1) (by have := HED.out; have := HF.out; omega) HF.out.2.2.2 HB.out.bm S6.out.2.2.m1 S6.out.2.2.m2)
                have g1 := G1.out
                go_wp2_with fail
                clear g1
                refine RM.out.mono ?_
                rintro e7 w7 ⟨rfl, k7, g7, r7, s7, o7⟩
                have ff := fin_yes S6.out.2.2 HCU.out.md.1 HCU.out.md.2 s7 o7
                have S7 := Lib.hid (show Keeps (· = R) w w7 ∧ ∃ g, Ro w7 R m g ∧ Seg a b d g ∧ So K g a b from ⟨S6.out.1.trans k7, g7, r7, ff.1, ff.2⟩)
                clear k7 r7 s7 o7 ff RM
                clear S6
                have g1 := G1.out
                go_wp2
                all_goals (first | go_end0 | ((try simp only [Exit.inBlock, Exit.then]); refine bodyPost_ret (results_none rfl _ _ _) rfl ?_))
                all_goals exact ⟨rfl, S7.out⟩
              · have p1 : (s : Int) < (q : Int) := by omega
                have p2 : (mid : Int) < (ed : Int) := by have := HED.out; omega
                have q1 : (q : Int) < (ed : Int) := by have := HED.out; omega
                have q2 : (s : Int) < (mid : Int) := by omega
                have a1 : (a : Int) < (s : Int) := by omega
                have b1 : ¬ (ed : Int) < (b : Int) := by omega
                have HF := Lib.hid (And.intro hP (And.intro hQ (And.intro hA hB)))
                clear hP hQ hA hB
                have RC := Lib.hid (HRC.out HF.out.1 (by have := HED.out; have := HF.out; omega))
                have g1 := G1.out
                go_wp2_with fail
                clear g1
                refine RC.out.mono ?_
                rintro e5 w5 ⟨rfl, k5, r5, s5⟩
                have S5 := Lib.hid (show Keeps (· = R) w w5 ∧ Ro w5 R m (rot s q ed d) ∧ Seg a b d (rot s q ed d) from ⟨HK.out.trans k5, r5, s5.wide HED.out.2.1.1 (by have := HED.out; omega) HED.out.2.1.2.2.2.1⟩)
                clear k5 r5 s5 RC
                clear HRC HK HR
                obtain ⟨g0, hg0⟩ : ∃ x, x = rot s q ed d := ⟨_, rfl⟩
                have rr := HCU.out.rot_ HQ.out.1 HQ.out.2 H1.out H2.out
                rw [← HED.out.1, ← hg0] at rr
                have RM := Lib.hid (HIH.out w5 a s mid g0 HLEN.out.1 (by rw [hg0]; exact S5.out.2.1) (HC.out.on S5.out.1) HF.out.2.2.1 HF.out.2.1 HED.out.2.2.2 rr.1 rr.2.1)
                have HG := Lib.hid hg0
                clear rr hg0
                have g1 := G1.out
                go_wp2_with fail
                clear g1
                refine RM.out.mono ?_
                rintro e6 w6 ⟨rfl, k6, g6, r6, s6, o6⟩
                have S6 := Lib.hid (show Keeps (· = R) w w6 ∧ Ro w6 R m g6 ∧ Six K a mid ed b d g6 from ⟨S5.out.1.trans k6, r6, six_yes HCU.out HQ.out.1 HQ.out.2 H1.out H2.out HED.out.1 S5.out.2.2 (by rw [← HG.out]; exact s6) o6⟩)
                clear k6 r6 s6 o6 RM HG
                clear S5 H1 H2
                have ff := fin_no S6.out.2.2 (by have := HED.out; have := HF.out; omega)
                have S7 := Lib.hid (show Keeps (· = R) w w6 ∧ ∃ g, Ro w6 R m g ∧ Seg a b d g ∧ So K g a b from ⟨S6.out.1, g6, S6.out.2.1, ff.1, ff.2⟩)
                clear ff
                clear S6
                have g1 := G1.out
                go_wp2
                all_goals (first | go_end0 | ((try simp only [Exit.inBlock, Exit.then]); refine bodyPost_ret (results_none rfl _ _ _) rfl ?_))
                all_goals exact ⟨rfl, S7.out⟩
            · by_cases hB : ed < b
              · have p1 : (s : Int) < (q : Int) := by omega
                have p2 : (mid : Int) < (ed : Int) := by have := HED.out; omega
                have q1 : (q : Int) < (ed : Int) := by have := HED.out; omega
                have q2 : (s : Int) < (mid : Int) := by omega
                have a1 : ¬ (a : Int) < (s : Int) := by omega
                have b1 : (ed : Int) < (b : Int) := by omega
                have HF := Lib.hid (And.intro hP (And.intro hQ (And.intro hA hB)))
                clear hP hQ hA hB
                have RC := Lib.hid (HRC.out HF.out.1 (by have := HED.out; have := HF.out; omega))
                have g1 := G1.out
                go_wp2_with fail
                clear g1
                refine RC.out.mono ?_
                rintro e5 w5 ⟨rfl, k5, r5, s5⟩
                have S5 := Lib.hid (show Keeps (· = R) w w5 ∧ Ro w5 R m (rot s q ed d) ∧ Seg a b d (rot s q ed d) from ⟨HK.out.trans k5, r5, s5.wide HED.out.2.1.1 (by have := HED.out; omega) HED.out.2.1.2.2.2.1⟩)
                clear k5 r5 s5 RC
                clear HRC HK HR
                obtain ⟨g0, hg0⟩ : ∃ x, x = rot s q ed d := ⟨_, rfl⟩
                have six := six_no HCU.out HQ.out.1 HQ.out.2 H1.out H2.out HED.out.1 S5.out.2.2 (by have := HF.out; omega)
                rw [← hg0] at six
                obtain ⟨g6, hg6⟩ : ∃ x, x = g0 := ⟨_, rfl⟩
                rw [← hg6] at six
                obtain ⟨w6, hw6⟩ : ∃ x, x = w5 := ⟨_, rfl⟩
                rw [← hw6]
                have S6 := Lib.hid (show Keeps (· = R) w w6 ∧ Ro w6 R m g6 ∧ Six K a mid ed b d g6 from ⟨by rw [hw6]; exact S5.out.1, by rw [hw6, hg6, hg0]; exact S5.out.2.1, six⟩)
                clear six hg6 hw6 hg0
                clear S5 H1 H2
                have RM := Lib.hid (HIH.out w6 mid ed b g6 HLEN.out.2 S6.out.2.1 (HC.out.on S6.out.1) (by have := HED.out; have := HF.out; omega) HF.out.2.2.2 HB.out.bm S6.out.2.2.m1 S6.out.2.2.m2)
                have g1 := G1.out
                go_wp2_with fail
                clear g1
                refine RM.out.mono ?_
                rintro e7 w7 ⟨rfl, k7, g7, r7, s7, o7⟩
                have ff := fin_yes S6.out.2.2 HCU.out.md.1 HCU.out.md.2 s7 o7
                have S7 := Lib.hid (show Keeps (· = R) w w7 ∧ ∃ g, Ro w7 R m g ∧ Seg a b d g ∧ So K g a b from ⟨S6.out.1.trans k7, g7, r7, ff.1, ff.2⟩)
                clear k7 r7 s7 o7 ff RM
                clear S6
                have g1 := G1.out
                go_wp2
                all_goals (first | go_end0 | ((try simp only [Exit.inBlock, Exit.then]); refine bodyPost_ret (results_none rfl _ _ _) rfl ?_))
                all_goals exact ⟨rfl, S7.out⟩
              · have p1 : (s : Int) < (q : Int) := by omega
                have p2 : (mid : Int) < (ed : Int) := by have := HED.out; omega
                have q1 : (q : Int) < (ed : Int) := by have := HED.out; omega
                have q2 : (s : Int) < (mid : Int) := by omega
                have a1 : ¬ (a : Int) < (s : Int) := by omega
                have b1 : ¬ (ed : Int) < (b : Int) := by omega
                have HF := Lib.hid (And.intro hP (And.intro hQ (And.intro hA hB)))
                clear hP hQ hA hB
                have RC := Lib.hid (HRC.out HF.out.1 (by have := HED.out; have := HF.out; omega))
                have g1 := G1.out
                go_wp2_with fail
                clear g1
                refine RC.out.mono ?_
                rintro e5 w5 ⟨rfl, k5, r5, s5⟩
                have S5 := Lib.hid (show Keeps (· = R) w w5 ∧ Ro w5 R m (rot s q ed d) ∧ Seg a b d (rot s q ed d) from ⟨HK.out.trans k5, r5, s5.wide HED.out.2.1.1 (by have := HED.out; omega) HED.out.2.1.2.2.2.1⟩)
                clear k5 r5 s5 RC
                clear HRC HK HR
                obtain ⟨g0, hg0⟩ : ∃ x, x = rot s q ed d := ⟨_, rfl⟩
                have six := six_no HCU.out HQ.out.1 HQ.out.2 H1.out H2.out HED.out.1 S5.out.2.2 (by have := HF.out; omega)
                rw [← hg0] at six
                obtain ⟨g6, hg6⟩ : ∃ x, x = g0 := ⟨_, rfl⟩
                rw [← hg6] at six
                obtain ⟨w6, hw6⟩ : ∃ x, x = w5 := ⟨_, rfl⟩
                rw [← hw6]
                have S6 := Lib.hid (show Keeps (· = R) w w6 ∧ Ro w6 R m g6 ∧ Six K a mid ed b d g6 from ⟨by rw [hw6]; exact S5.out.1, by rw [hw6, hg6, hg0]; exact S5.out.2.1, six⟩)
                clear six hg6 hw6 hg0
                clear S5 H1 H2
                have ff := fin_no S6.out.2.2 (by have := HED.out; have := HF.out; omega)
                have S7 := Lib.hid (show Keeps (· = R) w w6 ∧ ∃ g, Ro w6 R m g ∧ Seg a b d g ∧ So K g a b from ⟨S6.out.1, g6, S6.out.2.1, ff.1, ff.2⟩)
                clear ff
                clear S6
                have g1 := G1.out
                go_wp2
                all_goals (first | go_end0 | ((try simp only [Exit.inBlock, Exit.then]); refine bodyPost_ret (results_none rfl _ _ _) rfl ?_))
                all_goals exact ⟨rfl, S7.out⟩
          · by_cases hA : a < s
            · by_cases hB : ed < b
              · have p1 : (s : Int) < (q : Int) := by omega
                have p2 : (mid : Int) < (ed : Int) := by have := HED.out; omega
                have q1 : ¬ (q : Int) < (ed : Int) := by have := HED.out; omega
                have q2 : ¬ (s : Int) < (mid : Int) := by omega
                have a1 : (a : Int) < (s : Int) := by omega
                have b1 : (ed : Int) < (b : Int) := by omega
                have HF := Lib.hid (And.intro hP (And.intro hQ (And.intro hA hB)))
                clear hP hQ hA hB
                have ht : rot s q ed d = d := rot_triv d (by have := HED.out; have := HF.out; omega) HED.out.2.1.2.1 HED.out.2.1.2.2.2.2.1
                obtain ⟨w5, hw5⟩ : ∃ x, x = wr := ⟨_, rfl⟩
                rw [← hw5]
                have S5 := Lib.hid (show Keeps (· = R) w w5 ∧ Ro w5 R m (rot s q ed d) ∧ Seg a b d (rot s q ed d) from ⟨by rw [hw5]; exact HK.out, by rw [hw5, ht]; exact HR.out, by rw [ht]; exact Seg.refl _ _ _⟩)
                clear hw5 ht
                clear HRC HK HR
                obtain ⟨g0, hg0⟩ : ∃ x, x = rot s q ed d := ⟨_, rfl⟩
                have six := six_no HCU.out HQ.out.1 HQ.out.2 H1.out H2.out HED.out.1 S5.out.2.2 (by have := HF.out; omega)
                rw [← hg0] at six
                obtain ⟨g6, hg6⟩ : ∃ x, x = g0 := ⟨_, rfl⟩
                rw [← hg6] at six
                obtain ⟨w6, hw6⟩ : ∃ x, x = w5 := ⟨_, rfl⟩
                rw [← hw6]
                have S6 := Lib.hid (show Keeps (· = R) w w6 ∧ Ro w6 R m g6 ∧ Six K a mid ed b d g6 from ⟨by rw [hw6]; exact S5.out.1, by rw [hw6, hg6, hg0]; exact S5.out.2.1, six⟩)
                clear six hg6 hw6 hg0
                clear S5 H1 H2
                have RM := Lib.hid (HIH.out w6 mid ed b g6 HLEN.out.2 S6.out.2.1 (HC.out.on S6.out.1) (by have := HED.out; have := HF.out; omega) HF.out.2.2.2 HB.out.bm S6.out.2.2.m1 S6.out.2.2.m2)
                have g1 := G1.out
                go_wp2_with fail
                clear g1
                refine RM.out.mono ?_
                rintro e7 w7 ⟨rfl, k7, g7, r7, s7, o7⟩
                have ff := fin_yes S6.out.2.2 HCU.out.md.1 HCU.out.md.2 s7 o7
                have S7 := Lib.hid (show Keeps (· = R) w w7 ∧ ∃ g, Ro w7 R m g ∧ Seg a b d g ∧ So K g a b from ⟨S6.out.1.trans k7, g7, r7, ff.1, ff.2⟩)
                clear k7 r7 s7 o7 ff RM
                clear S6
                have g1 := G1.out
                go_wp2
                all_goals (first | go_end0 | ((try simp only [Exit.inBlock, Exit.then]); refine bodyPost_ret (results_none rfl _ _ _) rfl ?_))
                all_goals exact ⟨rfl, S7.out⟩
              · have p1 : (s : Int) < (q : Int) := by omega
                have p2 : (mid : Int) < (ed : Int) := by have := HED.out; omega
                have q1 : ¬ (q : Int) < (ed : Int) := by have := HED.out; omega
                have q2 : ¬ (s : Int) < (mid : Int) := by omega
                have a1 : (a : Int) < (s : Int) := by omega
                have b1 : ¬ (ed : Int) < (b : Int) := by omega
                have HF := Lib.hid (And.intro hP (And.intro hQ (And.intro hA hB)))
                clear hP hQ hA hB
                have ht : rot s q ed d = d := rot_triv d (by have := HED.out; have := HF.out; omega) HED.out.2.1.2.1 HED.out.2.1.2.2.2.2.1
                obtain ⟨w5, hw5⟩ : ∃ x, x = wr := ⟨_, rfl⟩
                rw [← hw5]
                have S5 := Lib.hid (show Keeps (· = R) w w5 ∧ Ro w5 R m (rot s q ed d) ∧ Seg a b d (rot s q ed d) from ⟨by rw [hw5]; exact HK.out, by rw [hw5, ht]; exact HR.out, by rw [ht]; exact Seg.refl _ _ _⟩)
                clear hw5 ht
                clear HRC HK HR
                obtain ⟨g0, hg0⟩ : ∃ x, x = rot s q ed d := ⟨_, rfl⟩
                have six := six_no HCU.out HQ.out.1 HQ.out.2 H1.out H2.out HED.out.1 S5.out.2.2 (by have := HF.out; omega)
                rw [← hg0] at six
                obtain ⟨g6, hg6⟩ : ∃ x, x = g0 := ⟨_, rfl⟩
                rw [← hg6] at six
                obtain ⟨w6, hw6⟩ : ∃ x, x = w5 := ⟨_, rfl⟩
                rw [← hw6]
                have S6 := Lib.hid (show Keeps (· = R) w w6 ∧ Ro w6 R m g6 ∧ Six K a mid ed b d g6 from ⟨by rw [hw6]; exact S5.out.1, by rw [hw6, hg6, hg0]; exact S5.out.2.1, six⟩)
                clear six hg6 hw6 hg0
                clear S5 H1 H2
                have ff := fin_no S6.out.2.2 (by have := HED.out; have := HF.out; omega)
                have S7 := Lib.hid (show Keeps (· = R) w w6 ∧ ∃ g, Ro w6 R m g ∧ Seg a b d g ∧ So K g a b from ⟨S6.out.1, g6, S6.out.2.1, ff.1, ff.2⟩)
                clear ff
                clear S6
                have g1 := G1.out
                go_wp2
                all_goals (first | go_end0 | ((try simp only [Exit.inBlock, Exit.then]); refine bodyPost_ret (results_none rfl _ _ _) rfl ?_))
                all_goals exact ⟨rfl, S7.out⟩
            · by_cases hB : ed < b
              · have p1 : (s : Int) < (q : Int) := by omega
                have p2 : (mid : Int) < (ed : Int) := by have := HED.out; omega
                have q1 : ¬ (q : Int) < (ed : Int) := by have := HED.out; omega
                have q2 : ¬ (s : Int) < (mid : Int) := by omega
                have a1 : ¬ (a : Int) < (s : Int) := by omega
                have b1 : (ed : Int) < (b : Int) := by omega
                have HF := Lib.hid (And.intro hP (And.intro hQ (And.intro hA hB)))
                clear hP hQ hA hB
                have ht : rot s q ed d = d := rot_triv d (by have := HED.out; have := HF.out; omega) HED.out.2.1.2.1 HED.out.2.1.2.2.2.2.1
                obtain ⟨w5, hw5⟩ : ∃ x, x = wr := ⟨_, rfl⟩
                rw [← hw5]
                have S5 := Lib.hid (show Keeps (· = R) w w5 ∧ Ro w5 R m (rot s q ed d) ∧ Seg a b d (rot s q ed d) from ⟨by rw [hw5]; exact HK.out, by rw [hw5, ht]; exact HR.out, by rw [ht]; exact Seg.refl _ _ _⟩)
                clear hw5 ht
                clear HRC HK HR
                obtain ⟨g0, hg0⟩ : ∃ x, x = rot s q ed d := ⟨_, rfl⟩
                have six := six_no HCU.out HQ.out.1 HQ.out.2 H1.out H2.out HED.out.1 S5.out.2.2 (by have := HF.out; omega)
                rw [← hg0] at six
                obtain ⟨g6, hg6⟩ : ∃ x, x = g0 := ⟨_, rfl⟩
                rw [← hg6] at six
                obtain ⟨w6, hw6⟩ : ∃ x, x = w5 := ⟨_, rfl⟩
                rw [← hw6]
                have S6 := Lib.hid (show Keeps (· = R) w w6 ∧ Ro w6 R m g6 ∧ Six K a mid ed b d g6 from ⟨by rw [hw6]; exact S5.out.1, by rw [hw6, hg6, hg0]; exact S5.out.2.1, six⟩)
                clear six hg6 hw6 hg0
                clear S5 H1 H2
                have RM := Lib.hid (HIH.out w6 mid ed b g6 HLEN.out.2 S6.out.2.1 (HC.out.on S6.out.1) (by have := HED.out; have := HF.out; omega) HF.out.2.2.2 HB.out.bm S6.out.2.2.m1 S6.out.2.2.m2)
                have g1 := G1.out
                go_wp2_with fail
                clear g1
                refine RM.out.mono ?_
                rintro e7 w7 ⟨rfl, k7, g7, r7, s7, o7⟩
                have ff := fin_yes S6.out.2.2 HCU.out.md.1 HCU.out.md.2 s7 o7
                have S7 := Lib.hid (show Keeps (· = R) w w7 ∧ ∃ g, Ro w7 R m g ∧ Seg a b d g ∧ So K g a b from ⟨S6.out.1.trans k7, g7, r7, ff.1, ff.2⟩)
                clear k7 r7 s7 o7 ff RM
                clear S6
                have g1 := G1.out
                go_wp2
                all_goals (first | go_end0 | ((try simp only [Exit.inBlock, Exit.then]); refine bodyPost_ret (results_none rfl _ _ _) rfl ?_))
                all_goals exact ⟨rfl, S7.out⟩
              · have p1 : (s : Int) < (q : Int) := by omega
                have p2 : (mid : Int) < (ed : Int) := by have := HED.out; omega
                have q1 : ¬ (q : Int) < (ed : Int) := by have := HED.out; omega
                have q2 : ¬ (s : Int) < (mid : Int) := by omega
                have a1 : ¬ (a : Int) < (s : Int) := by omega
                have b1 : ¬ (ed : Int) < (b : Int) := by omega
                have HF := Lib.hid (And.intro hP (And.intro hQ (And.intro hA hB)))
                clear hP hQ hA hB
                have ht : rot s q ed d = d := rot_triv d (by have := HED.out; have := HF.out; omega) HED.out.2.1.2.1 HED.out.2.1.2.2.2.2.1
                obtain ⟨w5, hw5⟩ : ∃ x, x = wr := ⟨_, rfl⟩
                rw [← hw5]
                have S5 := Lib.hid (show Keeps (· = R) w w5 ∧ Ro w5 R m (rot s q ed d) ∧ Seg a b d (rot s q ed d) from ⟨by rw [hw5]; exact HK.out, by rw [hw5, ht]; exact HR.out, by rw [ht]; exact Seg.refl _ _ _⟩)
                clear hw5 ht
                clear HRC HK HR
                obtain ⟨g0, hg0⟩ : ∃ x, x = rot s q ed d := ⟨_, rfl⟩
                have six := six_no HCU.out HQ.out.1 HQ.out.2 H1.out H2.out HED.out.1 S5.out.2.2 (by have := HF.out; omega)
                rw [← hg0] at six
                obtain ⟨g6, hg6⟩ : ∃ x, x = g0 := ⟨_, rfl⟩
                rw [← hg6] at six
                obtain ⟨w6, hw6⟩ : ∃ x, x = w5 := ⟨_, rfl⟩
                rw [← hw6]
                have S6 := Lib.hid (show Keeps (· = R) w w6 ∧ Ro w6 R m g6 ∧ Six K a mid ed b d g6 from ⟨by rw [hw6]; exact S5.out.1, by rw [hw6, hg6, hg0]; exact S5.out.2.1, six⟩)
                clear six hg6 hw6 hg0
                clear S5 H1 H2
                have ff := fin_no S6.out.2.2 (by have := HED.out; have := HF.out; omega)
                have S7 := Lib.hid (show Keeps (· = R) w w6 ∧ ∃ g, Ro w6 R m g ∧ Seg a b d g ∧ So K g a b from ⟨S6.out.1, g6, S6.out.2.1, ff.1, ff.2⟩)
                clear ff
                clear S6
                have g1 := G1.out
                go_wp2
                all_goals (first | go_end0 | ((try simp only [Exit.inBlock, Exit.then]); refine bodyPost_ret (results_none rfl _ _ _) rfl ?_))
                all_goals exact ⟨rfl, S7.out⟩
        · by_cases hQ : s < mid
          · by_cases hA : a < s
            · by_cases hB : ed < b
              · have p1 : ¬ (s : Int) < (q : Int) := by omega
                have p2 : ¬ (mid : Int) < (ed : Int) := by have := HED.out; omega
                have q1 : (q : Int) < (ed : Int) := by have := HED.out; omega
                have q2 : (s : Int) < (mid : Int) := by omega
                have a1 : (a : Int) < (s : Int) := by omega
                have b1 : (ed : Int) < (b : Int) := by omega
                have HF := Lib.hid (And.intro hP (And.intro hQ (And.intro hA hB)))
                clear hP hQ hA hB
                have ht : rot s q ed d = d := rot_triv d (by have := HED.out; have := HF.out; omega) HED.out.2.1.2.1 HED.out.2.1.2.2.2.2.1
                obtain ⟨w5, hw5⟩ : ∃ x, x = wr := ⟨_, rfl⟩
                rw [← hw5]
                have S5 := Lib.hid (show Keeps (· = R) w w5 ∧ Ro w5 R m (rot s q ed d) ∧ Seg a b d (rot s q ed d) from ⟨by rw [hw5]; exact HK.out, by rw [hw5, ht]; exact HR.out, by rw [ht]; exact Seg.refl _ _ _⟩)
                clear hw5 ht
                clear HRC HK HR
                obtain ⟨g0, hg0⟩ : ∃ x, x = rot s q ed d := ⟨_, rfl⟩
                have rr := HCU.out.rot_ HQ.out.1 HQ.out.2 H1.out H2.out
                rw [← HED.out.1, ← hg0] at rr
                have RM := Lib.hid (HIH.out w5 a s mid g0 HLEN.out.1 (by rw [hg0]; exact S5.out.2.1) (HC.out.on S5.out.1) HF.out.2.2.1 HF.out.2.1 HED.out.2.2.2 rr.1 rr.2.1)
                have HG := Lib.hid hg0
                clear rr hg0
                have g1 := G1.out
                go_wp2_with fail
                clear g1
                refine RM.out.mono ?_
                rintro e6 w6 ⟨rfl, k6, g6, r6, s6, o6⟩
                have S6 := Lib.hid (show Keeps (· = R) w w6 ∧ Ro w6 R m g6 ∧ Six K a mid ed b d g6 from ⟨S5.out.1.trans k6, r6, six_yes HCU.out HQ.out.1 HQ.out.2 H1.out H2.out HED.out.1 S5.out.2.2 (by rw [← HG.out]; exact s6) o6⟩)
                clear k6 r6 s6 o6 RM HG
                clear S5 H1 H2
                have ff := fin_no S6.out.2.2 (by have := HED.out; have := HF.out; omega)
                have S7 := Lib.hid (show Keeps (· = R) w w6 ∧ ∃ g, Ro w6 R m g ∧ Seg a b d g ∧ So K g a b from ⟨S6.out.1, g6, S6.out.2.1, ff.1, ff.2⟩)
                clear ff
                clear S6
                have g1 := G1.out
                go_wp2
                all_goals (first | go_end0 | ((try simp only [Exit.inBlock, Exit.then]); refine bodyPost_ret (results_none rfl _ _ _) rfl ?_))
                all_goals exact ⟨rfl, S7.out⟩
              · have p1 : ¬ (s : Int) < (q : Int) := by omega
                have p2 : ¬ (mid : Int) < (ed : Int) := by have := HED.out; omega
                have q1 : (q : Int) < (ed : Int) := by have := HED.out; omega
                have q2 : (s : Int) < (mid : Int) := by omega
                have a1 : (a : Int) < (s : Int) := by omega
                have b1 : ¬ (ed : Int) < (b : Int) := by omega
                have HF := Lib.hid (And.intro hP (And.intro hQ (And.intro hA hB)))
                clear hP hQ hA hB
                have ht : rot s q ed d = d := rot_triv d (by have := HED.out; have := HF.out; omega) HED.out.2.1.2.1 HED.out.2.1.2.2.2.2.1
                obtain ⟨w5, hw5⟩ : ∃ x, x = wr := ⟨_, rfl⟩
                rw [← hw5]
                have S5 := Lib.hid (show Keeps (· = R) w w5 ∧ Ro w5 R m (rot s q ed d) ∧ Seg a b d (rot s q ed d) from ⟨by rw [hw5]; exact HK.out, by rw [hw5, ht]; exact HR.out, by rw [ht]; exact Seg.refl _ _ _⟩)
                clear hw5 ht
                clear HRC HK HR
                obtain ⟨g0, hg0⟩ : ∃ x, x = rot s q ed d := ⟨_, rfl⟩
                have rr := HCU.out.rot_ HQ.out.1 HQ.out.2 H1.out H2.out
                rw [← HED.out.1, ← hg0] at rr
                have RM := Lib.hid (HIH.out w5 a s mid g0 HLEN.out.1 (by rw [hg0]; exact S5.out.2.1) (HC.out.on S5.out.1) HF.out.2.2.1 HF.out.2.1 HED.out.2.2.2 rr.1 rr.2.1)
                have HG := Lib.hid hg0
                clear rr hg0
                have g1 := G1.out
                go_wp2_with fail
                clear g1
                refine RM.out.mono ?_
                rintro e6 w6 ⟨rfl, k6, g6, r6, s6, o6⟩
                have S6 := Lib.hid (show Keeps (· = R) w w6 ∧ Ro w6 R m g6 ∧ Six K a mid ed b d g6 from ⟨S5.out.1.trans k6, r6, six_yes HCU.out HQ.out.1 HQ.out.2 H1.out H2.out HED.out.1 S5.out.2.2 (by rw [← HG.out]; exact s6) o6⟩)
                clear k6 r6 s6 o6 RM HG
                clear S5 H1 H2
                have ff := fin_no S6.out.2.2 (by have := HED.out; have := HF.out; omega)
                have S7 := Lib.hid (show Keeps (· = R) w w6 ∧ ∃ g, Ro w6 R m g ∧ Seg a b d g ∧ So K g a b from ⟨S6.out.1, g6, S6.out.2.1, ff.1, ff.2⟩)
                clear ff
                clear S6
                have g1 := G1.out
                go_wp2
                all_goals (first | go_end0 | ((try simp only [Exit.inBlock, Exit.then]); refine bodyPost_ret (results_none rfl _ _ _) rfl ?_))
                all_goals exact ⟨rfl, S7.out⟩
            · by_cases hB : ed < b
              · have p1 : ¬ (s : Int) < (q : Int) := by omega
                have p2 : ¬ (mid : Int) < (ed : Int) := by have := HED.out; omega
                have q1 : (q : Int) < (ed : Int) := by have := HED.out; omega
                have q2 : (s : Int) < (mid : Int) := by omega
                have a1 : ¬ (a : Int) < (s : Int) := by omega
                have b1 : (ed : Int) < (b : Int) := by omega
                have HF := Lib.hid (And.intro hP (And.intro hQ (And.intro hA hB)))
                clear hP hQ hA hB
                have ht : rot s q ed d = d := rot_triv d (by have := HED.out; have := HF.out; omega) HED.out.2.1.2.1 HED.out.2.1.2.2.2.2.1
                obtain ⟨w5, hw5⟩ : ∃ x, x = wr := ⟨_, rfl⟩
                rw [← hw5]
                have S5 := Lib.hid (show Keeps (· = R) w w5 ∧ Ro w5 R m (rot s q ed d) ∧ Seg a b d (rot s q ed d) from ⟨by rw [hw5]; exact HK.out, by rw [hw5, ht]; exact HR.out, by rw [ht]; exact Seg.refl _ _ _⟩)
                clear hw5 ht
                clear HRC HK HR
                obtain ⟨g0, hg0⟩ : ∃ x, x = rot s q ed d := ⟨_, rfl⟩
                have six := six_no HCU.out HQ.out.1 HQ.out.2 H1.out H2.out HED.out.1 S5.out.2.2 (by have := HF.out; omega)
                rw [← hg0] at six
                obtain ⟨g6, hg6⟩ : ∃ x, x = g0 := ⟨_, rfl⟩
                rw [← hg6] at six
                obtain ⟨w6, hw6⟩ : ∃ x, x = w5 := ⟨_, rfl⟩
                rw [← hw6]
                have S6 := Lib.hid (show Keeps (· = R) w w6 ∧ Ro w6 R m g6 ∧ Six K a mid ed b d g6 from ⟨by rw [hw6]; exact S5.out.1, by rw [hw6, hg6, hg0]; exact S5.out.2.1, six⟩)
                clear six hg6 hw6 hg0
                clear S5 H1 H2
                have ff := fin_no S6.out.2.2 (by have := HED.out; have := HF.out; omega)
                have S7 := Lib.hid (show Keeps (· = R) w w6 ∧ ∃ g, Ro w6 R m g ∧ Seg a b d g ∧ So K g a b from ⟨S6.out.1, g6, S6.out.2.1, ff.1, ff.2⟩)
                clear ff
                clear S6
                have g1 := G1.out
                go_wp2
                all_goals (first | go_end0 | ((try simp only [Exit.inBlock, Exit.then]); refine bodyPost_ret (results_none rfl _ _ _) rfl ?_))
                all_goals exact ⟨rfl, S7.out⟩
              · have p1 : ¬ (s : Int) < (q : Int) := by omega
                have p2 : ¬ (mid : Int) < (ed : Int) := by have := HED.out; omega
                have q1 : (q : Int) < (ed : Int) := by have := HED.out; omega
                have q2 : (s : Int) < (mid : Int) := by omega
                have a1 : ¬ (a : Int) < (s : Int) := by omega
                have b1 : ¬ (ed : Int) < (b : Int) := by omega
                have HF := Lib.hid (And.intro hP (And.intro hQ (And.intro hA hB)))
                clear hP hQ hA hB
                have ht : rot s q ed d = d := rot_triv d (by have := HED.out; have := HF.out; omega) HED.out.2.1.2.1 HED.out.2.1.2.2.2.2.1
                obtain ⟨w5, hw5⟩ : ∃ x, x = wr := ⟨_, rfl⟩
                rw [← hw5]
                have S5 := Lib.hid (show Keeps (· = R) w w5 ∧ Ro w5 R m (rot s q ed d) ∧ Seg a b d (rot s q ed d) from ⟨by rw [hw5]; exact HK.out, by rw [hw5, ht]; exact HR.out, by rw [ht]; exact Seg.refl _ _ _⟩)
                clear hw5 ht
                clear HRC HK HR
                obtain ⟨g0, hg0⟩ : ∃ x, x = rot s q ed d := ⟨_, rfl⟩
                have six := six_no HCU.out HQ.out.1 HQ.out.2 H1.out H2.out HED.out.1 S5.out.2.2 (by have := HF.out; omega)
                rw [← hg0] at six
                obtain ⟨g6, hg6⟩ : ∃ x, x = g0 := ⟨_, rfl⟩
                rw [← hg6] at six
                obtain ⟨w6, hw6⟩ : ∃ x, x = w5 := ⟨_, rfl⟩
                rw [← hw6]
                have S6 := Lib.hid (show Keeps (· = R) w w6 ∧ Ro w6 R m g6 ∧ Six K a mid ed b d g6 from ⟨by rw [hw6]; exact S5.out.1, by rw [hw6, hg6, hg0]; exact S5.out.2.1, six⟩)
                clear six hg6 hw6 hg0
                clear S5 H1 H2
                have ff := fin_no S6.out.2.2 (by have := HED.out; have := HF.out; omega)
                have S7 := Lib.hid (show Keeps (· = R) w w6 ∧ ∃ g, Ro w6 R m g ∧ Seg a b d g ∧ So K g a b from ⟨S6.out.1, g6, S6.out.2.1, ff.1, ff.2⟩)
                clear ff
                clear S6
                have g1 := G1.out
                go_wp2
                all_goals (first | go_end0 | ((try simp only [Exit.inBlock, Exit.then]); refine bodyPost_ret (results_none rfl _ _ _) rfl ?_))
                all_goals exact ⟨rfl, S7.out⟩
          · by_cases hA : a < s
            · by_cases hB : ed < b
              · have p1 : ¬ (s : Int) < (q : Int) := by omega
                have p2 : ¬ (mid : Int) < (ed : Int) := by have := HED.out; omega
                have q1 : ¬ (q : Int) < (ed : Int) := by have := HED.out; omega
                have q2 : ¬ (s : Int) < (mid : Int) := by omega
                have a1 : (a : Int) < (s : Int) := by omega
                have b1 : (ed : Int) < (b : Int) := by omega
                have HF := Lib.hid (And.intro hP (And.intro hQ (And.intro hA hB)))
                clear hP hQ hA hB
                have ht : rot s q ed d = d := rot_triv d (by have := HED.out; have := HF.out; omega) HED.out.2.1.2.1 HED.out.2.1.2.2.2.2.1
                obtain ⟨w5, hw5⟩ : ∃ x, x = wr := ⟨_, rfl⟩
                rw [← hw5]
                have S5 := Lib.hid (show Keeps (· = R) w w5 ∧ Ro w5 R m (rot s q ed d) ∧ Seg a b d (rot s q ed d) from ⟨by rw [hw5]; exact HK.out, by rw [hw5, ht]; exact HR.out, by rw [ht]; exact Seg.refl _ _ _⟩)
                clear hw5 ht
                clear HRC HK HR
                obtain ⟨g0, hg0⟩ : ∃ x, x = rot s q ed d := ⟨_, rfl⟩
                have six := six_no HCU.out HQ.out.1 HQ.out.2 H1.out H2.out HED.out.1 S5.out.2.2 (by have := HF.out; omega)
                rw [← hg0] at six
                obtain ⟨g6, hg6⟩ : ∃ x, x = g0 := ⟨_, rfl⟩
                rw [← hg6] at six
                obtain ⟨w6, hw6⟩ : ∃ x, x = w5 := ⟨_, rfl⟩
                rw [← hw6]
                have S6 := Lib.hid (show Keeps (· = R) w w6 ∧ Ro w6 R m g6 ∧ Six K a mid ed b d g6 from ⟨by rw [hw6]; exact S5.out.1, by rw [hw6, hg6, hg0]; exact S5.out.2.1, six⟩)
                clear six hg6 hw6 hg0
                clear S5 H1 H2
                have ff := fin_no S6.out.2.2 (by have := HED.out; have := HF.out; omega)
                have S7 := Lib.hid (show Keeps (· = R) w w6 ∧ ∃ g, Ro w6 R m g ∧ Seg a b d g ∧ So K g a b from ⟨S6.out.1, g6, S6.out.2.1, ff.1, ff.2⟩)
                clear ff
                clear S6
                have g1 := G1.out
                go_wp2
                all_goals (first | go_end0 | ((try simp only [Exit.inBlock, Exit.then]); refine bodyPost_ret (results_none rfl _ _ _) rfl ?_))
                all_goals exact ⟨rfl, S7.out⟩
              · have p1 : ¬ (s : Int) < (q : Int) := by omega
                have p2 : ¬ (mid : Int) < (ed : Int) := by have := HED.out; omega
                have q1 : ¬ (q : Int) < (ed : Int) := by have := HED.out; omega
                have q2 : ¬ (s : Int) < (mid : Int) := by omega
                have a1 : (a : Int) < (s : Int) := by omega
                have b1 : ¬ (ed : Int) < (b : Int) := by omega
                have HF := Lib.hid (And.intro hP (And.intro hQ (And.intro hA hB)))
                clear hP hQ hA hB
                have ht : rot s q ed d = d := rot_triv d (by have := HED.out; have := HF.out; omega) HED.out.2.1.2.1 HED.out.2.1.2.2.2.2.1
                obtain ⟨w5, hw5⟩ : ∃ x, x = wr := ⟨_, rfl⟩
                rw [← hw5]
                have S5 := Lib.hid (show Keeps (· = R) w w5 ∧ Ro w5 R m (rot s q ed d) ∧ Seg a b d (rot s q ed d) from ⟨by rw [hw5]; exact HK.out, by rw [hw5, ht]; exact HR.out, by rw [ht]; exact Seg.refl _ _ _⟩)
                clear hw5 ht
                clear HRC HK HR
                obtain ⟨g0, hg0⟩ : ∃ x, x = rot s q ed d := ⟨_, rfl⟩
                have six := six_no HCU.out HQ.out.1 HQ.out.2 H1.out H2.out HED.out.1 S5.out.2.2 (by have := HF.out; omega)
                rw [← hg0] at six
                obtain ⟨g6, hg6⟩ : ∃ x, x = g0 := ⟨_, rfl⟩
                rw [← hg6] at six
                obtain ⟨w6, hw6⟩ : ∃ x, x = w5 := ⟨_, rfl⟩
                rw [← hw6]
                have S6 := Lib.hid (show Keeps (· = R) w w6 ∧ Ro w6 R m g6 ∧ Six K a mid ed b d g6 from ⟨by rw [hw6]; exact S5.out.1, by rw [hw6, hg6, hg0]; exact S5.out.2.1, six⟩)
                clear six hg6 hw6 hg0
                clear S5 H1 H2
                have ff := fin_no S6.out.2.2 (by have := HED.out; have := HF.out; omega)
                have S7 := Lib.hid (show Keeps (· = R) w w6 ∧ ∃ g, Ro w6 R m g ∧ Seg a b d g ∧ So K g a b from ⟨S6.out.1, g6, S6.out.2.1, ff.1, ff.2⟩)
                clear ff
                clear S6
                have g1 := G1.out
                go_wp2
                all_goals (first | go_end0 | ((try simp only [Exit.inBlock, Exit.then]); refine bodyPost_ret (results_none rfl _ _ _) rfl ?_))
                all_goals exact ⟨rfl, S7.out⟩
            · by_cases hB : ed < b
              · have p1 : ¬ (s : Int) < (q : Int) := by omega
                have p2 : ¬ (mid : Int) < (ed : Int) := by have := HED.out; omega
                have q1 : ¬ (q : Int) < (ed : Int) := by have := HED.out; omega
                have q2 : ¬ (s : Int) < (mid : Int) := by omega
                have a1 : ¬ (a : Int) < (s : Int) := by omega
                have b1 : (ed : Int) < (b : Int) := by omega
                have HF := Lib.hid (And.intro hP (And.intro hQ (And.intro hA hB)))
                clear hP hQ hA hB
                have ht : rot s q ed d = d := rot_triv d (by have := HED.out; have := HF.out; omega) HED.out.2.1.2.1 HED.out.2.1.2.2.2.2.1
                obtain ⟨w5, hw5⟩ : ∃ x, x = wr := ⟨_, rfl⟩
                rw [← hw5]
                have S5 := Lib.hid (show Keeps (· = R) w w5 ∧ Ro w5 R m (rot s q ed d) ∧ Seg a b d (rot s q ed d) from ⟨by rw [hw5]; exact HK.out, by rw [hw5, ht]; exact HR.out, by rw [ht]; exact Seg.refl _ _ _⟩)
                clear hw5 ht
                clear HRC HK HR
                obtain ⟨g0, hg0⟩ : ∃ x, x = rot s q ed d := ⟨_, rfl⟩
                have six := six_no HCU.out HQ.out.1 HQ.out.2 H1.out H2.out HED.out.1 S5.out.2.2 (by have := HF.out; omega)
                rw [← hg0] at six
                obtain ⟨g6, hg6⟩ : ∃ x, x = g0 := ⟨_, rfl⟩
                rw [← hg6] at six
                obtain ⟨w6, hw6⟩ : ∃ x, x = w5 := ⟨_, rfl⟩
                rw [← hw6]
                have S6 := Lib.hid (show Keeps (· = R) w w6 ∧ Ro w6 R m g6 ∧ Six K a mid ed b d g6 from ⟨by rw [hw6]; exact S5.out.1, by rw [hw6, hg6, hg0]; exact S5.out.2.1, six⟩)
                clear six hg6 hw6 hg0
                clear S5 H1 H2
                have ff := fin_no S6.out.2.2 (by have := HED.out; have := HF.out; omega)
                have S7 := Lib.hid (show Keeps (· = R) w w6 ∧ ∃ g, Ro w6 R m g ∧ Seg a b d g ∧ So K g a b from ⟨S6.out.1, g6, S6.out.2.1, ff.1, ff.2⟩)
                clear ff
                clear S6
                have g1 := G1.out
                go_wp2
                all_goals (first | go_end0 | ((try simp only [Exit.inBlock, Exit.then]); refine bodyPost_ret (results_none rfl _ _ _) rfl ?_))
                all_goals exact ⟨rfl, S7.out⟩
              · have p1 : ¬ (s : Int) < (q : Int) := by omega
                have p2 : ¬ (mid : Int) < (ed : Int) := by have := HED.out; omega
                have q1 : ¬ (q : Int) < (ed : Int) := by have := HED.out; omega
                have q2 : ¬ (s : Int) < (mid : Int) := by omega
                have a1 : ¬ (a : Int) < (s : Int) := by omega
                have b1 : ¬ (ed : Int) < (b : Int) := by omega
                have HF := Lib.hid (And.intro hP (And.intro hQ (And.intro hA hB)))
                clear hP hQ hA hB
                have ht : rot s q ed d = d := rot_triv d (by have := HED.out; have := HF.out; omega) HED.out.2.1.2.1 HED.out.2.1.2.2.2.2.1
                obtain ⟨w5, hw5⟩ : ∃ x, x = wr := ⟨_, rfl⟩
                rw [← hw5]
                have S5 := Lib.hid (show Keeps (· = R) w w5 ∧ Ro w5 R m (rot s q ed d) ∧ Seg a b d (rot s q ed d) from ⟨by rw [hw5]; exact HK.out, by rw [hw5, ht]; exact HR.out, by rw [ht]; exact Seg.refl _ _ _⟩)
                clear hw5 ht
                clear HRC HK HR
                obtain ⟨g0, hg0⟩ : ∃ x, x = rot s q ed d := ⟨_, rfl⟩
                have six := six_no HCU.out HQ.out.1 HQ.out.2 H1.out H2.out HED.out.1 S5.out.2.2 (by have := HF.out; omega)
                rw [← hg0] at six
                obtain ⟨g6, hg6⟩ : ∃ x, x = g0 := ⟨_, rfl⟩
                rw [← hg6] at six
                obtain ⟨w6, hw6⟩ : ∃ x, x = w5 := ⟨_, rfl⟩
                rw [← hw6]
                have S6 := Lib.hid (show Keeps (· = R) w w6 ∧ Ro w6 R m g6 ∧ Six K a mid ed b d g6 from ⟨by rw [hw6]; exact S5.out.1, by rw [hw6, hg6, hg0]; exact S5.out.2.1, six⟩)
                clear six hg6 hw6 hg0
                clear S5 H1 H2
                have ff := fin_no S6.out.2.2 (by have := HED.out; have := HF.out; omega)
                have S7 := Lib.hid (show Keeps (· = R) w w6 ∧ ∃ g, Ro w6 R m g ∧ Seg a b d g ∧ So K g a b from ⟨S6.out.1, g6, S6.out.2.1, ff.1, ff.2⟩)
                clear ff
                clear S6
                have g1 := G1.out
                go_wp2
                all_goals (first | go_end0 | ((try simp only [Exit.inBlock, Exit.then]); refine bodyPost_ret (results_none rfl _ _ _) rfl ?_))
                all_goals exact ⟨rfl, S7.out⟩
theorem merge_ok (hm : m ≤ 1000000) : ∀ N, MergeOk R m c X K N
  | 0 => fun w a q b d hN => absurd hN (Nat.not_lt_zero _)
  | N + 1 => fun w a q b d hN h hc haq hqb hb h1 h2 => by
    by_cases c1 : q = a + 1
    · exact merge_one w R m c X K a q b d h hc c1 hqb hb hm h2
    · by_cases c2 : b = q + 1
      · exact merge_last w R m c X K a q b d h hc (by omega) c2 hb hm h1
      · have ih := merge_ok hm N
        exact merge_mid w R m c X K a q b d h hc (by omega) (by omega) hb hm h1 h2 (fun w' a' q' b' d' hN' => ih w' a' q' b' d' (by omega))
end
end Go.Proofs.Ytbiadglhfpapaaa.ss
