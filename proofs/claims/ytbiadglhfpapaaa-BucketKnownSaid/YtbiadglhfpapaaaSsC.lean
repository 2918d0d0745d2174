/-
  cmp.Compare of uint64; the closure by which rising sorts; insertionSort.
-/
import Derived.Test.YtbiadglhfpapaaaSsW
import Derived.Shelf.RegionOpenPlain
import Derived.Test.YtbiadglhfpapaaaBkR
set_option linter.unusedVariables false
namespace Go.Proofs.Ytbiadglhfpapaaa.ss
open Go.RowKit Go.Proofs.Ytbiadglhfpapaaa.oc Go.Proofs.Ytbiadglhfpapaaa.mz Go.Proofs.Ytbiadglhfpapaaa.bk
/-- Compare of two numbers -/
def cmpv (x y : Nat) : Int := if x < y then -1 else if y < x then 1 else 0
theorem cmpv_neg (x y : Nat) : cmpv x y < 0 ↔ x < y := by
  unfold cmpv
  split
  · simp_all
  · split
    · simp_all
    · simp_all
section
variable (w : World)
set_option maxRecDepth 100000 in
set_option maxHeartbeats 1000000 in
theorem nan_ (x : Nat) : Calls Try.prog 56 #[.int .u64 (x : Int)] w fun e w' => e = .returned (.bool false) ∧ ∀ S, Keeps S w w' := by
  go_enter Try.func56, Try.ntmps56
  go_wp2
  try rw [Exit.noGoto_ret]
  go_ret
  exact ⟨by simp, fun S => Keeps.refl S w⟩
set_option maxRecDepth 100000 in
set_option maxHeartbeats 1000000 in
theorem compare_ (x y : Nat) : Calls Try.prog 52 #[.int .u64 (x : Int), .int .u64 (y : Int)] w fun e w' => e = .returned (.int .i64 (cmpv x y)) ∧ ∀ S, Keeps S w w' := by
  have HX := fun w => Lib.hid (nan_ w x)
  have HY := fun w => Lib.hid (nan_ w y)
  rcases Nat.lt_trichotomy x y with h | h | h
  · have q1 : (x : Int) < (y : Int) := by omega
    rw [show cmpv x y = -1 from by unfold cmpv; rw [if_pos h]]
    clear h
    go_enter Try.func52, Try.ntmps52
    go_wp2_with fail
    refine (HX _).out.mono ?_
    rintro e w1 ⟨rfl, k1⟩
    have K1 := Lib.hid k1
    clear k1
    go_wp2_with fail
    refine (HY _).out.mono ?_
    rintro e w2 ⟨rfl, k2⟩
    have K2 : Hid (∀ S, Keeps S w w2) := Lib.hid (fun S => (K1.out S).trans (k2 S))
    clear k2
    go_wp2
    try rw [Exit.noGoto_ret]
    go_ret
    exact ⟨rfl, K2.out⟩
  · have q1 : ¬ (x : Int) < (y : Int) := by omega
    have q2 : ¬ (y : Int) < (x : Int) := by omega
    rw [show cmpv x y = 0 from by unfold cmpv; rw [if_neg (by omega), if_neg (by omega)]]
    clear h
    go_enter Try.func52, Try.ntmps52
    go_wp2_with fail
    refine (HX _).out.mono ?_
    rintro e w1 ⟨rfl, k1⟩
    have K1 := Lib.hid k1
    clear k1
    go_wp2_with fail
    refine (HY _).out.mono ?_
    rintro e w2 ⟨rfl, k2⟩
    have K2 : Hid (∀ S, Keeps S w w2) := Lib.hid (fun S => (K1.out S).trans (k2 S))
    clear k2
    go_wp2
    try rw [Exit.noGoto_ret]
    go_ret
    exact ⟨rfl, K2.out⟩
  · have q1 : ¬ (x : Int) < (y : Int) := by omega
    have q2 : (y : Int) < (x : Int) := by omega
    rw [show cmpv x y = 1 from by unfold cmpv; rw [if_neg (by omega), if_pos h]]
    clear h
    go_enter Try.func52, Try.ntmps52
    go_wp2_with fail
    refine (HX _).out.mono ?_
    rintro e w1 ⟨rfl, k1⟩
    have K1 := Lib.hid k1
    clear k1
    go_wp2_with fail
    refine (HY _).out.mono ?_
    rintro e w2 ⟨rfl, k2⟩
    have K2 : Hid (∀ S, Keeps S w w2) := Lib.hid (fun S => (K1.out S).trans (k2 S))
    clear k2
    go_wp2
    try rw [Exit.noGoto_ret]
    go_ret
    exact ⟨rfl, K2.out⟩
/-- the key of a place: its tick -/
def tick (l : List (Nat × Nat)) (i : Nat) : Nat := (l.getD i (0, 0)).1
set_option maxRecDepth 100000 in
set_option maxHeartbeats 2000000 in
theorem closure_ (X : Nat) (A : Option Addr) (m c B x y : Nat) (l : List (Nat × Nat)) (hX : w.cell? ⟨X, 0, none⟩ = some (.slice A m c)) (ha : Asks w B A l) (hl : l.length = m) (hx : x < m) (hy : y < m) : Calls Try.prog 51 #[.int .i64 (x : Int), .int .i64 (y : Int), .pointer (some ⟨X, 0, none⟩)] w fun e w' => e = .returned (.int .i64 (cmpv (tick l x) (tick l y))) ∧ ∀ S, Keeps S w w' := by
  obtain ⟨px, hpx⟩ : ∃ px, l[x]? = some px := ⟨_, List.getElem?_eq_getElem (by omega)⟩
  obtain ⟨py, hpy⟩ : ∃ py, l[y]? = some py := ⟨_, List.getElem?_eq_getElem (by omega)⟩
  obtain ⟨bb, o, rfl, _, cx, _⟩ := ha.at_ hpx
  obtain ⟨b2, o2, e, _, cy, _⟩ := ha.at_ hpy
  injection e with e
  injection e with e1 e2
  subst e1; subst e2
  have tx : tick l x = px.1 := by unfold tick; rw [List.getD_eq_getElem?_getD, hpx]; rfl
  have ty : tick l y = py.1 := by unfold tick; rw [List.getD_eq_getElem?_getD, hpy]; rfl
  rw [tx, ty]
  have HC := fun w => Lib.hid (compare_ w px.1 py.1)
  have x0 : (0 : Int) ≤ (x : Int) := by omega
  have y0 : (0 : Int) ≤ (y : Int) := by omega
  have x1 : (x : Int) < (m : Int) := by omega
  have y1 : (y : Int) < (m : Int) := by omega
  clear tx ty
  clear ha hl hx hy hpx hpy
  generalize px.1 = tx at *
  generalize py.1 = ty at *
  generalize cmpv tx ty = cz at *
  go_enter Try.func51, Try.ntmps51
  go_wp2_with fail
  go_region_held3 (fun w' => w'.cell? ⟨X, 0, none⟩ = some (.slice (some ⟨bb, o, none⟩) m c) ∧ w'.cell? ⟨bb, o + x * 2, none⟩ = some (.int .u64 (tx : Int)) ∧ w'.cell? ⟨bb, o + y * 2, none⟩ = some (.int .u64 (ty : Int)))
    (first | exact ⟨hX, cx, cy⟩ | exact ⟨z0, z1, z2⟩)
    ((first
      | (go_at_call 52; refine (HC _).out.mono ?_; rintro e w3 ⟨rfl, k3⟩; have z0 := Keeps.cell (k3 (fun _ => False)) (show w.drew.cell? _ = _ from hX) (fun z => z); have z1 := Keeps.cell (k3 (fun _ => False)) (show w.drew.cell? _ = _ from cx) (fun z => z); have z2 := Keeps.cell (k3 (fun _ => False)) (show w.drew.cell? _ = _ from cy) (fun z => z); have K3 : Hid (∀ S, Keeps S w w3) := Lib.hid (fun S => Keeps.trans (Keeps.refl S w).drew (k3 S)); clear k3)))
  go_wp2
  try rw [Exit.noGoto_ret]
  go_ret
  exact ⟨rfl, K3.out⟩
end
/-- in whatever the sort makes of w, the closure tells places by their keys -/
def CmpOk (w : World) (R m X : Nat) (K : Nat → Nat) : Prop := ∀ (W : World) (x y : Nat), Keeps (· = R) w W → x < m → y < m → Calls Try.prog 51 #[.int .i64 (x : Int), .int .i64 (y : Int), .pointer (some ⟨X, 0, none⟩)] W fun e W' => e = .returned (.int .i64 (cmpv (K x) (K y))) ∧ ∀ S, Keeps S W W'
theorem CmpOk.on {w w' : World} {R m X : Nat} {K : Nat → Nat} (h : CmpOk w R m X K) (k : Keeps (· = R) w w') : CmpOk w' R m X K := fun W x y hk hx hy => h W x y (k.trans hk) hx hy
theorem CmpOk.of {w : World} {R m X c : Nat} {A : Option Addr} {l : List (Nat × Nat)} (hX : w.cell? ⟨X, 0, none⟩ = some (.slice A m c)) (hXR : X ≠ R) (ha : Asks w R A l) (hl : l.length = m) : CmpOk w R m X (tick l) := fun W x y hk hx hy =>
  closure_ W X A m c R x y l (Keeps.cell hk hX hXR) (ha.keeps hk (fun b hb e => by omega)) hl hx hy
/-- a stretch is sorted in place -/
def SortPost (K : Nat → Nat) (R m a b : Nat) (d : Nat → Nat) (w : World) (e : Ending) (w' : World) : Prop := e = .returned (.tuple #[]) ∧ Keeps (· = R) w w' ∧ ∃ g, Ro w' R m g ∧ Seg a b d g ∧ So K g a b
section
variable (w : World) (R m c X : Nat) (K : Nat → Nat)
set_option maxRecDepth 100000 in
set_option maxHeartbeats 4000000 in
theorem insertion_ (a b : Nat) (d : Nat → Nat) (h : Ro w R m d) (hc : CmpOk w R m X K) (hab : a ≤ b) (hb : b ≤ m) (hm : m ≤ 1000000) : Calls Try.prog 57 #[.slice (some ⟨R, 0, none⟩) m c, .int .i64 (a : Int), .int .i64 (b : Int), .func (.func 51) #[] #[.pointer (some ⟨X, 0, none⟩)]] w (SortPost K R m a b d w) := by
  have H0 := Lib.hid h
  have HC := Lib.hid hc
  have HA := Lib.hid (show a ≤ b ∧ b ≤ m ∧ m ≤ 1000000 from ⟨hab, hb, hm⟩)
  have w1 : IntKind.i64.wrap ((a : Int) + 1) = ((a + 1 : Nat) : Int) := by rw [IntKind.wrap_i64]; omega
  clear h hc hab hb hm
  go_enter Try.func57, Try.ntmps57
  go_wp2_with fail
  go_loopw [8] (fun iv wr => ∃ (i : Nat) (g : Nat → Nat), iv = .int .i64 (i : Int) ∧ (a < i ∧ i ≤ b + 1) ∧ Keeps (· = R) w wr ∧ Ro wr R m g ∧ Seg a b d g ∧ So K g a i) (fun iv _ => b + 2 - (intOf iv).toNat)
  case atStart => exact ⟨a + 1, d, by first | rfl | rw [w1], by have := HA.out; omega, Keeps.refl _ _, H0.out, Seg.refl _ _ _, So.one _ _ _ _ (Nat.le_refl _)⟩
  case round =>
    clear H0 w1
    obtain ⟨i, g, rfl, hi, hkk, hr, hsg, hso⟩ := hrel
    have HI := Lib.hid hi
    rcases Nat.lt_or_ge i b with hlt | hlt
    · have hlt' : (i : Int) < (b : Int) := by omega
      have HLT := Lib.hid hlt
      have V0 := Lib.hid (show Keeps (· = R) w wr ∧ Ro wr R m g ∧ Seg a b d g ∧ Ins K g a i i from ⟨hkk, hr, hsg, Ins.start hso⟩)
      clear hi hkk hr hsg hso hlt
      go_wp2_with fail
      go_loopw [9] (fun jv wr => ∃ (j : Nat) (g : Nat → Nat), jv = .int .i64 (j : Int) ∧ (a ≤ j ∧ j ≤ i) ∧ Keeps (· = R) w wr ∧ Ro wr R m g ∧ Seg a b d g ∧ Ins K g a i j) (fun jv _ => (intOf jv).toNat)
      case atStart => exact ⟨i, g, rfl, by have := HI.out; omega, V0.out⟩
      case round =>
        clear V0
        obtain ⟨j, g, rfl, hj, hkk, hr, hsg, hin⟩ := hrel
        have HJ := Lib.hid hj
        have HK := Lib.hid hkk
        have HR := Lib.hid hr
        have HSG := Lib.hid hsg
        have HIN := Lib.hid hin
        have wi : IntKind.i64.wrap ((i : Int) + 1) = (i : Int) + 1 := by have := HA.out; have := HLT.out; rw [IntKind.wrap_i64]; omega
        obtain ⟨y, rfl⟩ : ∃ y, y = j := ⟨_, rfl⟩
        rcases Nat.lt_or_ge a y with hlj | hlj
        · obtain ⟨p, hy⟩ : ∃ p, y = p + 1 := ⟨y - 1, by omega⟩
          have hlj' : (a : Int) < (y : Int) := by omega
          have wj : IntKind.i64.wrap ((y : Int) - 1) = (p : Int) := by have := HA.out; have := HJ.out; have := HLT.out; rw [IntKind.wrap_i64]; omega
          have hym : y < m := by have := HA.out; have := HLT.out; have := HJ.out; omega
          have hpm : p < m := by omega
          have y0 : (0 : Int) ≤ (y : Int) := by omega
          have p0 : (0 : Int) ≤ (p : Int) := by omega
          have y1 : (y : Int) < (m : Int) := by omega
          have p1 : (p : Int) < (m : Int) := by omega
          have cy := hr.cell y hym
          have cp := hr.cell p hpm
          have HCC := fun W (hk : Keeps (· = R) w W) => Lib.hid (HC.out W (g y) (g p) hk (hr.lt y hym) (hr.lt p hpm))
          have HCM := Lib.hid (fun S => (Keeps.refl S wr).drew)
          have HY := Lib.hid (show y = p + 1 ∧ y < m ∧ p < m from ⟨hy, hym, hpm⟩)
          have HLJ := Lib.hid hlj
          clear hj hkk hr hsg hin hlj hy hym hpm
          by_cases hcc : K (g y) < K (g p)
          · have qz : cmpv (K (g y)) (K (g p)) < 0 := (cmpv_neg _ _).2 hcc
            have HCL := Lib.hid hcc
            clear hcc
            generalize cmpv (K (g y)) (K (g p)) = cz at *
            obtain ⟨gy, hgy⟩ : ∃ x, x = g y := ⟨_, rfl⟩
            obtain ⟨gp, hgp⟩ : ∃ x, x = g p := ⟨_, rfl⟩
            rw [← hgy, ← hgp] at HCC
            rw [← hgy] at cy
            rw [← hgp] at cp
            have HG := Lib.hid (show gy = g y ∧ gp = g p from ⟨hgy, hgp⟩)
            clear hgy hgp
            go_wp2_with fail
            go_region_held3 (fun w' => w'.cell? ⟨R, y, none⟩ = some (.int .i64 (gy : Int)) ∧ w'.cell? ⟨R, p, none⟩ = some (.int .i64 (gp : Int)))
              (first | exact ⟨cy, cp⟩ | exact ⟨z0, z1⟩)
              ((first
                | (go_at_call 51; refine (HCC _ (Keeps.drew HK.out)).out.mono ?_; rintro e w3 ⟨rfl, k3⟩; have z0 := Keeps.cell (k3 (fun _ => False)) (show wr.drew.cell? _ = _ from cy) (fun z => z); have z1 := Keeps.cell (k3 (fun _ => False)) (show wr.drew.cell? _ = _ from cp) (fun z => z); have K3 : Hid (∀ S, Keeps S wr w3) := Lib.hid (fun S => Keeps.trans (Keeps.refl S wr).drew (k3 S)); clear k3)))
            have hr3 := HR.out.keeps (K3.out (fun _ => False)) (fun z => z)
            have fy := hr3.free y HY.out.2.1
            have fp := hr3.free p HY.out.2.2
            obtain ⟨u, cu⟩ := hr3.c2 HY.out.2.1 HY.out.2.2 (.int .i64 (g p : Int))
            have rs := hr3.swapped HY.out.2.1 HY.out.2.2
            rw [← HG.out.1, ← HG.out.2] at rs
            rw [← HG.out.2] at cu
            have RS := Lib.hid rs
            clear hr3 rs cy cp
            go_wp2_with fail
            go_big_region
            have K4 := Lib.hid (((HK.out.trans (K3.out _)).trans (Keeps.swapped (i := y) (j := p) (a := .int .i64 (gp : Int)) (b := .int .i64 (gy : Int)))).drew)
            have R4 := Lib.hid RS.out.drew
            clear z0 z1 fy fp cu RS K3 HK HR HCC HCM
            generalize ((w3.setCell ⟨R, y, none⟩ (.int .i64 (gp : Int))).setCell ⟨R, p, none⟩ (.int .i64 (gy : Int))).drew = w4 at *
            go_wp2
            go_roundw
            case rel =>
              have hy := HY.out.1
              subst hy
              exact ⟨p, sw g (p + 1) p, rfl, by have := HJ.out; have := HLJ.out; omega, K4.out, R4.out, HSG.out.trans (Seg.swap _ (by have := HJ.out; have := HLT.out; omega) (by have := HJ.out; have := HLJ.out; have := HLT.out; omega)), HIN.out.step (by have := HLJ.out; omega) HJ.out.2 HCL.out⟩
            case measure => have := HY.out; simp only [intOf]; omega
          · have qz : ¬ cmpv (K (g y)) (K (g p)) < 0 := fun h => hcc ((cmpv_neg _ _).1 h)
            have HCL := Lib.hid hcc
            clear hcc
            generalize cmpv (K (g y)) (K (g p)) = cz at *
            obtain ⟨gy, hgy⟩ : ∃ x, x = g y := ⟨_, rfl⟩
            obtain ⟨gp, hgp⟩ : ∃ x, x = g p := ⟨_, rfl⟩
            rw [← hgy, ← hgp] at HCC
            rw [← hgy] at cy
            rw [← hgp] at cp
            have HG := Lib.hid (show gy = g y ∧ gp = g p from ⟨hgy, hgp⟩)
            clear hgy hgp
            go_wp2_with fail
            go_region_held3 (fun w' => w'.cell? ⟨R, y, none⟩ = some (.int .i64 (gy : Int)) ∧ w'.cell? ⟨R, p, none⟩ = some (.int .i64 (gp : Int)))
              (first | exact ⟨cy, cp⟩ | exact ⟨z0, z1⟩)
              ((first
                | (go_at_call 51; refine (HCC _ (Keeps.drew HK.out)).out.mono ?_; rintro e w3 ⟨rfl, k3⟩; have z0 := Keeps.cell (k3 (fun _ => False)) (show wr.drew.cell? _ = _ from cy) (fun z => z); have z1 := Keeps.cell (k3 (fun _ => False)) (show wr.drew.cell? _ = _ from cp) (fun z => z); have K3 : Hid (∀ S, Keeps S wr w3) := Lib.hid (fun S => Keeps.trans (Keeps.refl S wr).drew (k3 S)); clear k3)))
            have R3 := Lib.hid (HR.out.keeps (K3.out (fun _ => False)) (fun z => z))
            have K4 := Lib.hid (HK.out.trans (K3.out _))
            clear z0 z1 cy cp K3 HK HR HCC HCM
            go_wp2
            go_roundw
            case rel =>
              have hd := HIN.out.done HJ.out.2 (.inr (show K (g (y - 1)) ≤ K (g y) by have h1 := HY.out.1; have h2 := HCL.out; rw [show y - 1 = p by omega]; omega))
              exact ⟨i + 1, g, by first | rfl | go_num, by have := HI.out; have := HLT.out; omega, K4.out, R3.out, HSG.out, hd⟩
            case measure => have := HLT.out; simp only [intOf]; omega
        · have hlj' : ¬ (a : Int) < (y : Int) := by omega
          have HLJ := Lib.hid hlj
          have hjad : decide ((y : Int) > (a : Int)) = false := decide_eq_false (by omega)
          clear hj hkk hr hsg hin hlj
          go_wp2_with fail
          have hlj2 : ¬ (a : Int) < (y : Int) := by have := HLJ.out; omega
          go_quiet (fail)
          have K4 := Lib.hid (HK.out.trans (Keeps.of_drew wr nq))
          have R4 := Lib.hid (HR.out.keeps (S := fun _ => False) (Keeps.of_drew wr nq) (fun z => z))
          clear HK HR
          generalize wr.drewN nq = w4 at *
          go_wp2
          go_roundw
          case rel =>
            have hd := HIN.out.done HJ.out.2 (.inl HLJ.out)
            exact ⟨i + 1, g, by first | rfl | go_num, by have := HI.out; have := HLT.out; omega, K4.out, R4.out, HSG.out, hd⟩
          case measure => have := HLT.out; simp only [intOf]; omega
    · have hlt' : ¬ (i : Int) < (b : Int) := by omega
      have HP := Lib.hid (show Keeps (· = R) w wr ∧ Ro wr R m g ∧ Seg a b d g ∧ So K g a b from ⟨hkk, hr, hsg, hso.cut (Nat.le_refl _) hlt⟩)
      clear hi hkk hr hsg hso hlt
      go_wp2
      go_end0
      exact ⟨rfl, HP.out.1, g, HP.out.2⟩
end
end Go.Proofs.Ytbiadglhfpapaaa.ss
