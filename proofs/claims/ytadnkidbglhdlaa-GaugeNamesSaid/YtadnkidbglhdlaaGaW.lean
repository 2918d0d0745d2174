/-
  gauge: awake.
-/
import Derived.Test.YtadnkidbglhdlaaGaM
set_option linter.unusedVariables false
namespace Go.Proofs.Ytadnkidbglhdlaa.ga
open Go.RowKit Go.Proofs.Ytadnkidbglhdlaa.oc Go.Proofs.Ytadnkidbglhdlaa.mz Go.Proofs.Ytadnkidbglhdlaa.at_ Go.Proofs.Ytadnkidbglhdlaa.gt Go.Proofs.Ytadnkidbglhdlaa.gw
/-- a free breaker between its calls: what it tells -/
def Bt (w : World) (D f t st fl s : Nat) : Prop := Br w D f t (pk st fl s) ∧ Wd st fl s ∧ fl ≤ f
section
variable {D f t st fl s : Nat} {w w' : World}
theorem Bt.keeps {S : Nat → Prop} (h : Bt w D f t st fl s) (k : Keeps S w w') (hs : ¬ S D) : Bt w' D f t st fl s := ⟨h.1.keeps k hs, h.2⟩
theorem Bt.st0 (h : Bt w D f t st fl s) : St w D f t 0 (pk st fl s) .nilIface [] (fun _ => False) := ⟨h.1, GF.nil_ _ _ _ _, fun z => z⟩
theorem keep0 {N v : Nat} {gv : Value} {ms' : List (Nat × Nat)} (l : Left D f t N v gv ms' (fun _ => False) w w') : Keeps (· = D) w w' := l.keep.mono (fun b _ z => by rcases z with z | z; exact z; exact z.elim)
theorem Bt.le (h : Bt w D f t st fl s) : fl ≤ 1048576 := by have := h.1.may; have := h.2.2; omega
variable (now : Nat) (nowI : Int)
/-- what a breaker answers to an Ask, what it is behind it -/
def asks (t st s now : Nat) : Bool := st == 0 || decide (s + t ≤ now)
def asked (t st fl s now : Nat) : Nat × Nat × Nat := if st = 0 then (st, fl, s) else if s + t ≤ now then (2, fl, now) else (st, fl, s)
theorem ask0 (h : Bt w D f t st fl s) (hn : now ≤ 1099511627776) (hi : (now : Int) = nowI) :
    Calls Try.prog 10 #[.pointer (some ⟨D, 0, none⟩), .nilIface, .int .u64 nowI] w fun e w' => e = .returned (.tuple #[.bool (asks t st s now), .int .i64 0]) ∧ Bt w' D f t (asked t st fl s now).1 (asked t st fl s now).2.1 (asked t st fl s now).2.2 ∧ Keeps (· = D) w w' := by
  subst hi
  unfold asks asked
  by_cases h0 : st = 0
  · refine (ask_closed D f t 0 st fl s now .nilIface [] _ w h.st0 (by decide) hn h.2.1 h0).mono ?_
    rintro e w' ⟨rfl, l⟩
    rw [if_pos h0]
    exact ⟨by simp [h0], ⟨l.br, h.2⟩, keep0 l⟩
  · rw [if_neg h0]
    by_cases h1 : s + t ≤ now
    · refine (ask_yes D f t 0 st fl s now .nilIface [] _ w h.st0 (by decide) hn h.2.1 h0 (by omega)).mono ?_
      rintro e w' ⟨rfl, l⟩
      rw [if_pos h1]
      have := h.2.1
      exact ⟨by simp [h1], ⟨l.br, by unfold Wd at this ⊢; simp; omega, h.2.2⟩, keep0 l⟩
    · refine (ask_no D f t 0 st fl s now .nilIface [] _ w h.st0 (by decide) hn h.2.1 h0 (by omega)).mono ?_
      rintro e w' ⟨rfl, l⟩
      rw [if_neg h1]
      exact ⟨by simp [h0, h1], ⟨l.br, h.2⟩, keep0 l⟩
theorem beh_le (good : Bool) (h : fl ≤ f) : st = 0 → fl < f → (beh f st fl s now good).2.1 ≤ f := by
  intro h0 h1
  unfold beh
  split <;> (try split) <;> (try split) <;> (try split) <;> simp <;> omega
theorem tell0 (good : Bool) (h : Bt w D f t st fl s) (hn : now ≤ 1099511627776) (hi : (now : Int) = nowI) (hc : st = 0 → fl < f) :
    Calls Try.prog 11 #[.pointer (some ⟨D, 0, none⟩), .nilIface, .int .u64 nowI, .bool good] w fun e w' => e = .returned (.int .i64 0) ∧ Bt w' D f t (beh f st fl s now good).1 (beh f st fl s now good).2.1 (beh f st fl s now good).2.2 ∧ Keeps (· = D) w w' := by
  subst hi
  have hb := beh_wd (f := f) (s := s) good h.le hn h.2.1
  have hle : (beh f st fl s now good).2.1 ≤ f := by
    have := h.2.2
    have := h.1.may
    unfold beh
    split <;> (try split) <;> (try split) <;> (try split) <;> simp <;> omega
  by_cases he : pkt (beh f st fl s now good) = pk st fl s
  · refine (tell_same D f t 0 st fl s now .nilIface [] _ w good h.st0 (by decide) hn h.2.1 h.le he).mono ?_
    rintro e w' ⟨rfl, l⟩
    exact ⟨rfl, ⟨by have := l.br; rw [← he] at this; exact this, hb, hle⟩, keep0 l⟩
  · refine (tell_new D f t 0 st fl s now .nilIface [] _ w good h.st0 (by decide) hn h.2.1 h.le he).mono ?_
    rintro e w' ⟨rfl, l⟩
    exact ⟨rfl, ⟨l.br, hb, hle⟩, keep0 l⟩
theorem get0 (h : Bt w D f t st fl s) :
    Calls Try.prog 14 #[.pointer (some ⟨D, 0, none⟩), .nilIface] w fun e w' => e = .returned (.tuple #[.int .i64 (st : Int), .int .u64 (fl : Int), .int .u64 (s : Int), .int .i64 0]) ∧ Bt w' D f t st fl s ∧ Keeps (· = D) w w' := by
  refine (get_ D f t 0 st fl s .nilIface [] _ w h.st0 (by decide) h.2.1).mono ?_
  rintro e w' ⟨rfl, l⟩
  exact ⟨rfl, ⟨l.br, h.2⟩, keep0 l⟩
end
theorem Md.bt {w w' : World} {P G C E D L f t : Nat} (h : Md w w' P G C E D L f t) : Bt w' D f t 0 0 0 := ⟨h.br, by unfold Wd; omega, by omega⟩
set_option maxRecDepth 100000 in
set_option maxHeartbeats 8000000 in
theorem awake_ (w : World) : Calls Try.prog 8 #[] w fun e w' => e = .returned (.bool true) ∧ ∀ S, Keeps S w w' := by
  have hm := made_ 1 1 9 w (by omega) (by omega) (by omega)
  rw [show ((1 : Nat) : Int) = 1 from rfl, show ((9 : Nat) : Int) = 9 from rfl, show 1 + 1 % 1048576 = 2 from rfl, show 1 + 9 % 1099511627776 = 10 from rfl] at hm
  have HM := Lib.hid hm
  have hpp := pair_ptr
  clear hm
  go_enter Try.func8, Try.ntmps8
  go_wp2_with fail
  refine HM.out.mono ?_
  rintro e w1 ⟨P, G, C, E, D, rfl, m⟩
  have M := Lib.hid m
  have g0 := m.gg
  have b1 := m.bt
  have K1 : Hid (∀ S, Keeps S w w1) := Lib.hid m.keep
  have hp := m.pr
  unfold Pr at hp
  have BP := Lib.hid hp
  have NP := Lib.hid (show ¬ (P = C ∨ P = E) ∧ P ≠ D ∧ ¬ (D = C ∨ D = E) ∧ ¬ (w.heap.size > C ∨ w.heap.size > E ∨ w.heap.size > D) from by have := m.ne; have := m.old; have := m.gg.ne; omega)
  have p0 : w1.cell? ⟨P, 0, none⟩ = some (.pointer (some ⟨G, 0, none⟩)) := by rw [hp.cell]; rfl
  have p1 : w1.cell? ⟨P, 1, none⟩ = some (.pointer (some ⟨D, 0, none⟩)) := by rw [hp.cell]; rfl
  have p2 : w1.cell? ⟨P, 2, none⟩ = some (.int .u64 2) := by rw [hp.cell]; rfl
  have p3 : w1.cell? ⟨P, 3, none⟩ = some (.int .u64 2) := by rw [hp.cell]; rfl
  have p4 : w1.cell? ⟨P, 4, none⟩ = some (.int .u64 10) := by rw [hp.cell]; rfl
  have HE := Lib.hid (gag.enter_yes G C E 2 0 0 w1 g0 (by omega))
  have T1 := Lib.hid b1
  clear m g0 b1 hp HM
  go_wp2_with fail
  refine HE.out.mono ?_
  rintro e w2 ⟨rfl, g, k⟩
  have K2 : Hid (Keeps (fun b => b = C ∨ b = E) w1 w2) := Lib.hid k
  have hp := Blk.keeps BP.out K2.out NP.out.1
  have p0 : w2.cell? ⟨P, 0, none⟩ = some (.pointer (some ⟨G, 0, none⟩)) := by rw [hp.cell]; rfl
  have p1 : w2.cell? ⟨P, 1, none⟩ = some (.pointer (some ⟨D, 0, none⟩)) := by rw [hp.cell]; rfl
  clear HE
  have HE := Lib.hid (gag.enter_yes G C E 2 1 (max 0 1) w2 g (by omega))
  clear g k hp
  go_wp2_with fail
  refine HE.out.mono ?_
  rintro e w3 ⟨rfl, g, k⟩
  have K3 : Hid (Keeps (fun b => b = C ∨ b = E) w1 w3) := Lib.hid (K2.out.trans k)
  have hp := Blk.keeps BP.out K3.out NP.out.1
  have p0 : w3.cell? ⟨P, 0, none⟩ = some (.pointer (some ⟨G, 0, none⟩)) := by rw [hp.cell]; rfl
  have p1 : w3.cell? ⟨P, 1, none⟩ = some (.pointer (some ⟨D, 0, none⟩)) := by rw [hp.cell]; rfl
  clear HE
  have HE := Lib.hid (gag.enter_no G C E 2 2 (max (max 0 1) 2) w3 g (by omega))
  clear g k hp
  go_wp2_with fail
  refine HE.out.mono ?_
  rintro e w4 ⟨rfl, g, k⟩
  have K4 : Hid (Keeps (fun b => b = C ∨ b = E) w1 w4) := Lib.hid (K3.out.trans k)
  have hp := Blk.keeps BP.out K4.out NP.out.1
  have p0 : w4.cell? ⟨P, 0, none⟩ = some (.pointer (some ⟨G, 0, none⟩)) := by rw [hp.cell]; rfl
  have p1 : w4.cell? ⟨P, 1, none⟩ = some (.pointer (some ⟨D, 0, none⟩)) := by rw [hp.cell]; rfl
  clear HE
  have HE := Lib.hid (gag.getg G C E 2 2 (max (max 0 1) 2) w4 g)
  clear g k hp
  rw [show ((2 : Nat) : Int) = 2 from rfl, show ((max (max 0 1) 2 : Nat) : Int) = 2 from rfl] at HE
  go_wp2_with fail
  refine HE.out.mono ?_
  rintro e w5 ⟨rfl, -, k⟩
  have K5 : Hid (Keeps (fun b => b = C ∨ b = E) w1 w5) := Lib.hid (K4.out.trans (k _))
  have hp := Blk.keeps BP.out K5.out NP.out.1
  have B5 := Lib.hid hp
  have p0 : w5.cell? ⟨P, 0, none⟩ = some (.pointer (some ⟨G, 0, none⟩)) := by rw [hp.cell]; rfl
  have p1 : w5.cell? ⟨P, 1, none⟩ = some (.pointer (some ⟨D, 0, none⟩)) := by rw [hp.cell]; rfl
  have HT := Lib.hid (tell0 5 5 false (T1.out.keeps K5.out NP.out.2.2.1) (by omega) rfl (by omega))
  clear k hp HE
  go_wp2_with fail
  refine HT.out.mono ?_
  rintro e w6 ⟨rfl, t0, k⟩
  have t : Bt w6 D 2 10 0 1 0 := t0
  have K6 : Hid (Keeps (· = D) w5 w6) := Lib.hid k
  have hp := Blk.keeps B5.out K6.out NP.out.2.1
  have p0 : w6.cell? ⟨P, 0, none⟩ = some (.pointer (some ⟨G, 0, none⟩)) := by rw [hp.cell]; rfl
  have p1 : w6.cell? ⟨P, 1, none⟩ = some (.pointer (some ⟨D, 0, none⟩)) := by rw [hp.cell]; rfl
  clear HT
  have HT := Lib.hid (tell0 6 6 false t (by omega) rfl (by omega))
  clear t t0 k hp
  go_wp2_with fail
  refine HT.out.mono ?_
  rintro e w7 ⟨rfl, t0, k⟩
  have t : Bt w7 D 2 10 1 2 6 := t0
  have K7 : Hid (Keeps (· = D) w5 w7) := Lib.hid (K6.out.trans k)
  have hp := Blk.keeps B5.out K7.out NP.out.2.1
  have p0 : w7.cell? ⟨P, 0, none⟩ = some (.pointer (some ⟨G, 0, none⟩)) := by rw [hp.cell]; rfl
  have p1 : w7.cell? ⟨P, 1, none⟩ = some (.pointer (some ⟨D, 0, none⟩)) := by rw [hp.cell]; rfl
  clear HT
  have HT := Lib.hid (ask0 15 15 t (by omega) rfl)
  clear t t0 k hp
  rw [show asks 10 1 6 15 = false from rfl] at HT
  go_wp2_with fail
  refine HT.out.mono ?_
  rintro e w8 ⟨rfl, t0, k⟩
  have t : Bt w8 D 2 10 1 2 6 := t0
  have K8 : Hid (Keeps (· = D) w5 w8) := Lib.hid (K7.out.trans k)
  have hp := Blk.keeps B5.out K8.out NP.out.2.1
  have p0 : w8.cell? ⟨P, 0, none⟩ = some (.pointer (some ⟨G, 0, none⟩)) := by rw [hp.cell]; rfl
  have p1 : w8.cell? ⟨P, 1, none⟩ = some (.pointer (some ⟨D, 0, none⟩)) := by rw [hp.cell]; rfl
  clear HT
  have HT := Lib.hid (ask0 16 16 t (by omega) rfl)
  clear t t0 k hp
  rw [show asks 10 1 6 16 = true from rfl] at HT
  go_wp2_with fail
  refine HT.out.mono ?_
  rintro e w9 ⟨rfl, t0, k⟩
  have t : Bt w9 D 2 10 2 2 16 := t0
  have K9 : Hid (Keeps (· = D) w5 w9) := Lib.hid (K8.out.trans k)
  have hp := Blk.keeps B5.out K9.out NP.out.2.1
  have p0 : w9.cell? ⟨P, 0, none⟩ = some (.pointer (some ⟨G, 0, none⟩)) := by rw [hp.cell]; rfl
  have p1 : w9.cell? ⟨P, 1, none⟩ = some (.pointer (some ⟨D, 0, none⟩)) := by rw [hp.cell]; rfl
  clear HT
  have HT := Lib.hid (ask0 17 17 t (by omega) rfl)
  clear t t0 k hp
  rw [show asks 10 2 16 17 = false from rfl] at HT
  go_wp2_with fail
  refine HT.out.mono ?_
  rintro e w10 ⟨rfl, t0, k⟩
  have t : Bt w10 D 2 10 2 2 16 := t0
  have K10 : Hid (Keeps (· = D) w5 w10) := Lib.hid (K9.out.trans k)
  have hp := Blk.keeps B5.out K10.out NP.out.2.1
  have p0 : w10.cell? ⟨P, 0, none⟩ = some (.pointer (some ⟨G, 0, none⟩)) := by rw [hp.cell]; rfl
  have p1 : w10.cell? ⟨P, 1, none⟩ = some (.pointer (some ⟨D, 0, none⟩)) := by rw [hp.cell]; rfl
  clear HT
  have HT := Lib.hid (get0 t)
  clear t t0 k hp
  rw [show ((2 : Nat) : Int) = 2 from rfl, show ((16 : Nat) : Int) = 16 from rfl] at HT
  go_wp2_with fail
  refine HT.out.mono ?_
  rintro e w11 ⟨rfl, -, k⟩
  have KD : Hid (Keeps (· = D) w5 w11) := Lib.hid (K10.out.trans k)
  clear k HT
  go_wp2
  go_ret
  exact ⟨rfl, fun S => ((((K1.out (fun _ => False)).mono (S' := fun b => b = C ∨ b = E ∨ b = D) (fun b _ z => z.elim)).trans (K5.out.mono (fun b _ z => by rcases z with z | z; exact .inl z; exact .inr (.inl z)))).trans (KD.out.mono (fun b _ z => .inr (.inr z)))).mono (fun b hb z => absurd z (by have := NP.out; omega))⟩
end Go.Proofs.Ytadnkidbglhdlaa.ga
