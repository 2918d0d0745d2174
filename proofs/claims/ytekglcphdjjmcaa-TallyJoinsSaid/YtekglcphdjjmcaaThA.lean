/-
  tally: a histogram's Add under a gate of notes, or none.
-/
import Derived.Test.YtekglcphdjjmcaaTh
set_option linter.unusedVariables false
namespace Go.Proofs.Ytekglcphdjjmcaa.th
open Go.RowKit Go.Proofs.Ytekglcphdjjmcaa.oc Go.Proofs.Ytekglcphdjjmcaa.mz Go.Proofs.Ytekglcphdjjmcaa.at_ Go.Proofs.Ytekglcphdjjmcaa.gt Go.Proofs.Ytekglcphdjjmcaa.gw Go.Proofs.Ytekglcphdjjmcaa.tac
/-- what gates.As makes of a gate -/
def AsG (gv : Value) (N : Nat) (g2 : Value) : Prop := (gv = .nilIface ∧ g2 = .nilIface) ∨ (gv = .iface 47 (.pointer (some ⟨N, 0, none⟩)) ∧ g2 = rn N)
theorem rn_inj {N M : Nat} (h : rn N = rn M) : N = M := by
  unfold rn at h
  simp at h
  exact h
theorem AsG.gate {gv g2 : Value} {N : Nat} {w : World} {ms : List (Nat × Nat)} {F : Nat → Prop} (a : AsG gv N g2) (h : GF w gv N ms F) : tac.Gate w g2 ms F := by
  rcases a with ⟨rfl, rfl⟩ | ⟨rfl, rfl⟩
  · exact .inl rfl
  · rcases h with h | h
    · cases h
    · exact .inr ⟨N, rfl, h.2⟩
theorem AsG.back {gv g2 : Value} {N : Nat} {w : World} {ms : List (Nat × Nat)} {F : Nat → Prop} (a : AsG gv N g2) (h : tac.Gate w g2 ms F) : GF w gv N ms F := by
  rcases a with ⟨rfl, rfl⟩ | ⟨rfl, rfl⟩
  · exact .inl rfl
  · rcases h with h | ⟨M, e, h⟩
    · cases h
    · have := rn_inj e
      subst this
      exact .inr ⟨rfl, h⟩
theorem as_ {gv : Value} {N : Nat} {w : World} {ms : List (Nat × Nat)} {F : Nat → Prop} (h : GF w gv N ms F) : ∃ g2, AsG gv N g2 ∧ ∀ w, Calls Try.prog 26 #[gv, .int .i64 66] w fun e w' => e = .returned g2 ∧ w = w' := by
  rcases h with rfl | ⟨rfl, h⟩
  · exact ⟨.nilIface, .inl ⟨rfl, rfl⟩, fun w => as_nil 66 w⟩
  · exact ⟨rn N, .inr ⟨rfl, rfl⟩, fun w => as_notes N w⟩
def maxM (m v : Nat) : List (Nat × Nat) := if m < v then [(1, 66), (5, 66)] else [(1, 66)]
theorem max_ (C v n : Nat) (gv : Value) (w : World) (ms : List (Nat × Nat)) (F : Nat → Prop) (h : Cnt w C v) (hg : tac.Gate w gv ms F) (hl : ms.length < 999999) (hd : ¬ F C) (hF : ∀ b, F b → b < w.heap.size) (hn : n < 18446744073709551616) :
    Calls Try.prog 28 #[.pointer (some ⟨C, 0, none⟩), gv, .int .u64 n] w fun e w' => ∃ r : Value, e = .returned r ∧ CPost C (max v n) gv (ms ++ maxM v n) F w w' := by
  by_cases q : v < n
  · refine (cnt_max_yes C v n gv w ms F h hg hl hd hF hn q).mono ?_
    rintro e w' ⟨rfl, k⟩
    refine ⟨_, rfl, ?_⟩
    rw [List.append_assoc] at k
    rw [show max v n = n from by omega, maxM, if_pos q]
    exact k
  · refine (cnt_max_no C v n gv w ms F h hg hl hd hF hn q).mono ?_
    rintro e w' ⟨rfl, k⟩
    refine ⟨_, rfl, ?_⟩
    rw [show max v n = v from by omega, maxM, if_neg q]
    exact k
/-- the words behind an Add of v -/
def one (v : Nat) (ws : List Nat) : List Nat := ws.set (Lib.bitLen v) ((ws[Lib.bitLen v]?.getD 0 + 1) % W64)
def come (v : Nat) (ws : List Nat) : List Nat := (one v ws).set 65 (((one v ws)[65]?.getD 0 + v) % W64)
theorem come_len (v : Nat) (ws : List Nat) : (come v ws).length = ws.length := by simp [come, one]
def comeM (v m : Nat) : List (Nat × Nat) := [(3, Lib.bitLen v)] ++ [(3, 65)] ++ maxM m v
/-- what a histogram's Add leaves -/
structure Came (w : World) (H W C : Nat) (ws : List Nat) (m : Nat) (gv : Value) (N : Nat) (ms : List (Nat × Nat)) (F : Nat → Prop) (w' : World) : Prop where
  th : Th w' H W C ws m
  gate : GF w' gv N ms (Grown w w' F)
  keep : Keeps (fun b => b = W ∨ b = C ∨ F b) w w'
set_option maxRecDepth 100000 in
set_option maxHeartbeats 4000000 in
theorem hadd_ (H W C m v N : Nat) (ws : List Nat) (gv : Value) (ms : List (Nat × Nat)) (F : Nat → Prop) (w : World) (h : Th w H W C ws m) (hg : GF w gv N ms F) (hl : ms.length < 900000) (hH : ¬ F H) (hW : ¬ F W) (hC : ¬ F C) (hF : ∀ b, F b → b < w.heap.size) (hv : v < 18446744073709551616) :
    Calls Try.prog 10 #[.pointer (some ⟨H, 0, none⟩), gv, .int .u64 (v : Int)] w fun e w' => e = .returned (.int .i64 0) ∧ Came w H W C (come v ws) (max m v) gv N (ms ++ comeM v m) F w' := by
  obtain ⟨g2, ha, has⟩ := as_ hg
  have hb64 := ln.bits_64 v hv
  have HN := Lib.hid (none_ H W C m ws w h)
  have HLN := Lib.hid (fun w => ln.len64_ v w hv)
  have hd0 : ∀ S, Keeps S w w.drew := fun S => (Keeps.refl S w).drew
  have h0 := h.keeps (hd0 (fun _ => False)) (fun z => z) (fun z => z) (fun z => z)
  have HA1 := Lib.hid (add_ W 66 (Lib.bitLen v) N ws gv ms F w.drew 1 h0.wd h0.len (hg.keeps (hd0 (fun _ => False)) (fun _ _ z => z)) (by omega) (by omega) hW h0.ltW)
  have c1 := h.cell1
  have HH := Lib.hid h
  have HG := Lib.hid hg
  have HF : Hid (¬ F H ∧ ¬ F W ∧ ¬ F C ∧ (∀ b, F b → b < w.heap.size) ∧ ms.length < 900000 ∧ v < 18446744073709551616 ∧ Lib.bitLen v ≤ 64) := Lib.hid ⟨hH, hW, hC, hF, hl, hv, hb64⟩
  have HAS := Lib.hid has
  have HAG := Lib.hid ha
  have HO : Hid (come v ws = (one v ws).set 65 (((one v ws)[65]?.getD 0 + v) % W64) ∧ (one v ws).length = 66 ∧ comeM v m = [(3, Lib.bitLen v)] ++ [(3, 65)] ++ maxM m v) := Lib.hid ⟨rfl, by simp [one, h.len], rfl⟩
  have e1 : ws.set (Lib.bitLen v) ((ws[Lib.bitLen v]?.getD 0 + 1) % W64) = one v ws := rfl
  rw [e1] at HA1
  have i1 : ((1 : Nat) : Int) = 1 := rfl
  rw [i1] at HA1
  clear h hg hl hH hW hC hF hv has ha h0 hd0 hb64 e1 i1
  generalize one v ws = ws1 at *
  generalize come v ws = ws2 at *
  generalize comeM v m = mc at *
  generalize Lib.bitLen v = b at *
  generalize (ws[b]?.getD 0 + 1) % W64 = t1 at *
  go_enter Try.func10, Try.ntmps10
  go_wp2_with fail
  refine HN.out.mono ?_
  rintro e w' ⟨rfl, rfl⟩
  go_wp2_with fail
  go_region_held3 (fun w' => w'.cell? ⟨H, 1, none⟩ = some (.slice (some ⟨W, 0, none⟩) 66 66)) (first | exact c1 | exact c1w)
    ((first
      | (go_at_call 27; refine (HLN.out _).mono ?_; rintro e w' ⟨rfl, rfl⟩)
      | (go_at_call 22; refine HA1.out.mono ?_; rintro e w1 ⟨rfl, d1, g1, k1⟩; have D1 := Lib.hid d1; have G1 := Lib.hid g1; have K1 := Lib.hid ((Keeps.refl _ _).drew.trans k1); have c1w : w1.cell? ⟨H, 1, none⟩ = some (.slice (some ⟨W, 0, none⟩) 66 66) := K1.out.cell c1 (fun z => by rcases z with z | z; exact HH.out.neW z; exact HF.out.1 z); clear d1 g1 k1)))
  have t1h : Th w1 H W C ws1 m := ⟨Blk.keeps HH.out.blk K1.out (fun z => by rcases z with z | z; exact HH.out.neW z; exact HF.out.1 z), D1.out, HH.out.cnt.keeps K1.out (fun z => by rcases z with z | z; exact HH.out.neWC z.symm; exact HF.out.2.2.1 z), HO.out.2.1, HH.out.neW, HH.out.neC, HH.out.neWC⟩
  have hbnd : H < w.heap.size ∧ W < w.heap.size ∧ C < w.heap.size := ⟨HH.out.ltH, HH.out.ltW, HH.out.ltC⟩
  have HB := Lib.hid hbnd
  have g1 := G1.out
  have hz0 : w.drew.heap.size = w.heap.size := rfl
  have hGr : mz.Grown w.drew w1 F = mz.Grown w w1 F := rfl
  rw [hGr] at g1
  have nF : ∀ x, x < w.heap.size → ¬ F x → ¬ mz.Grown w w1 F x := fun x hx hf => grown_not hx hf
  have HA2 := Lib.hid (add_ W 66 65 N ws1 gv (ms ++ [(3, b)]) (mz.Grown w w1 F) w1 v t1h.wd t1h.len g1 (by have := HF.out.2.2.2.2.1; simp; omega) (by omega) (nF W hbnd.2.1 HF.out.2.1) t1h.ltW)
  have T1 := Lib.hid t1h
  have E2 : Hid (ws1.set 65 ((ws1[65]?.getD 0 + v) % W64) = ws2) := Lib.hid HO.out.1.symm
  rw [E2.out] at HA2
  have c1 := t1h.cell1
  have i65 : ((65 : Nat) : Int) = 65 := rfl
  rw [i65] at HA2
  clear t1h hbnd g1 hz0 hGr nF i65 HA1 HLN HN
  generalize (ws1[65]?.getD 0 + v) % W64 = t2 at *
  go_wp2_with fail
  refine HA2.out.mono ?_
  rintro e w2 ⟨rfl, d2, g2', k2⟩
  have k12 : Keeps (fun b => b = W ∨ F b) w w2 := Keeps.glue K1.out k2 (fun x hx z => by rcases z with z | z; exact .inl z; exact .inr (grown_old hx z))
  have hsz := k2.size
  have hsz1 := K1.out.size
  rw [grown_twice hsz1 hsz] at g2'
  have hlen2 : ws2.length = 66 := by rw [HO.out.1]; simp [HO.out.2.1]
  have t2h : Th w2 H W C ws2 m := ⟨Blk.keeps HH.out.blk k12 (fun z => by rcases z with z | z; exact HH.out.neW z; exact HF.out.1 z), d2, HH.out.cnt.keeps k12 (fun z => by rcases z with z | z; exact HH.out.neWC z.symm; exact HF.out.2.2.1 z), hlen2, HH.out.neW, HH.out.neC, HH.out.neWC⟩
  have hd2 : ∀ S, Keeps S w2 w2.drew := fun S => (Keeps.refl S w2).drew
  have hFb : ∀ b, mz.Grown w w2 F b → b < w2.heap.size := fun x hx => by
    rcases hx with z | z
    · have := HF.out.2.2.2.1 x z; omega
    · exact z.2
  have HMX := Lib.hid (max_ C m v g2 w2.drew (ms ++ [(3, b)] ++ [(3, 65)]) (mz.Grown w w2 F) (t2h.cnt.keeps (hd2 (fun _ => False)) (fun z => z)) (HAG.out.gate (g2'.keeps (hd2 (fun _ => False)) (fun _ _ z => z))) (by have := HF.out.2.2.2.2.1; simp; omega) (grown_not HB.out.2.2 HF.out.2.2.1) hFb HF.out.2.2.2.2.2.1)
  have c2 := t2h.cell2
  have T2 := Lib.hid t2h
  have K12 := Lib.hid k12
  have SZ := Lib.hid (Nat.le_trans hsz1 hsz)
  clear d2 g2' k2 k12 hsz hsz1 hlen2 t2h hd2 hFb HA2
  go_wp2_with fail
  go_region_held3 (fun w' => w'.cell? ⟨H, 2, none⟩ = some (.pointer (some ⟨C, 0, none⟩))) (first | exact c2 | exact c2w)
    ((first
      | (go_at_call 26; refine (HAS.out _).mono ?_; rintro e w' ⟨rfl, rfl⟩)
      | (go_at_call 28; refine HMX.out.mono ?_; rintro e w3 ⟨r, rfl, p3⟩; have P3 := Lib.hid p3; have c2w : w3.cell? ⟨H, 2, none⟩ = some (.pointer (some ⟨C, 0, none⟩)) := Keeps.cell p3.2.2 c2 (fun z => by rcases z with z | z; exact grown_not HB.out.1 HF.out.1 z; exact HH.out.neC z); clear p3)))
  go_wp2_with fail
  go_ret
  obtain ⟨q1, q2, q3⟩ := P3.out
  have q3' : Keeps (fun b => mz.Grown w w2 F b ∨ b = C) w2 w3 := (Keeps.refl _ w2).drew.trans q3
  have hs3 := q3'.size
  have hs2 := SZ.out
  have gg : mz.Grown w2.drew w3 (mz.Grown w w2 F) = mz.Grown w w3 F := grown_twice (w1 := w2) hs2 hs3
  have kk : Keeps (fun b => b = W ∨ b = C ∨ F b) w w3 := Keeps.glue (K12.out.mono (fun x _ z => by rcases z with z | z; exact .inl z; exact .inr (.inr z))) q3' (fun x hx z => by rcases z with z | z; exact .inr (.inr (grown_old hx z)); exact .inr (.inl z))
  refine ⟨rfl, ⟨⟨Blk.keeps HH.out.blk kk (fun z => by rcases z with z | z | z; exact HH.out.neW z; exact HH.out.neC z; exact HF.out.1 z), T2.out.wd.keeps q3' (fun z => by rcases z with z | z; exact grown_not HB.out.2.1 HF.out.2.1 z; exact HH.out.neWC z), q1, T2.out.len, HH.out.neW, HH.out.neC, HH.out.neWC⟩, ?_, kk⟩⟩
  rw [gg] at q2
  rw [HO.out.2.2, ← List.append_assoc, ← List.append_assoc]
  exact HAG.out.back q2
end Go.Proofs.Ytekglcphdjjmcaa.th
