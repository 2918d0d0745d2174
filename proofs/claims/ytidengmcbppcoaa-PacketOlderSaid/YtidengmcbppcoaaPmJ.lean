/-
  PacketOlder: for every input the law returns true and every argument reads afterwards as it read before. No condition but the form's own reach.
-/
import Derived.Test.YtidengmcbppcoaaPlJ
import Derived.Test.YtidengmcbppcoaaRows
import Derived.Test.YtidengmcbppcoaaOcOpen
import Derived.Test.YtidengmcbppcoaaPlM
import Derived.ShutString
import Derived.ChangeOld
set_option linter.unusedVariables false
set_option linter.unusedSimpArgs false
namespace Go.Proofs.Ytidengmcbppcoaa.pk
open Go.RowKit Go.Proofs.Ytidengmcbppcoaa.oc Go.Proofs.Ytidengmcbppcoaa.mz Go.Proofs.Ytidengmcbppcoaa.pf Go.Proofs.Ytidengmcbppcoaa.wh Go.Proofs.Ytidengmcbppcoaa.qk Go.Proofs.Ytidengmcbppcoaa.bys
theorem may_less {h : Hd} : May (less h) ↔ May h := ⟨fun m => ⟨m.a, m.b, m.v, m.i, m.j, m.f, m.p⟩, fun m => ⟨m.a, m.b, m.v, m.i, m.j, m.f, m.p⟩⟩
theorem chk_less {h : Hd} (hc : chkE h = 0) : chkE (less h) = 0 := by
  have h1 := chk_may hc
  have h2 := chk_ok hc
  unfold chkE
  rw [if_neg (fun z => z (may_less.2 h1)), if_neg ?_]
  show ¬ 2048 < fsz h + mids h.pr + h.dat.length
  omega
theorem be_sm (k v : Nat) : Small (be k v) := be_small k v
theorem fill_small {l : List Nat} (hl : Small l) (p s : Nat) (hs : s < 65536) : Small (fillp l p s) := fun x hx => by
  unfold fillp at hx
  rcases List.mem_or_eq_of_mem_set hx with q | q
  · rcases List.mem_or_eq_of_mem_set q with q | q
    · exact hl x q
    · omega
  · omega
theorem make_small {h : Hd} (hw : h.Wf) : Small (make h) := by
  rw [make_eq]
  refine Small.append ?_ ?_
  · unfold front
    split
    · unfold six
      refine ((((be_small _ _).append (be_small _ _)).append ?_).append hw.s.sm).append hw.d.sm
      intro x hx
      simp at hx
      rcases hx with rfl | rfl
      · exact hw.p
      · exact hw.t
    · exact fill_small (four0_small h hw _) _ _ (by have := csum_le (four0 h (bod h).length); omega)
  · unfold bod
    split
    · exact (mid_small hw).append hw.b
    · exact fill_small ((mid_small hw).append hw.b) _ _ (sumv_lt _ _)
theorem make_length {h : Hd} (hw : h.Wf) (hc : chkE h = 0) : (make h).length ≤ 2048 ∧ 20 ≤ (make h).length := by
  have h2 := chk_ok hc
  rw [make_eq, List.length_append, front_length h hw, bod_len]
  have : 20 ≤ fsz h := by unfold fsz; split <;> omega
  omega
theorem read_made {h : Hd} (hw : h.Wf) (hc : chkE h = 0) : rdd (make h) = (h, (make h).length, 0) := by
  have := read_make hw hc []
  rwa [List.append_nil] at this
theorem old_made {h : Hd} (hw : h.Wf) (hc : chkE h = 0) (ht : h.ttl ≠ 0) : old (make h) = (make (less h), 0) := by
  unfold old
  rw [read_made hw hc]
  dsimp only
  rw [if_neg (fun z => z rfl), if_neg ht, chk_less hc, show mk (less h) = make (less h) from if_pos (chk_less hc)]
theorem old_last {h : Hd} (hw : h.Wf) (hc : chkE h = 0) (ht : h.ttl = 0) : old (make h) = ([], 3) := by
  unfold old
  rw [read_made hw hc]
  dsimp only
  rw [if_neg (fun z => z rfl), if_pos ht]
section
variable (w : World)
theorem rfit_ (h : Hd) (A : Option Addr) (n c : Nat) (hw : h.Wf) (hl : h.dat.length = n) (hn : n ≤ 140737480000000) (hr : Rd w w.heap.size A (by_ h.dat)) :
    Calls Try.prog 22 #[hvv h (.slice A n c)] w fun e w' => ∃ v, e = .returned (hvv (fit h) v) ∧ By w w' v (fit h).dat := by
  cases hv : h.src.v6 with
  | true =>
    rcases p_cases h.pr with e | e | ⟨h6, h7⟩
    · exact rfit_t6 w h A n c hw hl hn hr hv e
    · exact rfit_t17 w h A n c hw hl hn hr hv e
    · exact rfit_tn w h A n c hw hl hn hr hv h6 h7
  | false =>
    rcases p_cases h.pr with e | e | ⟨h6, h7⟩
    · exact rfit_f6 w h A n c hw hl hn hr hv e
    · exact rfit_f17 w h A n c hw hl hn hr hv e
    · exact rfit_fn w h A n c hw hl hn hr hv h6 h7
end
end Go.Proofs.Ytidengmcbppcoaa.pk
set_option linter.unusedVariables false
set_option linter.unusedSimpArgs false
namespace Go.Proofs.Ytidengmcbppcoaa.pk
open Go.RowKit Go.Proofs.Ytidengmcbppcoaa.oc Go.Proofs.Ytidengmcbppcoaa.mz Go.Proofs.Ytidengmcbppcoaa.pf Go.Proofs.Ytidengmcbppcoaa.wh Go.Proofs.Ytidengmcbppcoaa.qk Go.Proofs.Ytidengmcbppcoaa.bys
def atT (h : Hd) (t : Nat) : Hd := ⟨h.src, h.dst, h.pr, h.sp, h.dp, t, h.cls, h.id, h.fl, h.seq, h.dat⟩
theorem atT_wf {h : Hd} (hw : h.Wf) {t : Nat} (ht : t < 256) : (atT h t).Wf := ⟨hw.s, hw.d, hw.p, hw.sl, hw.dl, ht, hw.c, hw.i, hw.f, hw.q, hw.b⟩
theorem atT_chk {h : Hd} (hc : chkE h = 0) (t : Nat) : chkE (atT h t) = 0 := by
  have h1 := chk_may hc
  have h2 := chk_ok hc
  unfold chkE
  rw [if_neg (fun z => z (⟨h1.a, h1.b, h1.v, h1.i, h1.j, h1.f, h1.p⟩ : May (atT h t))), if_neg ?_]
  show ¬ 2048 < fsz h + mids h.pr + h.dat.length
  omega
theorem atT_less (h : Hd) (t : Nat) : less (atT h (t + 1)) = atT h t := rfl
/-- the header whose Data are cut -/
def cutH (h : Hd) (n : Nat) : Hd := ⟨h.src, h.dst, h.pr, h.sp, h.dp, h.ttl, h.cls, h.id, h.fl, h.seq, h.dat.take n⟩
def ttlOf (G : Nat) (w : World) : Nat := match w.cell? ⟨G, 37, none⟩ with | some (.int _ z) => z.toNat | _ => 0
theorem own_cap {w : World} {base g n c : Nat} {t : TypeId} {xs : List Value} (h : w.ownsRow base t 1 (.slice (some ⟨g, 0, none⟩) n c) n xs) : n ≤ c ∧ c ≤ 9223372036854775807 := by
  rcases h.2 with ⟨e, _⟩ | ⟨g', cap, cur, e, _, _, h1, h2, _⟩
  · cases e
  · injection e with _ e1 e2
    subst e2
    unfold maxLen at h2
    omega
theorem own_base {w : World} {b0 b1 n : Nat} {t : TypeId} {v : Value} {xs : List Value} (h : w.ownsRow b1 t 1 v n xs) (hb : b0 ≤ b1) : w.ownsRow b0 t 1 v n xs := by
  refine ⟨h.1, ?_⟩
  rcases h.2 with q | ⟨g, cap, cur, e, hb1, rest⟩
  · exact .inl q
  · exact .inr ⟨g, cap, cur, e, Nat.le_trans hb hb1, rest⟩
theorem below_o {w w1 : World} (k : ∀ S, Keeps S w w1) : Below w.heap.size w w1 := ⟨(k (fun _ => False)).same.1, (k (fun _ => False)).same.2, (k (fun _ => False)).same.3, (k (fun _ => False)).size, fun b hb => (k (fun _ => False)).block b hb (fun z => z)⟩
section
variable (w : World)
set_option maxRecDepth 100000 in
set_option maxHeartbeats 4000000 in
theorem walk_packetOlder (h : Hd) (hw : h.Wf) (A : Option Addr) (n c : Nat) (hl : h.dat.length = n) (hc : n ≤ c) (hz : c ≤ 140737488351232) (hr : Rd w w.heap.size A (by_ h.dat)) :
    Calls Try.prog 9 #[hvv h (.slice A n c)] w fun e w' => e = .returned (.bool true) ∧ Below w.heap.size w w' := by
  suffices hh : Calls Try.prog 9 #[hvv h (.slice A n c)] w fun e w' => e = .returned (.bool true) ∧ ∀ S, Keeps S w w' from hh.mono fun e w' ⟨h1, h2⟩ => ⟨h1, below_o h2⟩
  obtain ⟨w1, hw1, k1, b1, s1⟩ := box1 w (hcs h (.slice A n c)) 29
  have HWF := Lib.hid hw
  have HR := Lib.hid hr
  have HL := Lib.hid hl
  have HW1 := Lib.hid hw1
  have HB1 := Lib.hid b1
  have K1 := Lib.hid k1
  unfold hvv
  clear hw1 k1 b1 s1 hw hl hr
  generalize hC : hcs h (.slice A n c) = C at *
  have HC := Lib.hid hC
  clear hC
  go_enter Try.func9, Try.ntmps9
  go_wp2_with fail
  try rw [← HW1.out]
  refine (works_ w1).mono ?_
  rintro e w2 ⟨rfl, k2⟩
  obtain ⟨m, hm⟩ : ∃ m, m = min n 60 := ⟨_, rfl⟩
  have hm1 : m ≤ n := by omega
  have hm2 : m ≤ 60 := by omega
  have g2 := Blk.keeps HB1.out (k2 (fun _ => False)) (fun z => z)
  rw [← HC.out] at g2
  have kk2 : ∀ S, Keeps S w w2 := fun S => (K1.out S).trans (k2 S)
  have c42 := (HF.of_blk HWF.out g2).dat
  have f42 : w2.frozen? ⟨w.heap.size, 42, none⟩ = false := g2.frozen 42
  have q1 : ∀ u, (Instr.slice 27 (.slice A n c) none (some (.int .i64 (m : Int))) none).run Try.prog u = .ok (.slice A m c) u := fun u => cut_h A n c m (by omega) u
  have zm : min (n : Int) 60 = (m : Int) := by omega
  have zm3 : min n 60 = m := hm.symm
  obtain ⟨w3, hw3⟩ : ∃ y, y = w2.setCell ⟨w.heap.size, 42, none⟩ (.slice A m c) := ⟨_, rfl⟩
  have g3 := st_dat g2 HWF.out.s HWF.out.d (.slice A m c) (h.dat.take m)
  have p3 := keeps_put (G := w.heap.size) (Keeps.refl _ w2) 42 (.slice A m c)
  rw [← hw3] at g3 p3
  have G3 : Hid (Blk w3 w.heap.size 29 (hcs (cutH h m) (.slice A m c))) := Lib.hid g3
  have kk3 : ∀ S, Keeps S w w3 := keeps_own kk2 p3 (Nat.le_refl _)
  have hcw : (cutH h m).Wf := ⟨HWF.out.s, HWF.out.d, HWF.out.p, HWF.out.sl, HWF.out.dl, HWF.out.t, HWF.out.c, HWF.out.i, HWF.out.f, HWF.out.q, fun x hx => HWF.out.b x (List.mem_of_mem_take hx)⟩
  have hcl : (cutH h m).dat.length = m := by show (h.dat.take m).length = m; rw [List.length_take, HL.out]; omega
  have HFI := Lib.hid (rfit_ w3 (cutH h m) A m c hcw hcl (by omega) ((rd_take (rd_old HR.out (kk3 _)) m).more (kk3 (fun _ => False)).size))
  have HFC := Lib.hid (fit_chk hcw)
  have HFW := Lib.hid (fit_wf hcw)
  have HSC := Lib.hid (hd_sz hcw (.slice A m c))
  have hfd : (fit (cutH h m)).dat.length ≤ 60 := by show ((h.dat.take m).take _).length ≤ 60; rw [List.length_take, List.length_take]; omega
  obtain ⟨hk, hhk⟩ : ∃ hk, hk = fit (cutH h m) := ⟨_, rfl⟩
  rw [← hhk] at HFI HFC HFW hfd
  have HFD := Lib.hid hfd
  have KK3 := Lib.hid kk3
  have HW3 := Lib.hid hw3
  unfold hvv at HFI
  clear hhk hw3 g3 p3 kk3 hcw hcl hfd hm kk2 g2 k2
  go_wp2_with ((with_reducible show wpList _ _ _ (⟨some 19, _, _, _, _, _⟩ :: _) _ _); (try rw [← HW3.out]); refine wpList_load_mid rfl 29 _ rfl w.heap.size 0 rfl (hcs (cutH h m) (.slice A m c)) _ (Blk.range G3.out) Try.underlying29 rfl HSC.out ?_)
  --@F
  refine HFI.out.mono ?_
  rintro e w4 ⟨v4, rfl, y4⟩
  obtain ⟨A4, c4, rfl, r4⟩ := y4.rd
  obtain ⟨m4, hm4⟩ : ∃ m4, hk.dat.length = m4 := ⟨_, rfl⟩
  rw [hm4] at y4 ⊢
  have s3 : w.heap.size < w3.heap.size := G3.out.lt
  have g4 := Blk.keeps G3.out (y4.keep (fun _ => False)) (fun z => z)
  obtain ⟨t5, b5, k5⟩ := p_store (cs := hcs hk (.slice A4 m4 c4)) g4 (by rw [hcs_len HFW.out, ← (hd_sz (h := hk) HFW.out (.slice A4 m4 c4) |> fun _ => rfl : (43 : Nat) = 43)]; rw [← Option.some.inj (HSC.out.symm.trans hd_info)])
  obtain ⟨w5, hw5⟩ : ∃ y, y = w4.setCells w.heap.size 0 (hcs hk (.slice A4 m4 c4)) := ⟨_, rfl⟩
  rw [← hw5] at b5 k5
  have kk5 : ∀ S, Keeps S w w5 := keeps_own (fun S => (KK3.out S).trans (y4.keep S)) k5 (Nat.le_refl _)
  have OV : Hid (w5.ownsRow w3.heap.size 5 1 (.slice A4 m4 c4) m4 (by_ hk.dat)) := Lib.hid (by
    have h0 := y4.own
    rw [hm4] at h0
    exact owns_keeps h0 k5 (fun b hb e => by have := (y4.own.lt b hb).1; omega))
  have HSK := Lib.hid (hd_sz HFW.out (.slice A4 m4 c4))
  have HSO := Lib.hid (all_oneCell_toArray (hcs_one (h := hk) (v := .slice A4 m4 c4) rfl))
  have hmk := make_ w5 hk A4 m4 c4 HFW.out hm4 (by have := HFD.out; omega) (Rd.own OV.out)
  rw [HFC.out, show mk hk = make hk from if_pos HFC.out] at hmk
  have HMK := Lib.hid hmk
  have HT5 := Lib.hid t5
  have HB5 := Lib.hid b5
  have HW5 := Lib.hid hw5
  have KK5 := Lib.hid kk5
  have HM4 := Lib.hid hm4
  have S35 : Hid (w.heap.size < w3.heap.size ∧ w3.heap.size ≤ w5.heap.size) := Lib.hid ⟨s3, Nat.le_trans (y4.keep (fun _ => False)).size k5.size⟩
  unfold hvv at HMK
  clear y4 r4 g4 t5 b5 k5 hw5 kk5 hmk hm4 s3 c42 f42
  generalize hCK : hcs hk (.slice A4 m4 c4) = CK at HMK HT5 HB5 HW5 HSK HSO ⊢
  have HCK := Lib.hid hCK
  clear hCK
  go_wp2_with (first
    | ((with_reducible show wpList _ _ _ (⟨none, .store _ (.tmp 1) _, _, _, _, _⟩ :: _) _ _); refine' wpList_store_mid rfl 29 _ _ rfl w.heap.size 0 (CK).toArray ?hx rfl ?ht HSK.out HSO.out ?_; (case hx => rfl); (case ht => exact HT5.out); rw [← HW5.out])
    | ((with_reducible show wpList _ _ _ (⟨some 22, _, _, _, _, _⟩ :: _) _ _); refine wpList_load_mid rfl 29 _ rfl w.heap.size 0 rfl CK _ (Blk.range HB5.out) Try.underlying29 rfl HSK.out ?_))
  --@M
  refine HMK.out.mono ?_
  rintro e w6 ⟨v6, rfl, y6⟩
  have O6 : Hid (w6.ownsRow w5.heap.size 5 1 v6 (make hk).length (by_ (make hk))) := Lib.hid y6.own
  have K56 := Lib.hid y6.keep
  clear y6
  go_wp2_with fail
  --@L
  go_loopw [3, 4] (fun b e wr => ∃ t : Nat, t < 256 ∧ e = .int .i64 0 ∧ Hid (Blk wr w.heap.size 29 (hcs (atT hk t) (.slice A4 m4 c4))) ∧ Hid (wr.ownsRow w5.heap.size 5 1 b (make (atT hk t)).length (by_ (make (atT hk t)))) ∧ Hid (Keeps (· = w.heap.size) w5 wr)) (fun _ _ wr => ttlOf w.heap.size wr)
  case atStart => exact ⟨hk.ttl, HFW.out.t, rfl, Lib.hid (by have := Blk.keeps HB5.out (K56.out (fun _ => False)) (fun z => z); rw [← HCK.out] at this; exact this), O6, Lib.hid (K56.out _)⟩
  case round =>
    obtain ⟨t, ht, rfl, hb, ho, hkp⟩ := hrel
    have wt := atT_wf HFW.out ht
    have ct := atT_chk HFC.out t
    have lt_ := make_length wt ct
    have sm := make_small wt
    obtain ⟨L, hL⟩ : ∃ L, L = (make (atT hk t)).length := ⟨_, rfl⟩
    rw [← hL] at lt_
    have ho2 := ho.out
    rw [← hL] at ho2
    obtain ⟨g, cc, rfl, hg, hgl⟩ := ho2.form (by omega)
    have hcap : L ≤ cc ∧ cc ≤ 9223372036854775807 := own_cap ho2
    have r6 : Rd wr (g + 1) (some ⟨g, 0, none⟩) (by_ (make (atT hk t))) := fun j v hj => ⟨g, 0, rfl, Nat.lt_succ_self g, by have := ho2.cells (g := g) rfl j v hj; rwa [Addr.add_lit] at this⟩
    have HOL := Lib.hid (older_ wr (some ⟨g, 0, none⟩) L cc (g + 1) (make (atT hk t)) hL.symm (by omega) hcap.1 hcap.2 sm r6 (by omega))
    have c37 := (HF.of_blk wt hb.out).ttl
    have e37 : ttlOf w.heap.size wr = t := by unfold ttlOf; rw [c37]; rfl
    by_cases h0 : t = 0
    · rw [old_last wt ct h0] at HOL
      unfold OA at HOL
      have c37b : wr.cell? ⟨w.heap.size, 37, none⟩ = some (.int .u8 0) := by rw [c37]; show some (Value.int .u8 (t : Int)) = _; rw [h0]; rfl
      clear c37 e37
      have HKP : Hid (∀ S, Keeps S w wr) := Lib.hid (keeps_own KK5.out hkp.out (Nat.le_refl _))
      clear h0 hL ho2 r6 hcap lt_ sm ct wt
      go_wp2_with fail
      --@O0
      refine HOL.out.mono ?_
      rintro e w7 ⟨v7, rfl, y7⟩
      dsimp only at y7 ⊢
      obtain ⟨A7, c7, rfl, r7⟩ := y7.rd
      rw [show ([] : List Nat).length = 0 from rfl]
      have K7 := Lib.hid y7.keep
      clear y7 r7
      go_wp2
      try rw [Exit.noGoto_ret]
      go_ret
      exact ⟨rfl, fun S => (HKP.out S).trans (K7.out S)⟩
    · obtain ⟨t1, rfl⟩ : ∃ t1, t = t1 + 1 := ⟨t - 1, by omega⟩
      rw [old_made wt ct h0, atT_less] at HOL
      unfold OA at HOL
      have d0 : (0 : Int) < ((t1 + 1 : Nat) : Int) := by omega
      obtain ⟨tt, htt⟩ : ∃ tt : Nat, tt = t1 + 1 := ⟨_, rfl⟩
      have c37b : wr.cell? ⟨w.heap.size, 37, none⟩ = some (.int .u8 (tt : Int)) := by rw [htt]; exact c37
      rw [← htt] at d0
      have HTT := Lib.hid htt
      have E37 := Lib.hid e37
      clear c37 e37 h0 hL ho2 r6 hcap sm ct htt
      go_wp2_with fail
      --@O1
      refine HOL.out.mono ?_
      rintro e w7 ⟨v7, rfl, y7⟩
      dsimp only at y7 ⊢
      have w1t := atT_wf HFW.out (show t1 < 256 by omega)
      have c1t := atT_chk HFC.out t1
      have l1t := make_length w1t c1t
      have sm1 := make_small w1t
      obtain ⟨L7, hL7⟩ : ∃ L7, L7 = (make (atT hk t1)).length := ⟨_, rfl⟩
      rw [← hL7] at l1t
      obtain ⟨g7, c7, rfl, hg7, hl7⟩ := y7.form (by omega)
      rw [← hL7] at y7 ⊢
      have cap7 := by_cap y7 hL7.symm
      have cap79 := by_cap9 y7
      have S5 := S35.out
      have s5r := hkp.out.size
      have hb7 := Blk.keeps hb.out (y7.keep (fun _ => False)) (fun z => z)
      have c37c : w7.cell? ⟨w.heap.size, 37, none⟩ = some (.int .u8 (tt : Int)) := by rw [HTT.out]; exact (HF.of_blk wt hb7).ttl
      have f37 : w7.frozen? ⟨w.heap.size, 37, none⟩ = false := hb7.frozen 37
      have e1 : IntKind.u8.wrap ((tt : Int) - 1) = (t1 : Int) := by have := HTT.out; rw [IntKind.wrap_u8]; omega
      have e2 : ((tt : Int) - 1) % 256 = (t1 : Int) := by have := HTT.out; omega
      have g8 := st_ttl hb7 wt.s wt.d t1
      have p8 := keeps_put (G := w.heap.size) (Keeps.refl _ w7) 37 (.int .u8 (t1 : Int))
      obtain ⟨w8, hw8⟩ : ∃ y, y = w7.setCell ⟨w.heap.size, 37, none⟩ (.int .u8 (t1 : Int)) := ⟨_, rfl⟩
      rw [← hw8] at g8 p8
      have G8 : Hid (Blk w8 w.heap.size 29 (hcs (atT hk t1) (.slice A4 m4 c4))) := Lib.hid g8
      have O8 : Hid (w8.ownsRow w5.heap.size 5 1 (.slice (some ⟨g7, 0, none⟩) L7 c7) L7 (by_ (make (atT hk t1)))) := Lib.hid (by
        have h0 := y7.own
        rw [← hL7] at h0
        exact own_base (owns_keeps h0 p8 (fun b hb e => by have := (y7.own.lt b hb).1; omega)) s5r)
      have K8 : Hid (Keeps (· = w.heap.size) w5 w8) := Lib.hid ((hkp.out.trans (y7.keep _)).trans p8)
      have r8 : Rd w8 (g7 + 1) (some ⟨g7, 0, none⟩) (by_ (make (atT hk t1))) := fun j v hj => ⟨g7, 0, rfl, Nat.lt_succ_self g7, by have := O8.out.cells (g := g7) rfl j v hj; rwa [Addr.add_lit] at this⟩
      have HRD := Lib.hid (read_ w8 (some ⟨g7, 0, none⟩) L7 c7 (g7 + 1) (make (atT hk t1)) hL7.symm (by omega) cap7 cap79 sm1 r8 (by have := p8.size; omega))
      rw [read_made w1t c1t, ← hL7] at HRD
      unfold RA at HRD
      have W1 := Lib.hid w1t
      have HW8 := Lib.hid hw8
      clear y7 hg7 hl7 cap7 cap79 hb7 g8 p8 hw8 r8 sm1 l1t c1t w1t hL7 S5 s5r wt
      go_wp2_with fail
      try rw [← HW8.out]
      clear c37b c37c f37 e1 e2 d0
      --@R1
      refine HRD.out.mono ?_
      rintro e w9 ⟨v9, rfl, y9⟩
      dsimp only at y9 ⊢
      obtain ⟨A9, c9, rfl, r9⟩ := y9.rd
      rw [show (atT hk t1).dat.length = m4 from HM4.out] at y9 ⊢
      obtain ⟨wz, hwz, kz, bz, sz⟩ := box1 w9 zhd 29
      dsimp only [zhd] at hwz
      obtain ⟨tz, bq, kq⟩ := p_store bz (cs := hcs (atT hk t1) (.slice A9 m4 c9)) (by rw [hcs_len W1.out]; rfl)
      obtain ⟨w10, hw10⟩ : ∃ y, y = wz.setCells w9.heap.size 0 (hcs (atT hk t1) (.slice A9 m4 c9)) := ⟨_, rfl⟩
      rw [← hw10] at bq kq
      have k9 : ∀ S, Keeps S w9 w10 := keeps_own kz kq (Nat.le_refl _)
      have k8 : ∀ S, Keeps S w8 w10 := fun S => (y9.keep S).trans (k9 S)
      have HTZ := Lib.hid tz
      have HWZ := Lib.hid hwz
      have HW10 := Lib.hid hw10
      have HBQ := Lib.hid bq
      have HGQ := Lib.hid (Blk.keeps G8.out (k8 (fun _ => False)) (fun z => z))
      have HSQ := Lib.hid (hd_sz W1.out (.slice A9 m4 c9))
      have HSR := Lib.hid (hd_sz W1.out (.slice A4 m4 c4))
      have HSP := Lib.hid (all_oneCell_toArray (hcs_one (h := atT hk t1) (v := .slice A9 m4 c9) rfl))
      have K10 : Hid (Keeps (· = w.heap.size) w5 w10) := Lib.hid (K8.out.trans (k8 _))
      have O10 := Lib.hid (owns_keeps O8.out (k8 (fun _ => False)) (fun _ _ z => z))
      have OV10 := owns_keeps OV.out K10.out (fun b hb e => by have := (OV.out.lt b hb).1; have := S35.out; omega)
      have HSM := psame2_ w10 (atT hk t1) (atT hk t1) W1.out W1.out A9 A4 m4 m4 c9 c4 HM4.out HM4.out ((rd_old r9 (k9 _)).more (k9 (fun _ => False)).size) (Rd.own OV10)
      rw [same_yes rfl] at HSM
      have HSS := Lib.hid HSM
      have dl : ((L7 : Int) != (L7 : Int)) = false := bne_self_eq_false _
      unfold hvv at HSS
      clear hwz kz bz sz tz bq kq hw10 k9 k8 y9 r9 OV10 HSM
      go_wp2_with (first
        | ((with_reducible show wpList _ _ _ (⟨none, .store _ (.tmp 5) _, _, _, _, _⟩ :: _) _ _); (try with_reducible rw [← HWZ.out]); refine' wpList_store_mid rfl 29 _ _ rfl w9.heap.size 0 (hcs (atT hk t1) (.slice A9 m4 c9)).toArray ?hx rfl ?ht HSQ.out HSP.out ?_; (case hx => rfl); (case ht => exact HTZ.out); rw [← HW10.out])
        | ((with_reducible show wpList _ _ _ (⟨some 57, _, _, _, _, _⟩ :: _) _ _); refine wpList_load_want (by kernel_rfl) 29 _ rfl w9.heap.size 0 rfl (hcs (atT hk t1) (.slice A9 m4 c9)) _ (Blk.range HBQ.out) Try.underlying29 rfl HSQ.out ?_)
        | ((with_reducible show wpList _ _ _ (⟨some 58, _, _, _, _, _⟩ :: _) _ _); refine wpList_load_want (by kernel_rfl) 29 _ rfl w.heap.size 0 rfl (hcs (atT hk t1) (.slice A4 m4 c4)) _ (Blk.range HGQ.out) Try.underlying29 rfl HSR.out ?_)
        | ((with_reducible show Calls _ 11 _ _ _); refine HSS.out.mono ?_; rintro e w11 ⟨rfl, k11⟩; have K11 := Lib.hid k11; clear k11))
      --@RD
      have gN := Blk.keeps HGQ.out (K11.out (fun _ => False)) (fun z => z)
      have EN : Hid (ttlOf w.heap.size w11 = t1) := Lib.hid (by unfold ttlOf; rw [(HF.of_blk W1.out gN).ttl]; rfl)
      have GN := Lib.hid gN
      have ON : Hid (w11.ownsRow w5.heap.size 5 1 (.slice (some ⟨g7, 0, none⟩) L7 c7) (make (atT hk t1)).length (by_ (make (atT hk t1)))) := Lib.hid (by
        have h0 := owns_keeps O10.out (K11.out (fun _ => False)) (fun _ _ z => z)
        have h1 : L7 = (make (atT hk t1)).length := by have := h0.1; rw [by_length] at this; omega
        rw [← h1]; exact h0)
      have KN : Hid (Keeps (· = w.heap.size) w5 w11) := Lib.hid (K10.out.trans (K11.out _))
      clear gN
      go_roundw
      case rel => exact ⟨t1, by omega, rfl, GN, ON, KN⟩
      case measure => rw [EN.out, E37.out]; omega
end
end Go.Proofs.Ytidengmcbppcoaa.pk
namespace Go.Proofs.Ytidengmcbppcoaa.packetOlder
open Go.Proofs.Ytidengmcbppcoaa.pk Go.ChangeShapes Go.WideShapes Go.ChangeAt Go.RowKit Go.Proofs.Ytidengmcbppcoaa.oc
open Go.ChangeMaps (open_string shut_string)
set_option linter.unusedVariables false

theorem own : ownKnob Try.prog.godebug = none := by kernel_rfl
theorem laidOut : laidOutB Try.prog = true := by kernel_rfl

set_option maxRecDepth 100000 in
theorem lifted (os : Os) (started : os.Started) (H : Type) (enc : TypeId × Value → H) :
    ReturnsInHanded {} Try.checked os 9 .any (Rows.packetOlderSpec.pre6 enc Try.prog Try.f9 Rows.packetOlderRow.domain false) (Rows.packetOlderSpec.post enc Try.prog Try.f9 false true false false) := by
  refine returnsInHanded_of_change_sized (C := Try.checked) own started (by kernel_rfl) Try.func9
    (ChangeSpec.witness6 (enc := enc) (C := Try.checked) false ⟨#[], #[.agg #[.bool false, .int .u8 0, .int .u8 0, .int .u8 0, .int .u8 0, .int .u8 0, .int .u8 0, .int .u8 0, .int .u8 0, .int .u8 0, .int .u8 0, .int .u8 0, .int .u8 0, .int .u8 0, .int .u8 0, .int .u8 0, .int .u8 0, .bool false, .int .u8 0, .int .u8 0, .int .u8 0, .int .u8 0, .int .u8 0, .int .u8 0, .int .u8 0, .int .u8 0, .int .u8 0, .int .u8 0, .int .u8 0, .int .u8 0, .int .u8 0, .int .u8 0, .int .u8 0, .int .u8 0, .int .u8 0, .int .u16 0, .int .u16 0, .int .u8 0, .int .u8 0, .int .u32 0, .int .u8 0, .int .u32 0, .slice none 0 0]], []⟩ 8 (by kernel_rfl) (by kernel_rfl) (by kernel_rfl) (by kernel_rfl)) ?_
  intro W base args ds gs before hval0 hW hcnd hsz0 _
  have hval : ∀ (j : Nat) t v, Try.f9.params[j]? = some t → args[j]? = some v → Value.okWide Try.prog W .any base t v := hval0
  have hsz : (DataW.weightsEach Try.prog (Try.f9.params.toList ++ Rows.packetOlderSpec.plain.varTypes Try.prog) (ds ++ gs)).all (· ≤ reachBytes) = true := hsz0
  have hW' := hW
  obtain ⟨p, q, hA0, hV, rfl, hfz, hnd⟩ := hW
  have hA : DataW.TrodAll enc Try.prog W 0 (fun _ => true) true Try.f9.params.toList args.toList ds p := hA0
  rw [Try.params9] at hA hval hsz
  obtain ⟨v0, vs0, d0, ds0, p0, q0, hargs, rfl, rfl, h0, r0⟩ := trodAll_cons hA
  obtain ⟨rfl, rfl, rfl⟩ := trodAll_nil r0
  obtain rfl : args = #[v0] := by cases args; simp_all
  obtain ⟨rfl, rfl⟩ := trodVars_none hV
  have k0 := h0
  have lt0 : ∀ x ∈ p0, x.block < W.heap.size := by obtain ⟨m, hm⟩ := k0; exact DataW.trod_lt m _ _ _ hm
  obtain ⟨x0, A0, n0, c0, w0, rfl, l0, m0, g0, z00⟩ := open_phd (hval 0 29 v0 rfl rfl) h0
  have z0 := z00 _ _ 0 hsz rfl rfl
  have y0 : n0 ≤ 140737488351232 := Nat.le_trans m0 z0
  clear hA0 hval0
  refine (walk_packetOlder W x0 w0 A0 n0 c0 l0 m0 z0 g0).mono fun e W' ⟨he, bel⟩ => ?_
  subst he
  exact ⟨_, rfl, _, _, _, [], _, [], hW', trodAll_mk1 (shut_bool Try.underlying4 _), (trodAll_cons_mk (Below.trod laidOut (by kernel_rfl) (of_decide_eq_true (by kernel_rfl)) k0 bel lt0) trodAll_mk0), rfl, bel.frame _, fun h => by cases h⟩

theorem over : Rows.packetOlderRow.holds Try.pinned (OpenSpec.ofChange Rows.packetOlderSpec) :=
  OpenClaim.holds_of_wide 9 Try.f9 rfl rfl rfl rfl rfl rfl rfl ⟨rfl, rfl, rfl, rfl, rfl⟩ rfl rfl rfl rfl rfl (by kernel_rfl) Try.func9 (by kernel_rfl)
    (of_decide_eq_true (by kernel_rfl)) (by unfold Func.isWrapper; first | (rw [if_pos (by decide +kernel)]; kernel_rfl) | (rw [if_neg (by decide +kernel)]; exact ⟨rfl, rfl⟩))
    (fun os started H enc _ => lifted os started H enc)

theorem proved : Rows.PacketOlderSaid := over
#print axioms proved
end Go.Proofs.Ytidengmcbppcoaa.packetOlder
