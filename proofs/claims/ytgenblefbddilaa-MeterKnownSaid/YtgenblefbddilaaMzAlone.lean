/-
  Alone: one call, by itself.
-/
import Derived.Test.YtgenblefbddilaaMzBase
import Derived.Test.YtgenblefbddilaaMzPlay
namespace Go.Proofs.Ytgenblefbddilaa.mz
open Go.RowKit Go.Proofs.Ytgenblefbddilaa.oc
theorem flat3_at : ∀ (l : List (Nat × Nat × Nat)) (i : Nat) (k c pc : Nat), l[i]? = some (k, c, pc) → (flat3 l)[i * 3 + 1]? = some (.int .u8 (c : Int)) ∧ (flat3 l)[i * 3 + 1 + 1]? = some (.int .i64 (pc : Int))
  | x :: l, 0, k, c, pc, h => by simp at h; subst h; exact ⟨rfl, rfl⟩
  | (a, b, d) :: l, i + 1, k, c, pc, h => by
    have := flat3_at l i k c pc (by simpa using h)
    rw [show (i + 1) * 3 + 1 = i * 3 + 1 + 1 + 1 + 1 from by omega]
    simpa [flat3] using this
  | [], i, k, c, pc, h => by simp at h
/-- what a round finds: so many marks are laid -/
def Marked (wE : World) (tr : List (Nat × Nat × Nat)) (k : Nat) (l : Value) (wr : World) : Prop :=
  ∃ mA mc, l = .slice mA k mc ∧ wr.ownsRow wE.heap.size 84 2 l k (flat2 ((tr.take k).map (·.2))) ∧ Keeps (fun _ => False) wE wr
theorem marked_round {wE wr w9 : World} {tr : List (Nat × Nat × Nat)} {k c pc mc nn q : Nat} {mA : Option Addr} {v2 : Value} {o : Obj} (hr0 : wr.ownsRow wE.heap.size 84 2 (.slice mA k mc) k (flat2 ((tr.take k).map (·.2)))) (hK : Keeps (fun _ => False) wE wr) (ht : tr[k]? = some (q, c, pc))
    (hgr : (wr.alloc o).grownBy w9 (Value.slice mA k mc).ownBlock) (hr : w9.ownsRow wE.heap.size 84 2 v2 nn (flat2 ((tr.take k).map (·.2)) ++ [.int .u8 (c : Int), .int .i64 (pc : Int)])) (hn : nn = k + 1) (hv : ∃ A c, v2 = .slice A nn c) : Marked wE tr (k + 1) v2 w9 := by
  subst hn
  obtain ⟨A, cc, rfl⟩ := hv
  refine ⟨A, cc, rfl, ?_, ?_⟩
  · rw [List.take_add_one, ht, List.map_append]
    simp only [Option.toList, List.map_cons, List.map_nil]
    rw [flat2_snoc]
    exact hr
  · have k9 : Keeps (fun b => (Value.slice mA k mc).ownBlock = some b) wr w9 := ((Keeps.refl _ wr).alloc o).trans ⟨hgr.size, fun b hb hs => hgr.block b hb (fun e => hs e.symm), ⟨hgr.os, hgr.tape, hgr.output⟩⟩
    refine ⟨Nat.le_trans hK.size k9.size, fun b hb z => ?_, (hK.same).trans (k9.same)⟩
    rw [k9.block b (Nat.lt_of_lt_of_le hb hK.size) (fun q => by have := (hr0.lt b q).1; omega), hK.block b hb z]
/-- what can be read behind Alone, in w' and wherever what it made still stands -/
def AloneReads (w0 w' : World) (pl : Pl) (told : List Nat) (tv wv lv mv : Value) (m : Nat) : Prop :=
  ∀ w'', Keeps (fun b => b < w0.heap.size) w' w'' → IsData w'' w''.heap.size tv told ∧ IsWords w'' w''.heap.size wv pl.ws ∧ IsLists w'' w''.heap.size lv m ∧ IsMarks w'' w''.heap.size mv (pl.trace.map (·.2))
/-- what Alone answers -/
def AlonePost (w0 : World) (pl : Pl) (told : List Nat) (e : Ending) (w' : World) : Prop :=
  ∃ tA tc A c A2 c2 m mA mc, e = .returned (.tuple #[.slice tA told.length tc, .agg #[.slice A pl.ws.length c, .slice A2 m c2], .slice mA pl.trace.length mc]) ∧ m < 1000000 ∧
    AloneReads w0 w' pl told (.slice tA told.length tc) (.slice A pl.ws.length c) (.slice A2 m c2) (.slice mA pl.trace.length mc) m ∧ ∀ S, Keeps S w0 w'
theorem IsCode.lift {S : Nat → Prop} {w w' : World} {B B' : Nat} {v : Value} {code : List Ins} (h : IsCode w B v code) (k : Keeps S w w') (hs : ∀ b, ¬ S b) (hB : B ≤ B') : IsCode w' B' v code := by
  obtain ⟨A, cap, e, f⟩ := h
  refine ⟨A, cap, e, fun i x hx => ?_⟩
  obtain ⟨b, o, e1, hb, g⟩ := f i x hx
  exact ⟨b, o, e1, by omega, fun j u hu => cell_keeps k (g j u hu) (hs b)⟩
theorem five_blocks (w : World) (c1 c2 c3 c4 c5 : Array Value) (t1 t2 t3 t4 t5 : TypeId) : ∃ w5, w5 = ((((w.alloc (.cells c1 t1)).alloc (.cells c2 t2)).alloc (.cells c3 t3)).alloc (.cells c4 t4)).alloc (.cells c5 t5) ∧
    Blk w5 (w.heap.size + 1 + 1) t3 c3.toList ∧ Blk w5 (w.heap.size + 1 + 1 + 1) t4 c4.toList ∧ Blk w5 (w.heap.size + 1 + 1 + 1 + 1) t5 c5.toList ∧ (∀ S, Keeps S w w5) ∧ w5.heap.size = w.heap.size + 5 := by
  have h1 : (w.alloc (.cells c1 t1)).heap.size = w.heap.size + 1 := by show (w.heap.push _).size = _; simp
  have h2 : ((w.alloc (.cells c1 t1)).alloc (.cells c2 t2)).heap.size = w.heap.size + 1 + 1 := by show (Array.push _ _).size = _; simp [h1]
  have h3 : (((w.alloc (.cells c1 t1)).alloc (.cells c2 t2)).alloc (.cells c3 t3)).heap.size = w.heap.size + 1 + 1 + 1 := by show (Array.push _ _).size = _; simp [h2]
  have h4 : ((((w.alloc (.cells c1 t1)).alloc (.cells c2 t2)).alloc (.cells c3 t3)).alloc (.cells c4 t4)).heap.size = w.heap.size + 1 + 1 + 1 + 1 := by show (Array.push _ _).size = _; simp [h3]
  have h5 : (((((w.alloc (.cells c1 t1)).alloc (.cells c2 t2)).alloc (.cells c3 t3)).alloc (.cells c4 t4)).alloc (.cells c5 t5)).heap.size = w.heap.size + 5 := by show (Array.push _ _).size = _; simp [h4]
  have b3 := Blk.new ((w.alloc (.cells c1 t1)).alloc (.cells c2 t2)) t3 c3
  have b4 := Blk.new (((w.alloc (.cells c1 t1)).alloc (.cells c2 t2)).alloc (.cells c3 t3)) t4 c4
  have b5 := Blk.new ((((w.alloc (.cells c1 t1)).alloc (.cells c2 t2)).alloc (.cells c3 t3)).alloc (.cells c4 t4)) t5 c5
  rw [h2] at b3
  rw [h3] at b4
  rw [h4] at b5
  exact ⟨_, rfl, (b3.alloc _).alloc _, b4.alloc _, b5, fun S => (((((Keeps.refl S w).alloc _).alloc _).alloc _).alloc _).alloc _, h5⟩
theorem two_blocks (w : World) (c1 c2 : Array Value) (t1 t2 : TypeId) : ∃ w2, w2 = (w.alloc (.cells c1 t1)).alloc (.cells c2 t2) ∧ Blk w2 w.heap.size t1 c1.toList ∧ Blk w2 (w.heap.size + 1) t2 c2.toList ∧ (∀ S, Keeps S w w2) := by
  have h1 : (w.alloc (.cells c1 t1)).heap.size = w.heap.size + 1 := by show (w.heap.push _).size = _; simp
  have b2 := Blk.new (w.alloc (.cells c1 t1)) t2 c2
  rw [h1] at b2
  exact ⟨_, rfl, (Blk.new w t1 c1).alloc _, b2, fun S => ((Keeps.refl S w).alloc _).alloc _⟩
/-- the one call's data, as Play takes them -/
theorem threads_one {w5 : World} {g h B : Nat} {t4 t5 : TypeId} {cv dv : Value} {code : List Ins} {data : List Nat} (b4 : Blk w5 g t4 [cv, dv]) (b5 : Blk w5 h t5 [.slice (some ⟨g, 0, none⟩) 1 1]) (hc : IsCode w5 B cv code) (hd : IsData w5 B dv data) (hB : g < B) (hB2 : h < B) : IsThreads w5 B (.slice (some ⟨h, 0, none⟩) 1 1) [[(code, data)]] := by
  refine ⟨_, _, rfl, fun i c hi => ?_⟩
  rcases Nat.eq_zero_or_pos i with rfl | q
  · simp at hi; subst hi
    refine ⟨h, 0, _, rfl, hB2, (b5.cell 0), _, _, rfl, fun j x hj => ?_⟩
    rcases Nat.eq_zero_or_pos j with rfl | q
    · simp at hj; subst hj
      exact ⟨g, 0, cv, dv, rfl, hB, b4.cell 0, b4.cell 1, hc, hd⟩
    · rw [List.getElem?_eq_none (by simp; omega)] at hj; cases hj
  · rw [List.getElem?_eq_none (by simp; omega)] at hi; cases hi
set_option maxRecDepth 100000 in
set_option maxHeartbeats 4000000 in
theorem alone_any (n f B m : Nat) (wv lv cv dv : Value) (ws : List (List Nat)) (code : List Ins) (data : List Nat) (w : World) (hw : IsWords w B wv ws) (hl : IsLists w B lv m) (hc : IsCode w B cv code) (hd : IsData w B dv data) (hB : B ≤ w.heap.size) (hn : ws.length < 1000000) (hm : m < 1000000) (hs : ∀ l ∈ ws, l.length < 1000000)
    (hx : ∀ l ∈ ws, ∀ x ∈ l, x < 18446744073709551616) (hcl : code.length < 1000000) (plR : Pl) (hp : plays n f ws [] [[(code, data)]] = some plR) (dn : Bool) (told : List Nat) (ha : plR.ths.map (·.ans) = [[(dn, told)]]) (htr : plR.trace.length < 1000000) :
    Calls Try.prog 12 #[.agg #[wv, lv], .agg #[cv, dv]] w (AlonePost w plR told) := by
  obtain ⟨i0, hi0, hz0, hz1, hz2⟩ := info_parts mark_info
  unfold plays at hp
  cases hS : Pl.starts n [[(code, data)]].length 0 ⟨[[(code, data)]].map Th.fresh, ws, []⟩ with
  | none => rw [hS] at hp; cases hp
  | some plS =>
    rw [hS] at hp
    simp only [Pl.byOrder] at hp
    have hw' := hw
    have hl' := hl
    have hc' := hc
    have hd' := hd
    obtain ⟨WA, WC, rfl, hf⟩ := hw
    obtain ⟨LA, LC, rfl, hfl⟩ := hl
    obtain ⟨CA, CC, rfl, hfc⟩ := hc
    obtain ⟨DA, DC, rfl, hfd⟩ := hd
    clear hf hfl hfc hfd
    have HW := Lib.hid hw'
    have HL := Lib.hid hl'
    have HC := Lib.hid hc'
    have HD := Lib.hid hd'
    have HB := Lib.hid hB
    have HS := Lib.hid hs
    have HX := Lib.hid hx
    have HP := Lib.hid hp
    have HPS := Lib.hid hS
    have HA := Lib.hid ha
    clear hw' hl' hc' hd' hB hs hx hp hS ha
    go_enter Try.func12, Try.ntmps12
    go_wp2_with fail
    obtain ⟨w5, hw5, b3, b4, b5, k5, z5⟩ := five_blocks w #[.slice WA ws.length WC, .slice LA m LC] #[.slice CA code.length CC, .slice DA data.length DC] #[.slice none 0 0, .slice none 0 0] #[.slice CA code.length CC, .slice DA data.length DC] #[.slice (some ⟨w.heap.size + 1 + 1 + 1, 0, none⟩) 1 1] 36 49 36 49 81
    rw [← hw5]
    have hle : B ≤ w5.heap.size := by have := HB.out; omega
    have kk5 := k5 (fun _ => False)
    have hth := threads_one b4 b5 (HC.out.lift kk5 (fun _ z => z) hle) (HD.out.lift kk5 (fun _ z => z) hle) (by omega) (by omega)
    have HCALL := Lib.hid (play_any n f w5.heap.size m _ _ _ _ ws [] [[(code, data)]] w5 (HW.out.lift kk5 (fun _ z => z) hle) (HL.out.lift kk5 (fun _ z => z) hle) hth ⟨none, 0, rfl, fun i x h => by simp at h⟩ (by simp) (Nat.le_refl _) hn hm HS.out HX.out (by simp) (fun t ht => by simp at ht; subst ht; exact ⟨by simp, fun c hc => by simp at hc; subst hc; exact hcl⟩) plS plS plR HPS.out rfl HP.out)
    have HB3 := Lib.hid b3
    have HK5 := Lib.hid k5
    have HZ5 := Lib.hid z5
    clear hw5 b3 b4 b5 k5 z5 kk5 hth hle
    refine HCALL.out.mono ?_
    rintro e wP ⟨tA, tc, oA, oc, A, c, A2, c2, mm, fW, rfl, hmm, hreads, hk⟩
    have HRE := Lib.hid hreads
    have HKP := Lib.hid hk
    clear hreads hk HCALL HW HL HC HD HB HS HX HP HPS
    go_wp2_with fail
    obtain ⟨wE, hwE, bE1, bE2, kE⟩ := two_blocks wP #[.slice tA plR.trace.length tc, .slice none 0 0] #[.slice A plR.ws.length c, .slice A2 mm c2] 77 36
    rw [← hwE]
    have hst : Marked wE plR.trace 0 (.slice none 0 0) wE := ⟨none, 0, rfl, World.ownsRow_nil _ _ _ _, Keeps.refl _ wE⟩
    have HST := Lib.hid hst
    have hreadE := HRE.out wE (kE _)
    have HTR := Lib.hid hreadE.1
    have HBE1 := Lib.hid bE1
    have HBE2 := Lib.hid bE2
    have HKE := Lib.hid kE
    clear hst hwE bE1 bE2 kE hreadE
    go_loopg [10, 11] plR.trace.length (fun q l i wr => ∃ k, q = plR.trace.length - k ∧ k ≤ plR.trace.length ∧ i = .int .i64 k ∧ Marked wE plR.trace k l wr)
    case atStart => exact ⟨0, by omega, by omega, rfl, HST.out⟩
    case round =>
      clear HST
      obtain ⟨k, rfl, hk1, rfl, mA, mc, rfl, hr0, hK⟩ := hrel
      have bw := Blk.keeps HBE1.out hK (fun z => z)
      have p0 : wr.cell? ⟨wP.heap.size, 0, none⟩ = some (.slice tA plR.trace.length tc) := by rw [bw.cell]; rfl
      by_cases hlt : k < plR.trace.length
      · obtain ⟨⟨q, cc, pc⟩, htk⟩ : ∃ x, plR.trace[k]? = some x := ⟨_, List.getElem?_eq_getElem hlt⟩
        have hf3 := flat3_at _ _ _ _ _ htk
        obtain ⟨A_, cap_, e_, hrd⟩ := HTR.out
        injection e_ with e1 e2 e3
        subst e1; subst e3
        obtain ⟨b, o, rfl, hb, hc1⟩ := hrd _ _ hf3.1
        obtain ⟨b', o', e', hb', hc2⟩ := hrd _ _ hf3.2
        injection e' with e'
        injection e' with e1 e2
        subst e1; subst e2
        rw [← Nat.add_assoc] at hc1 hc2
        have z1 : wr.cell? ⟨b, o + k * 3 + 1, none⟩ = some (.int .u8 (cc : Int)) := by rw [Nat.add_assoc]; exact cell_keeps hK (by rw [← Nat.add_assoc]; exact hc1) (fun z => z)
        have z2 : wr.cell? ⟨b, o + k * 3 + 1 + 1, none⟩ = some (.int .i64 (pc : Int)) := by rw [Nat.add_assoc, Nat.add_assoc]; exact cell_keeps hK (by rw [← Nat.add_assoc]; exact hc2) (fun z => z)
        have HRO := Lib.hid hr0
        have HNEW := Lib.hid (fun w9 nn v2 o hgr hr hn hv => marked_round (wE := wE) (wr := wr) (w9 := w9) (tr := plR.trace) (k := k) (c := cc) (pc := pc) (mc := mc) (nn := nn) (q := q) (mA := mA) (v2 := v2) (o := o) hr0 hK htk hgr hr hn hv)
        have HB9 : Hid (wE.heap.size ≤ (wr.alloc (.cells #[.int .u8 (cc : Int), .int .i64 (pc : Int)] 84)).heap.size) := Lib.hid (Nat.le_trans hK.size (Nat.le_of_lt (size_alloc wr _)))
        have n1 : k + 1 ≤ maxLen := by unfold maxLen; omega
        have n2 : (k + 1) * 16 ≤ 140737488355328 := by omega
        clear hr0 hK htk hf3 hrd hc1 hc2 hb hb' bw
        go_wp2_with ((at_builtin; refine wpList_apps rfl _ _ 44 rfl wE.heap.size 84 i0 _ 2 16 Try.underlying44 hi0 hz0 hz1 hz2 rfl (by decide) (.slice mA k mc) k (flat2 ((plR.trace.take k).map (·.2))) rfl (HRO.out.alloc _) ⟨wr.heap.size, 0, none⟩ 1 1 [.int .u8 (cc : Int), .int .i64 (pc : Int)] rfl rfl (new_two _ _ _ _) (two_one _ _) n1 n2 HB9.out ?_; intro v2 w9 hown2 hg2 hat2; obtain ⟨g2, cap2, rfl, hg20, hg21⟩ := hown2.form (Nat.succ_pos _); have HG2 := Lib.hid hg2; have HO2 := Lib.hid hown2; clear hg2 hown2 hat2))
        go_roundg (plR.trace.length - (k + 1))
        case rel => exact ⟨k + 1, rfl, hlt, by go_num, HNEW.out _ _ _ _ HG2.out HO2.out rfl ⟨_, _, rfl⟩⟩
        case measure => omega
      · obtain rfl : k = plR.trace.length := by omega
        have hz := HZ5.out
        have hPs := (HKP.out (fun _ => False)).size
        have hEs := (HKE.out (fun _ => False)).size
        have kPr : Keeps (fun b => b < w5.heap.size + 3) wP wr := (HKE.out _).trans (hK.mono fun _ _ z => z.elim)
        have hlen1 : plR.ths.length = 1 := by have := congrArg List.length HA.out; simpa using this
        obtain ⟨_, ⟨OA, OC, eo, ho⟩, _, _⟩ := HRE.out wr kPr
        injection eo with e1 e2 e3
        subst e1; subst e3
        obtain ⟨b, o, av, rfl, hb, hc1, A3, c3, rfl, hr3, hd3⟩ := ho 0 [(dn, told)] (by rw [HA.out]; rfl)
        obtain ⟨TA, TC, hTA, _⟩ := hd3 0 (dn, told) rfl
        obtain ⟨b2, o2, rfl, hb2, hc2⟩ := hr3 1 (fW 0 0) (by rfl)
        rw [hTA] at hc2
        have bw := Blk.keeps HBE2.out hK (fun z => z)
        have b5 := Blk.keeps (Blk.keeps (Blk.keeps HB3.out (HKP.out (fun _ => False)) (fun z => z)) (HKE.out (fun _ => False)) (fun z => z)) hK (fun z => z)
        have d0 : wr.cell? ⟨wP.heap.size + 1, 0, none⟩ = some (.slice A plR.ws.length c) := by rw [bw.cell]; rfl
        have d1 : wr.cell? ⟨wP.heap.size + 1, 1, none⟩ = some (.slice A2 mm c2) := by rw [bw.cell]; rfl
        have r0 : wr.cell? ⟨w.heap.size + 1 + 1, 0, none⟩ = some (.slice none 0 0) := by rw [b5.cell]; rfl
        have r1 : wr.cell? ⟨w.heap.size + 1 + 1, 1, none⟩ = some (.slice none 0 0) := by rw [b5.cell]; rfl
        have f0 := b5.frozen 0
        have f1 := b5.frozen 1
        have c1' : wr.cell? ⟨b, o, none⟩ = some (.slice (some ⟨b2, o2, none⟩) 1 c3) := hc1
        have hlt0 : (0 : Int) < ((plR.ths.length : Nat) : Int) := by omega
        have n1 : w.heap.size + 1 + 1 ≠ wP.heap.size + 1 := by omega
        have HEND := Lib.hid (show ∀ w', Keeps (· = w.heap.size + 1 + 1) wr w' → AlonePost w plR told (.returned (.tuple #[.slice TA told.length TC, .agg #[.slice A plR.ws.length c, .slice A2 mm c2], .slice mA plR.trace.length mc])) w' from fun w' kR => by
          refine ⟨TA, TC, A, c, A2, c2, mm, mA, mc, rfl, hmm, fun w'' kk => ?_, fun S => ?_⟩
          · have k2 : Keeps (fun b => b = w.heap.size + 1 + 1 ∨ b < w.heap.size) wr w'' := (kR.mono fun _ _ z => .inl z).trans (kk.mono fun _ _ z => .inr z)
            obtain ⟨_, ⟨OA', OC', eo', ho'⟩, hw9, hl9⟩ := HRE.out w'' (kPr.trans (k2.mono fun b _ z => by omega))
            obtain ⟨_, _, _, _, _, _, _, _, _, _, hd9⟩ := ho' 0 [(dn, told)] (by rw [HA.out]; rfl)
            have hd := hd9 0 (dn, told) rfl
            rw [hTA] at hd
            refine ⟨hd, hw9, hl9, ?_⟩
            rw [List.take_length] at hr0
            obtain ⟨Am, cm, em, hrm⟩ := rd_of_row (owns_keeps hr0 k2 (fun b hb z => by have := (hr0.lt b hb).1; omega))
            injection em with e1 e2 e3
            subst e1; subst e3
            exact ⟨mA, mc, by simp, hrm⟩
          · refine ⟨Nat.le_trans (HK5.out S).size (Nat.le_trans hPs (Nat.le_trans hEs (Nat.le_trans hK.size kR.size))), fun b hb z => ?_, ((HK5.out S).same).trans ((HKP.out (fun _ => False)).same.trans ((HKE.out (fun _ => False)).same.trans ((hK.same).trans (kR.same))))⟩
            rw [kR.block b (by have := hK.size; omega) (by omega), hK.block b (by omega) (fun q => q), (HKE.out (fun _ => False)).block b (by omega) (fun q => q), (HKP.out (fun _ => False)).block b (by omega) (fun q => q), (HK5.out S).block b hb z])
        clear hr0 hK kPr ho hr3 hd3 bw b5 hc1 hTA hz hPs hEs
        go_wp2_with fail
        go_region
        go_wp2_with fail
        refine bodyPost_ret (v := .tuple #[.slice TA told.length TC, .agg #[.slice A plR.ws.length c, .slice A2 mm c2], .slice mA plR.trace.length mc]) (by simp [results, Try.results12, go_sem, r0, r1]) rfl (HEND.out _ ?_)
        repeat (first | (with_reducible exact Keeps.refl _ _) | (with_reducible refine Keeps.drew ?_) | (with_reducible refine Keeps.setCell ?_ (.inl ?_) _; rotate_left; (exact rfl)))
end Go.Proofs.Ytgenblefbddilaa.mz
