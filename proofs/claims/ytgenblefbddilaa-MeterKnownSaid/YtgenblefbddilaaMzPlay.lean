/-
  Play.
-/
import Derived.Test.YtgenblefbddilaaMzSU
import Derived.Deep.LoopGhost
import Derived.Deep.Cut
namespace Go.Proofs.Ytgenblefbddilaa.mz
open Go.RowKit Go.Proofs.Ytgenblefbddilaa.oc
/-- the threads that came in: a slice of slices of calls -/
def IsThreads (w : World) (B : Nat) (v : Value) (ts : List (List (List Ins × List Nat))) : Prop :=
  ∃ A cap, v = .slice A ts.length cap ∧ ∀ i c, ts[i]? = some c → ∃ b o cv, A = some ⟨b, o, none⟩ ∧ b < B ∧ w.cell? ⟨b, o + i, none⟩ = some cv ∧ IsCalls w B cv c
theorem IsThreads.keeps {S : Nat → Prop} {w w' : World} {B : Nat} {v : Value} {ts : List (List (List Ins × List Nat))} (h : IsThreads w B v ts) (k : Keeps S w w') (hs : ∀ b, b < B → ¬ S b) : IsThreads w' B v ts := by
  obtain ⟨A, cap, e, f⟩ := h
  refine ⟨A, cap, e, fun i c hc => ?_⟩
  obtain ⟨b, o, cv, e1, hb, h1, h2⟩ := f i c hc
  exact ⟨b, o, cv, e1, hb, cell_keeps k h1 (hs b hb), h2.keeps k hs⟩
theorem turned_info : (Try.prog.info? 86).map (fun i => (i.zero, i.size, i.bytes)) = some (some (.agg #[.int .i64 0, .int .u8 0, .int .i64 0]), 3, 24) := by kernel_rfl
theorem anss_info : (Try.prog.info? 89).map (fun i => (i.zero, i.size, i.bytes)) = some (some (.slice none 0 0), 1, 24) := by kernel_rfl
theorem ptr_info : (Try.prog.info? 103).map (fun i => (i.zero, i.size, i.bytes)) = some (some (.pointer none), 1, 8) := by kernel_rfl
set_option maxRecDepth 100000 in
set_option maxHeartbeats 4000000 in
theorem play_any (n f B m : Nat) (wv lv ov tv : Value) (ws : List (List Nat)) (order : List Int) (threads : List (List (List Ins × List Nat))) (w : World) (hw : IsWords w B wv ws) (hl : IsLists w B lv m) (ht : IsThreads w B tv threads) (hov : IsOrder w B ov order) (hol : order.length < 1000000) (hB : B ≤ w.heap.size) (hn : ws.length < 1000000) (hm : m < 1000000) (hs : ∀ l ∈ ws, l.length < 1000000)
    (hx : ∀ l ∈ ws, ∀ x ∈ l, x < 18446744073709551616) (htl : threads.length < 1000000) (htc : ∀ t ∈ threads, t.length < 1000000 ∧ ∀ c ∈ t, c.1.length < 1000000) (plS plO plR : Pl) (hS : Pl.starts n threads.length 0 ⟨threads.map Th.fresh, ws, []⟩ = some plS) (hO : Pl.byOrder n order plS = some plO) (hRd : Pl.rounds n f plO = some plR) :
    Calls Try.prog 24 #[.agg #[wv, lv], ov, tv] w (PlayPost w plR) := by
  obtain ⟨i0, hi0, hz0, hz1, hz2⟩ := info_parts ptr_info
  obtain ⟨j0, hj0, hy0, hy1, hy2⟩ := info_parts turned_info
  obtain ⟨a0, ha0, hb0, hb1, hb2⟩ := info_parts anss_info
  have hw' := hw
  have hl' := hl
  have ht' := ht
  obtain ⟨WA, WC, rfl, hf⟩ := hw
  obtain ⟨LA, LC, rfl, hfl⟩ := hl
  obtain ⟨TA, TC, rfl, hft⟩ := ht
  clear hf hfl hft
  have HW := Lib.hid hw'
  have HL := Lib.hid hl'
  have HT := Lib.hid ht'
  have HB := Lib.hid hB
  have HS := Lib.hid hs
  have HX := Lib.hid hx
  have HTC := Lib.hid htc
  have hov' := hov
  obtain ⟨OA, OC, rfl, hfo⟩ := hov
  clear hfo
  have HOV := Lib.hid hov'
  clear hov'
  have HPS := Lib.hid hS
  have HPO := Lib.hid hO
  have HPR := Lib.hid hRd
  clear hS hO hRd
  clear hw' hl' ht' hB hs hx htc
  go_enter Try.func24, Try.ntmps24
  go_wp2_with fail
  obtain ⟨wa, hwa, ba1, ba2, ba3, ka, za⟩ := three_types w #[.slice WA ws.length WC, .slice LA m LC] #[.slice none 0 0, .slice none 0 0] #[.slice none 0 0, .slice none 0 0] 36 77 36
  rw [← hwa]
  have hba : B ≤ wa.heap.size := by have := HB.out; omega
  have HKA := Lib.hid ka
  have HZA := Lib.hid za
  have HB6 := Lib.hid ba2
  have HB8 := Lib.hid ba3
  have HBA := Lib.hid hba
  have x20 : wa.cell? ⟨w.heap.size, 0, none⟩ = some (.slice WA ws.length WC) := by rw [ba1.cell]; rfl
  have x21 : wa.cell? ⟨w.heap.size, 1, none⟩ = some (.slice LA m LC) := by rw [ba1.cell]; rfl
  clear hwa ba2 ba3 ka za hba ba1 x20 x21
  refine (copy_any B m _ _ ws wa (HW.out.keeps (HKA.out (fun _ => False)) (fun _ _ z => z)) (HL.out.keeps (HKA.out (fun _ => False)) (fun _ _ z => z)) HBA.out hn hm HS.out).mono ?_
  rintro e wb ⟨A', c', A2, c2, vs, rfl, hO, hIL, hKb⟩
  have HO := Lib.hid hO
  have HIL := Lib.hid hIL
  have HKB := Lib.hid hKb
  clear hO hIL hKb
  go_wp2_with fail
  obtain ⟨wc, hwc, kc, pc, zc⟩ := begin_all HO.out HIL.out hm HKB.out HX.out
  rw [← hwc]
  have hstart : Built wc wa.heap.size wb.heap.size (WFoot wb.heap.size (.slice A' ws.length c') (.slice A2 m c2) vs) ws threads 0 (.slice none 0 0) wc := ⟨[], none, 0, rfl, pc, World.ownsRow_nil _ _ _ _, (fun b hb => by cases hb), Keeps.refl _ wc⟩
  have HST := Lib.hid hstart
  have HKC := Lib.hid kc
  have HZC := Lib.hid zc
  have HTH := Lib.hid (HT.out.keeps (HKA.out (fun _ => False)) (fun _ _ z => z) |>.keeps (kc (fun _ => False)) (fun _ _ z => z))
  have HOC := Lib.hid (HOV.out.keeps (HKA.out (fun _ => False)) (fun _ _ z => z) |>.keeps (kc (fun _ => False)) (fun _ _ z => z))
  have HOA := Lib.hid (HOV.out.keeps (HKA.out (fun _ => False)) (fun _ _ z => z))
  clear hwc kc pc zc hstart HO HIL HKB HW HL HT HX HS HOV HOC
  go_loopg [10, 11] threads.length (fun q l i wr => ∃ k, q = threads.length - k ∧ k ≤ threads.length ∧ i = .int .i64 k ∧ Built wc wa.heap.size wb.heap.size (WFoot wb.heap.size (.slice A' ws.length c') (.slice A2 m c2) vs) ws threads k l wr)
  case atStart => exact ⟨0, by omega, by omega, rfl, HST.out⟩
  case round =>
    obtain ⟨k, rfl, hk, rfl, gs, lA, lc, rfl, hP, hR, hN, hK⟩ := hrel
    clear HST
    by_cases hlt : k < threads.length
    · have hci := List.getElem?_eq_getElem hlt
      obtain ⟨c, hcv⟩ : ∃ c, c = threads[k] := ⟨_, rfl⟩
      rw [← hcv] at hci
      obtain ⟨b, o, A3, c3, rfl, hbB, hce, hcalls⟩ := (by
        obtain ⟨A0, cap0, e0, f⟩ := HTH.out
        injection e0 with e1 e2 e3
        subst e1
        obtain ⟨b, o, cv, q1, q2, q3, q4⟩ := f k _ hci
        obtain ⟨A3, c3, e4, q5⟩ := q4
        subst e4
        exact ⟨b, o, A3, c3, q1, q2, q3, ⟨A3, c3, rfl, q5⟩⟩ : ∃ b o A3 c3, TA = some ⟨b, o, none⟩ ∧ b < B ∧ wc.cell? ⟨b, o + k, none⟩ = some (.slice A3 c.length c3) ∧ IsCalls wc B (.slice A3 c.length c3) c)
      have hce' : wr.cell? ⟨b, o + k, none⟩ = some (.slice A3 c.length c3) := cell_keeps hK hce (fun z => z)
      have htc := HTC.out c (List.mem_of_getElem? hci)
      have HNEW := Lib.hid (fun cs w9 n v2 o hcs hg hr hn hat hv => built_round (cs := cs) (w9 := w9) (n := n) (v2 := v2) (o := o) hP hR hN hK (HKC.out (fun _ => False)).size hci hcs ((hcalls.keeps hK (fun _ _ z => z)).more HBA.out) htc.1 htc.2 hg hr hn hat hv)
      have HRR := Lib.hid hR
      have n1 : k + 1 ≤ 140737488355328 := by omega
      have HKK := Lib.hid hK
      have HBW : Hid (∀ o1 o2, wc.heap.size ≤ ((wr.alloc o1).alloc o2).heap.size) := Lib.hid (fun o1 o2 => by have := hK.size; show _ ≤ (Array.push (wr.heap.push o1) o2).size; simp; omega)
      clear hP hR hN hK hce hcalls htc hcv hci
      go_wp2_with ((at_builtin; refine wpList_app rfl _ _ 102 rfl wc.heap.size 103 i0 _ 8 Try.underlying102 hi0 hz0 hz1 hz2 rfl (.slice lA k lc) k (ptrs gs) rfl ((HRR.out.alloc _).alloc _) (wr.heap.size + 1 + 1) (some ⟨wr.heap.size + 1, 0, none⟩) 1 1 [.pointer (some ⟨wr.heap.size, 0, none⟩)] rfl (ptr_lit _ _ _) rfl (one_ptr _) n1 (by omega) (HBW.out _ _) ?_; intro v2 w9 hown2 hg2 hat2; obtain ⟨g2, cap2, rfl, hg20, hg21⟩ := hown2.form (Nat.succ_pos _); have HG2 := Lib.hid hg2; have HO2 := Lib.hid hown2; have HA2 := Lib.hid hat2; clear hg2 hown2 hat2))
      go_roundg (threads.length - (k + 1))
      case rel => exact ⟨k + 1, rfl, hlt, by go_num, HNEW.out _ _ _ _ _ (by rfl) HG2.out HO2.out rfl HA2.out ⟨_, _, rfl⟩⟩
      case measure => omega
    · obtain rfl : k = threads.length := by omega
      obtain ⟨wo, rfl⟩ : ∃ wo : World, wo = wr := ⟨_, rfl⟩
      rw [List.take_length] at hP
      have hst : Started wa wc wa.heap.size wb.heap.size (WFoot wb.heap.size (.slice A' ws.length c') (.slice A2 m c2) vs) gs lA lc threads.length n plS 0 wo := ⟨_, _, by rw [Nat.sub_zero]; exact HPS.out, by simp, hP, hR, hN, (HKC.out _).trans hK⟩
      have HST := Lib.hid hst
      have HGL : Hid (gs.length = threads.length) := Lib.hid (by have := hP.lg; simpa using this)
      clear hP hR hN hK hst HTH HTC
      go_wp2_with fail
      go_loopg [12] threads.length (fun q i wr => ∃ k, q = threads.length - k ∧ k ≤ threads.length ∧ i = .int .i64 k ∧ Started wa wc wa.heap.size wb.heap.size (WFoot wb.heap.size (.slice A' ws.length c') (.slice A2 m c2) vs) gs lA lc threads.length n plS k wr)
      case atStart => exact ⟨0, by omega, by omega, rfl, HST.out⟩
      case round =>
        clear HST
        obtain ⟨k, rfl, hk2, rfl, hst⟩ := hrel
        by_cases hlt2 : k < threads.length
        · obtain ⟨Fs, pl, h1, h2, h3, h4, h5, h6⟩ := hst
          rw [show threads.length - k = (threads.length - (k + 1)) + 1 from by omega] at h1
          unfold Pl.starts at h1
          have htk := List.getElem?_eq_getElem (show k < pl.ths.length by omega)
          rw [htk] at h1
          simp only at h1
          cases hon : (pl.ths[k]'(by omega)).on n with
          | none => rw [hon] at h1; cases h1
          | some t' =>
            rw [hon] at h1
            simp only at h1
            have hgk := List.getElem?_eq_getElem (show k < gs.length by have := HGL.out; omega)
            obtain ⟨g, hgv⟩ : ∃ g, g = gs[k]'(by have := HGL.out; omega) := ⟨_, rfl⟩
            rw [← hgv] at hgk
            obtain ⟨lb, rfl, hcl, hlb⟩ := ptr_at h4 hlt2 hgk
            have HCALL := Lib.hid (start_all h3 (by have := h6.size; exact this) htk hgk hon)
            have HSTEP := Lib.hid (fun e w' => started_step (e := e) (w' := w') h1 h2 h4 h5 h6 rfl h3)
            clear h1 h2 h3 h4 h5 h6 htk hon hgk hgv
            go_wp2_with fail
            refine (HCALL.out _).mono ?_
            rintro e w7 hpost
            obtain ⟨rfl, hst'⟩ := HSTEP.out _ _ hpost
            have HN' := Lib.hid hst'
            clear hst' hpost
            go_wp2_with fail
            go_roundg (threads.length - (k + 1))
            case rel => exact ⟨k + 1, rfl, hlt2, by go_num, HN'.out⟩
            case measure => omega
        · obtain rfl : k = threads.length := by omega
          obtain ⟨wq, rfl⟩ : ∃ wq : World, wq = wr := ⟨_, rfl⟩
          obtain ⟨wd, hwd, hpl⟩ := playing_begin hst (by rw [starts_trace _ _ _ _ HPS.out])
          have HPL := Lib.hid hpl
          have HP0 : Hid (wq.heap.size < wd.heap.size) := Lib.hid (by rw [hwd]; show _ < (wq.heap.push _).size; simp)
          clear hst hpl HPS
          go_wp2_with fail
          rw [← hwd]
          clear hwd
          go_loopg [14, 15] order.length (fun q i u wr => ∃ k pl, q = order.length - k ∧ k ≤ order.length ∧ i = .int .i64 k ∧ Pl.byOrder n (order.drop k) pl = some plO ∧ Playing wa wc wa.heap.size wb.heap.size wq.heap.size (WFoot wb.heap.size (.slice A' ws.length c') (.slice A2 m c2) vs) gs lA lc threads.length wr pl)
          case atStart => exact ⟨0, plS, by omega, by omega, rfl, by rw [List.drop_zero]; exact HPO.out, HPL.out⟩
          case round =>
            clear HPL HPO
            obtain ⟨k, pl, rfl, hk3, rfl, hbo, hpl⟩ := hrel
            by_cases hlt3 : k < order.length
            · obtain ⟨Fs, tA, tc, hP, hN, hR, hBk, hT, hK⟩ := hpl
              have hoi := List.getElem?_eq_getElem hlt3
              obtain ⟨x, hxv⟩ : ∃ x, x = order[k] := ⟨_, rfl⟩
              rw [← hxv] at hoi
              obtain ⟨b, o, rfl, hbB, hce⟩ := (by
                obtain ⟨A0, cap0, e0, f⟩ := HOA.out
                injection e0 with e1 e2 e3
                subst e1
                exact f k _ hoi : ∃ b o, OA = some ⟨b, o, none⟩ ∧ b < B ∧ wa.cell? ⟨b, o + k, none⟩ = some (.int .i64 x))
              have hce' : wr.cell? ⟨b, o + k, none⟩ = some (.int .i64 x) := cell_keeps hK hce (fun z => z)
              have hdr : order.drop k = x :: order.drop (k + 1) := by rw [List.drop_eq_getElem_cons hlt3, hxv]
              rw [hdr] at hbo
              unfold Pl.byOrder at hbo
              split at hbo
              · cases hbo
              · rename_i htl16
                have htl16' : (pl.trace.length : Int) < 16384 := by omega
                have p0 : wr.cell? ⟨wq.heap.size, 0, none⟩ = some (.slice tA pl.trace.length tc) := by rw [hBk.1.cell]; rfl
                split at hbo
                · rename_i hskip
                  by_cases hneg : x < 0
                  · have HPL2 : Hid (Playing wa wc wa.heap.size wb.heap.size wq.heap.size (WFoot wb.heap.size (.slice A' ws.length c') (.slice A2 m c2) vs) gs lA lc threads.length wr pl) := Lib.hid ⟨Fs, tA, tc, hP, hN, hR, hBk, hT, hK⟩
                    have HBO := Lib.hid hbo
                    clear hP hN hR hBk hT hK hbo hskip hce hdr hxv hoi htl16
                    go_wp2_with fail
                    go_roundg (order.length - (k + 1))
                    case rel => exact ⟨k + 1, pl, rfl, hlt3, by go_num, HBO.out, HPL2.out⟩
                    case measure => omega
                  · by_cases hge : (threads.length : Int) ≤ x
                    · have HPL2 : Hid (Playing wa wc wa.heap.size wb.heap.size wq.heap.size (WFoot wb.heap.size (.slice A' ws.length c') (.slice A2 m c2) vs) gs lA lc threads.length wr pl) := Lib.hid ⟨Fs, tA, tc, hP, hN, hR, hBk, hT, hK⟩
                      have HBO := Lib.hid hbo
                      have hx0 : (0 : Int) ≤ x := by omega
                      clear hP hN hR hBk hT hK hbo hskip hce hdr hxv hoi htl16 hneg
                      go_wp2_with fail
                      go_roundg (order.length - (k + 1))
                      case rel => exact ⟨k + 1, pl, rfl, hlt3, by go_num, HBO.out, HPL2.out⟩
                      case measure => omega
                    · obtain ⟨j, rfl⟩ : ∃ j : Nat, x = (j : Int) := ⟨x.toNat, by omega⟩
                      have hjN : j < threads.length := by omega
                      have hjt := List.getElem?_eq_getElem (show j < pl.ths.length by omega)
                      have hjo : (pl.ths[j]'(by omega)).over = true := by
                        rcases hskip with q | q | q
                        · omega
                        · rw [hN] at q; omega
                        · unfold Pl.over at q; rw [Int.toNat_natCast, hjt] at q; exact q
                      obtain ⟨g, F, hg1, hF1, hTI⟩ := hP.get hjt
                      obtain ⟨lb, rfl, hcl, hlb⟩ := ptr_at hR.1 hjN hg1
                      have hov1 := over_at hTI
                      rw [hjo] at hov1
                      have HPL2 : Hid (Playing wa wc wa.heap.size wb.heap.size wq.heap.size (WFoot wb.heap.size (.slice A' ws.length c') (.slice A2 m c2) vs) gs (some ⟨lb, 0, none⟩) lc threads.length wr pl) := Lib.hid ⟨Fs, tA, tc, hP, hN, hR, hBk, hT, hK⟩
                      have HBO := Lib.hid hbo
                      have hx0 : (0 : Int) ≤ (j : Int) := by omega
                      have hx1 : (j : Int) < (threads.length : Int) := by omega
                      clear hP hN hR hBk hT hK hbo hskip hce hdr hxv hoi htl16 hneg hge hjt hg1 hF1 hTI hjo
                      go_wp2_with fail
                      go_roundg (order.length - (k + 1))
                      case rel => exact ⟨k + 1, pl, rfl, hlt3, by go_num, HBO.out, HPL2.out⟩
                      case measure => omega
                · rename_i hskip
                  have h3 : ¬ x < 0 ∧ ¬ (pl.ths.length : Int) ≤ x ∧ ¬ pl.over x.toNat = true := ⟨fun z => hskip (.inl z), fun z => hskip (.inr (.inl z)), fun z => hskip (.inr (.inr z))⟩
                  obtain ⟨j, rfl⟩ : ∃ j : Nat, x = (j : Int) := ⟨x.toNat, by omega⟩
                  rw [Int.toNat_natCast] at h3 hbo
                  cases hturn : pl.turn n j with
                  | none => rw [hturn] at hbo; cases hbo
                  | some pl' =>
                    rw [hturn] at hbo
                    simp only at hbo
                    obtain ⟨t, t', ws', cc, pc, hjt, hcall, hop, rfl⟩ := turn_of hturn
                    have hjN : j < threads.length := by rw [← hN]; omega
                    have hjo : t.over = false := by
                      have := h3.2.2
                      unfold Pl.over at this
                      rw [hjt] at this
                      simpa using this
                    obtain ⟨g, F, hg1, hF1, hTI⟩ := hP.get hjt
                    obtain ⟨lb, rfl, hcl, hlb⟩ := ptr_at hR.1 hjN hg1
                    have hov1 := over_at hTI
                    rw [hjo] at hov1
                    have hx0 : (0 : Int) ≤ (j : Int) := by omega
                    have hx1 : (j : Int) < (threads.length : Int) := by omega
                    have kdr : Keeps (fun _ => False) wr wr.drew := (Keeps.refl _ wr).drew
                    have HCALL := Lib.hid (turn_all (hP.keeps kdr (fun _ _ z => z) (fun _ _ z => z)) hK.size hjt hg1 hcall hop (pl.trace ++ [(j, cc, pc)]))
                    have HFACT := Lib.hid (show ∀ w8, Keeps (Any Fs (WFoot wb.heap.size (.slice A' ws.length c') (.slice A2 m c2) vs)) wr w8 → (w8.cell? ⟨wq.heap.size, 0, none⟩ = some (.slice tA pl.trace.length tc) ∧ w8.cell? ⟨lb, j, none⟩ = some (.pointer (some ⟨g, 0, none⟩))) ∧ wq.heap.size < w8.heap.size ∧ lb < w8.heap.size ∧ w8.ownsRow (wq.heap.size + 1) 86 3 (.slice tA pl.trace.length tc) pl.trace.length (flat3 pl.trace) ∧ wq.heap.size + 1 ≤ w8.heap.size from fun w8 k8 => by
                      have hq := hBk.1.lt
                      have hs8 := k8.size
                      refine ⟨⟨cell_keeps k8 p0 (fun z => hBk.2.1 z), cell_keeps k8 hcl (fun z => (hR.2 lb rfl).1 z)⟩, by omega, by omega, owns_keeps hT.1 k8 (fun b hb => hT.2 b hb), by omega⟩)
                    have HFR := Lib.hid (show ∀ w8 ob w9, Keeps (Any Fs (WFoot wb.heap.size (.slice A' ws.length c') (.slice A2 m c2) vs)) wr w8 → (w8.alloc ob).grownBy w9 (Value.slice tA pl.trace.length tc).ownBlock → w9.cell? ⟨wq.heap.size, 0, none⟩ = some (.slice tA pl.trace.length tc) ∧ w9.frozen? ⟨wq.heap.size, 0, none⟩ = false from fun w8 ob w9 k8 hg => by
                      have b8 := (Blk.keeps hBk.1 k8 hBk.2.1).alloc ob
                      have b9 := Blk.grown b8 hg (fun e => by have := (hT.1.lt _ e.symm).1; omega)
                      exact ⟨by rw [b9.cell]; rfl, b9.frozen 0⟩)
                    have HNEW := Lib.hid (fun w8 w9 nn Fs' v2 o p8 k8 a8 hg hr hn hat hv => playing_turn (wa := wa) (wc := wc) (wr := wr) (w8 := w8) (w9 := w9) (B := wa.heap.size) (p := wb.heap.size) (P := wq.heap.size) (k := j) (c := cc) (pc := pc) (nn := nn) (FW := WFoot wb.heap.size (.slice A' ws.length c') (.slice A2 m c2) vs) (Fs' := Fs') (ths' := pl.ths.set j t') (ws' := ws') (v2 := v2) (o := o) hP hN hR hBk hT hK rfl (by simp) p8 k8 a8 hg hr hn hat hv)
                    have HBO := Lib.hid hbo
                    have n1 : pl.trace.length + 1 ≤ maxLen := by unfold maxLen; omega
                    have n2 : (pl.trace.length + 1) * 24 ≤ 140737488355328 := by omega
                    have hqs : wq.heap.size < wr.heap.size := hBk.1.lt
                    clear hP hN hR hBk hT hK hbo hskip hce hdr hxv hoi htl16 h3 hjt hg1 hF1 hTI hjo hturn hcall hop kdr
                    go_wp2_with fail
                    go_region_law (first
                      | (refine step_apps rfl _ _ 74 rfl (wq.heap.size + 1) 86 j0 _ 3 24 Try.underlying74 hj0 hy0 hy1 hy2 rfl (by decide) (.slice tA pl.trace.length tc) pl.trace.length (flat3 pl.trace) rfl (y4.alloc _) ⟨w8.heap.size, 0, none⟩ 1 1 [.int .i64 (j : Int), .int .u8 (cc : Int), .int .i64 (pc : Int)] rfl rfl (new_three _ _ _ _ _) (three_one _ _ _) n1 n2 y5 ?_; intro v2 w9 hown2 hg2 hat2; obtain ⟨g2, cap2, rfl, hg20, hg21⟩ := hown2.form (Nat.succ_pos _); obtain ⟨x1, x2⟩ := HFR.out _ _ _ k8 hg2)
                      | (go_simp; go_at_call 37; refine HCALL.out.mono ?_; rintro e w8 ⟨rfl, Fs', p8, k8', a8⟩; have k8 : Keeps (Any Fs (WFoot wb.heap.size (.slice A' ws.length c') (.slice A2 m c2) vs)) wr w8 := ⟨k8'.size, k8'.block, ⟨k8'.same.os, k8'.same.tape, k8'.same.output⟩⟩; obtain ⟨⟨y1, y2⟩, y6, y7, y4, y5'⟩ := HFACT.out _ k8; have y5 := Nat.le_trans y5' (Nat.le_of_lt (size_alloc w8 (.cells #[.int .i64 (j : Int), .int .u8 (cc : Int), .int .i64 (pc : Int)] 86)))))
                    all_goals
                      go_wp2_with fail
                      go_roundg (order.length - (k + 1))
                      case rel => exact ⟨k + 1, _, rfl, hlt3, by go_num, HBO.out, HNEW.out _ _ _ _ _ _ p8 k8 (fun b hb => (a8 b hb).imp id (fun q => ⟨q, (p8.below hb).2⟩)) hg2 hown2 rfl hat2 ⟨_, _, rfl⟩⟩
                      case measure => omega
            · obtain rfl : k = order.length := by omega
              rw [List.drop_length] at hbo
              obtain rfl : pl = plO := by simpa [Pl.byOrder] using hbo
              obtain ⟨wo, rfl⟩ : ∃ wo : World, wo = wr := ⟨_, rfl⟩
              have HPL := Lib.hid hpl
              clear hpl hbo HOA
              go_wp2_with fail
              go_loopg [16] (f + 1) (fun q l wr => ∃ pl, RndRel n plR q l pl ∧ Playing wa wc wa.heap.size wb.heap.size wq.heap.size (WFoot wb.heap.size (.slice A' ws.length c') (.slice A2 m c2) vs) gs lA lc threads.length wr pl)
              case atStart => exact ⟨pl, .inl ⟨rfl, f, rfl, HPR.out⟩, HPL.out⟩
              case round =>
                clear HPL HPR
                obtain ⟨pl1, hrel, hpl⟩ := hrel
                rcases hrel with ⟨rfl, r, rfl, hr⟩ | ⟨rfl, rfl, hov⟩
                · obtain ⟨wo2, rfl⟩ : ∃ wo2 : World, wo2 = wr := ⟨_, rfl⟩
                  rcases r with _ | r
                  · cases hr
                  unfold Pl.rounds at hr
                  have hlen : pl1.ths.length = threads.length := by obtain ⟨Fs, tA, tc, hP, hN, _⟩ := hpl; exact hN
                  rw [hlen] at hr
                  obtain ⟨bF, pF, hrd, hfin⟩ : ∃ bF pF, Pl.round n threads.length 0 false pl1 = some (bF, pF) ∧ ((bF = true ∧ Pl.rounds n r pF = some plR) ∨ (bF = false ∧ pF = plR)) := by
                    cases hq : Pl.round n threads.length 0 false pl1 with
                    | none => rw [hq] at hr; cases hr
                    | some z =>
                      obtain ⟨bF, pF⟩ := z
                      rw [hq] at hr
                      cases bF with
                      | true => exact ⟨true, pF, rfl, .inl ⟨rfl, hr⟩⟩
                      | false => exact ⟨false, pF, rfl, .inr ⟨rfl, by simpa using hr⟩⟩
                  have HPL := Lib.hid hpl
                  have HRD := Lib.hid hrd
                  have HFIN := Lib.hid hfin
                  have HLEN := Lib.hid hlen
                  clear hpl hr hrd hfin hlen
                  go_wp2_with fail
                  go_loopg [16, 17] threads.length (fun q l i wr => ∃ k b pl2, q = threads.length - k ∧ k ≤ threads.length ∧ i = .int .i64 k ∧ l = .bool b ∧ Pl.round n (threads.length - k) k b pl2 = some (bF, pF) ∧ Playing wa wc wa.heap.size wb.heap.size wq.heap.size (WFoot wb.heap.size (.slice A' ws.length c') (.slice A2 m c2) vs) gs lA lc threads.length wr pl2)
                  case atStart => exact ⟨0, false, pl1, by omega, by omega, rfl, rfl, by rw [Nat.sub_zero]; exact HRD.out, HPL.out⟩
                  case round =>
                    clear HPL
                    obtain ⟨k, bq, pl, rfl, hk4, rfl, rfl, hrr, hpl⟩ := hrel
                    by_cases hlt4 : k < threads.length
                    · obtain ⟨Fs, tA, tc, hP, hN, hR, hBk, hT, hK⟩ := hpl
                      rw [show threads.length - k = (threads.length - (k + 1)) + 1 from by omega] at hrr
                      unfold Pl.round at hrr
                      split at hrr
                      · cases hrr
                      · rename_i htl16
                        have htl16' : (pl.trace.length : Int) < 16384 := by omega
                        have p0 : wr.cell? ⟨wq.heap.size, 0, none⟩ = some (.slice tA pl.trace.length tc) := by rw [hBk.1.cell]; rfl
                        obtain ⟨t0, hjt⟩ : ∃ t0, pl.ths[k]? = some t0 := ⟨_, List.getElem?_eq_getElem (show k < pl.ths.length by omega)⟩
                        obtain ⟨g, F, hg1, hF1, hTI⟩ := hP.get hjt
                        obtain ⟨lb, rfl, hcl, hlb⟩ := ptr_at hR.1 hlt4 hg1
                        have hov1 := over_at hTI
                        split at hrr
                        · rename_i hskip
                          have hjo : t0.over = true := by unfold Pl.over at hskip; rw [hjt] at hskip; exact hskip
                          rw [hjo] at hov1
                          have HPL2 : Hid (Playing wa wc wa.heap.size wb.heap.size wq.heap.size (WFoot wb.heap.size (.slice A' ws.length c') (.slice A2 m c2) vs) gs (some ⟨lb, 0, none⟩) lc threads.length wr pl) := Lib.hid ⟨Fs, tA, tc, hP, hN, hR, hBk, hT, hK⟩
                          have HRR := Lib.hid hrr
                          clear hP hN hR hBk hT hK hrr hskip htl16 hjt hg1 hF1 hTI hjo
                          go_wp2_with fail
                          go_roundg (threads.length - (k + 1))
                          case rel => exact ⟨k + 1, bq, pl, rfl, hlt4, by go_num, rfl, HRR.out, HPL2.out⟩
                          case measure => omega
                        · rename_i hskip
                          cases hturn : pl.turn n k with
                          | none => rw [hturn] at hrr; cases hrr
                          | some pl' =>
                            rw [hturn] at hrr
                            simp only at hrr
                            obtain ⟨t, t', ws', cc, pc, hjt', hcall, hop, rfl⟩ := turn_of hturn
                            rw [hjt'] at hjt
                            obtain rfl : t = t0 := by injection hjt
                            have hjo : t.over = false := by
                              unfold Pl.over at hskip
                              rw [hjt'] at hskip
                              simpa using hskip
                            rw [hjo] at hov1
                            have kdr : Keeps (fun _ => False) wr wr.drew := (Keeps.refl _ wr).drew
                            have HCALL := Lib.hid (turn_all (hP.keeps kdr (fun _ _ z => z) (fun _ _ z => z)) hK.size hjt' hg1 hcall hop (pl.trace ++ [(k, cc, pc)]))
                            have HFACT := Lib.hid (show ∀ w8, Keeps (Any Fs (WFoot wb.heap.size (.slice A' ws.length c') (.slice A2 m c2) vs)) wr w8 → (w8.cell? ⟨wq.heap.size, 0, none⟩ = some (.slice tA pl.trace.length tc) ∧ w8.cell? ⟨lb, k, none⟩ = some (.pointer (some ⟨g, 0, none⟩))) ∧ wq.heap.size < w8.heap.size ∧ lb < w8.heap.size ∧ w8.ownsRow (wq.heap.size + 1) 86 3 (.slice tA pl.trace.length tc) pl.trace.length (flat3 pl.trace) ∧ wq.heap.size + 1 ≤ w8.heap.size from fun w8 k8 => by
                              have hq := hBk.1.lt
                              have hs8 := k8.size
                              refine ⟨⟨cell_keeps k8 p0 (fun z => hBk.2.1 z), cell_keeps k8 hcl (fun z => (hR.2 lb rfl).1 z)⟩, by omega, by omega, owns_keeps hT.1 k8 (fun b hb => hT.2 b hb), by omega⟩)
                            have HFR := Lib.hid (show ∀ w8 ob w9, Keeps (Any Fs (WFoot wb.heap.size (.slice A' ws.length c') (.slice A2 m c2) vs)) wr w8 → (w8.alloc ob).grownBy w9 (Value.slice tA pl.trace.length tc).ownBlock → w9.cell? ⟨wq.heap.size, 0, none⟩ = some (.slice tA pl.trace.length tc) ∧ w9.frozen? ⟨wq.heap.size, 0, none⟩ = false from fun w8 ob w9 k8 hg => by
                              have b8 := (Blk.keeps hBk.1 k8 hBk.2.1).alloc ob
                              have b9 := Blk.grown b8 hg (fun e => by have := (hT.1.lt _ e.symm).1; omega)
                              exact ⟨by rw [b9.cell]; rfl, b9.frozen 0⟩)
                            have HNEW := Lib.hid (fun w8 w9 nn Fs' v2 o p8 k8 a8 hg hr hn hat hv => playing_turn (wa := wa) (wc := wc) (wr := wr) (w8 := w8) (w9 := w9) (B := wa.heap.size) (p := wb.heap.size) (P := wq.heap.size) (k := k) (c := cc) (pc := pc) (nn := nn) (FW := (WFoot wb.heap.size (.slice A' ws.length c') (.slice A2 m c2) vs)) (Fs' := Fs') (ths' := pl.ths.set k t') (ws' := ws') (v2 := v2) (o := o) hP hN hR hBk hT hK rfl (by simp) p8 k8 a8 hg hr hn hat hv)
                            have HRR := Lib.hid hrr
                            have n1 : pl.trace.length + 1 ≤ maxLen := by unfold maxLen; omega
                            have n2 : (pl.trace.length + 1) * 24 ≤ 140737488355328 := by omega
                            have hqs : wq.heap.size < wr.heap.size := hBk.1.lt
                            have hx0 : (0 : Int) ≤ (k : Int) := by omega
                            have hx1 : (k : Int) < (threads.length : Int) := by omega
                            clear hP hN hR hBk hT hK hrr hskip htl16 hjt hjt' hg1 hF1 hTI hjo hturn hcall hop kdr
                            go_wp2_with fail
                            go_region_law (first
                              | (refine step_apps rfl _ _ 74 rfl (wq.heap.size + 1) 86 j0 _ 3 24 Try.underlying74 hj0 hy0 hy1 hy2 rfl (by decide) (.slice tA pl.trace.length tc) pl.trace.length (flat3 pl.trace) rfl (y4.alloc _) ⟨w8.heap.size, 0, none⟩ 1 1 [.int .i64 (k : Int), .int .u8 (cc : Int), .int .i64 (pc : Int)] rfl rfl (new_three _ _ _ _ _) (three_one _ _ _) n1 n2 y5 ?_; intro v2 w9 hown2 hg2 hat2; obtain ⟨g2, cap2, rfl, hg20, hg21⟩ := hown2.form (Nat.succ_pos _); obtain ⟨x1, x2⟩ := HFR.out _ _ _ k8 hg2)
                              | (go_simp; go_at_call 37; refine HCALL.out.mono ?_; rintro e w8 ⟨rfl, Fs', p8, k8', a8⟩; have k8 : Keeps (Any Fs (WFoot wb.heap.size (.slice A' ws.length c') (.slice A2 m c2) vs)) wr w8 := ⟨k8'.size, k8'.block, ⟨k8'.same.os, k8'.same.tape, k8'.same.output⟩⟩; obtain ⟨⟨y1, y2⟩, y6, y7, y4, y5'⟩ := HFACT.out _ k8; have y5 := Nat.le_trans y5' (Nat.le_of_lt (size_alloc w8 (.cells #[.int .i64 (k : Int), .int .u8 (cc : Int), .int .i64 (pc : Int)] 86)))))
                            all_goals
                              go_wp2_with fail
                              go_roundg (threads.length - (k + 1))
                              case rel => exact ⟨k + 1, true, _, rfl, hlt4, by go_num, rfl, HRR.out, HNEW.out _ _ _ _ _ _ p8 k8 (fun b hb => (a8 b hb).imp id (fun q => ⟨q, (p8.below hb).2⟩)) hg2 hown2 rfl hat2 ⟨_, _, rfl⟩⟩
                              case measure => omega
                    · obtain rfl : k = threads.length := by omega
                      rw [Nat.sub_self] at hrr
                      obtain ⟨rfl, rfl⟩ : bq = bF ∧ pl = pF := by simpa [Pl.round] using hrr
                      have HPL2 := Lib.hid hpl
                      clear hpl hrr
                      go_wp2_with fail
                      go_roundg (r + 1)
                      case rel =>
                        refine ⟨pl, ?_, HPL2.out⟩
                        rcases HFIN.out with ⟨rfl, hq⟩ | ⟨rfl, rfl⟩
                        · exact .inl ⟨rfl, r, rfl, hq⟩
                        · obtain ⟨_, h2, h3⟩ := round_none _ _ _ _ _ HRD.out
                          refine .inr ⟨rfl, rfl, fun j hj => ?_⟩
                          have := h3 j (Nat.zero_le _)
                          rw [h2] at hj ⊢
                          exact this (by rw [Nat.zero_add, ← HLEN.out]; exact hj)
                      case measure => omega
                · obtain ⟨wE, rfl⟩ : ∃ wE : World, wE = wr := ⟨_, rfl⟩
                  have HPL := Lib.hid hpl
                  have HOV := Lib.hid hov
                  clear hpl hov
                  have hst : Outs wE gs 0 (.slice none 0 0) wE := ⟨none, 0, [], rfl, World.ownsRow_nil _ _ _ _, (fun i av h => by simp at h), Keeps.refl _ wE⟩
                  have HST := Lib.hid hst
                  clear hst
                  go_wp2_with fail
                  go_loopg [18, 19] threads.length (fun q l i wr => ∃ k, q = threads.length - k ∧ k ≤ threads.length ∧ i = .int .i64 k ∧ Outs wE gs k l wr)
                  case atStart => exact ⟨0, by omega, by omega, rfl, HST.out⟩
                  case round =>
                    clear HST
                    obtain ⟨k, rfl, hk6, rfl, hout⟩ := hrel
                    by_cases hlt6 : k < threads.length
                    · obtain ⟨oA, oc, avs, rfl, hr0, hA, hKE⟩ := hout
                      obtain ⟨Fs, tA, tc, hP, hN, hR, hBk, hT, hK⟩ := HPL.out
                      obtain ⟨t0, hjt⟩ : ∃ t0, pl1.ths[k]? = some t0 := ⟨_, List.getElem?_eq_getElem (show k < pl1.ths.length by omega)⟩
                      obtain ⟨g, F, hg1, hF1, hTI⟩ := hP.get hjt
                      obtain ⟨lb, rfl, hcl, hlb⟩ := ptr_at hR.1 hlt6 hg1
                      have hov1 := over_at hTI
                      have hjo : t0.over = true := by
                        have := HOV.out k (by omega)
                        unfold Pl.over at this
                        rw [hjt] at this
                        exact this
                      rw [hjo] at hov1
                      obtain ⟨A3, c3, hav, _⟩ := answers_of hTI (Keeps.refl (fun _ => False) wE) (fun _ _ z => z)
                      have z1 : wr.cell? ⟨lb, k, none⟩ = some (.pointer (some ⟨g, 0, none⟩)) := cell_keeps hKE hcl (fun z => z)
                      have z2 : wr.cell? ⟨g, 28, none⟩ = some (.bool true) := cell_keeps hKE hov1 (fun z => z)
                      have z3 : wr.cell? ⟨g, 27, none⟩ = some (.slice A3 t0.ans.length c3) := cell_keeps hKE hav (fun z => z)
                      have HRO := Lib.hid hr0
                      have HNEW := Lib.hid (fun w9 nn v2 o hgr hr hn hv => outs_round (wE := wE) (wr := wr) (w9 := w9) (gs := gs) (k := k) (g := g) (oc := oc) (nn := nn) (oA := oA) (avs := avs) (av := .slice A3 t0.ans.length c3) (v2 := v2) (o := o) hr0 hA hKE hg1 hav hgr hr hn hv)
                      have HB9 : Hid (wE.heap.size ≤ (wr.alloc (.cells #[.slice A3 t0.ans.length c3] 89)).heap.size) := Lib.hid (Nat.le_trans hKE.size (Nat.le_of_lt (size_alloc wr _)))
                      have n1 : k + 1 ≤ 140737488355328 := by omega
                      clear hr0 hA hKE hP hN hR hBk hT hK hjt hg1 hF1 hTI hcl hov1 hjo hav
                      go_wp2_with ((at_builtin; refine wpList_app rfl _ _ 78 rfl wE.heap.size 89 a0 _ 24 Try.underlying78 ha0 hb0 hb1 hb2 rfl (.slice oA k oc) k avs rfl (HRO.out.alloc _) (wr.heap.size + 1) (some ⟨wr.heap.size, 0, none⟩) 1 1 [.slice A3 t0.ans.length c3] rfl (Blk.new wr 89 #[.slice A3 t0.ans.length c3]).rd rfl (one_slice _ _ _) n1 (by omega) HB9.out ?_; intro v2 w9 hown2 hg2 hat2; obtain ⟨g2, cap2, rfl, hg20, hg21⟩ := hown2.form (Nat.succ_pos _); have HG2 := Lib.hid hg2; have HO2 := Lib.hid hown2; clear hg2 hown2 hat2))
                      go_roundg (threads.length - (k + 1))
                      case rel => exact ⟨k + 1, rfl, hlt6, by go_num, HNEW.out _ _ _ _ HG2.out HO2.out rfl ⟨_, _, rfl⟩⟩
                      case measure => omega
                    · obtain rfl : k = threads.length := by omega
                      have hkr : Keeps (fun _ => False) wa wr := by
                        obtain ⟨Fs, tA, tc, _, _, _, _, _, hK⟩ := HPL.out
                        obtain ⟨_, _, _, _, _, _, hKE⟩ := hout
                        exact hK.trans hKE
                      have s6 := Blk.keeps HB6.out hkr (fun z => z)
                      have s8 := Blk.keeps HB8.out hkr (fun z => z)
                      obtain ⟨tA, tc, oA, oc, wA, wcc, lA2, lc2, mm, hbP, hbp, rfl, hend⟩ := play_end (R6 := w.heap.size + 1) (R8 := w.heap.size + 1 + 1) HKA.out HZA.out rfl HPL.out hout rfl rfl
                      have d0 : wr.cell? ⟨wq.heap.size, 0, none⟩ = some (.slice tA pl1.trace.length tc) := by rw [hbP.cell]; rfl
                      have d1 : wr.cell? ⟨wq.heap.size, 1, none⟩ = some (.slice none 0 0) := by rw [hbP.cell]; rfl
                      have d2 : wr.cell? ⟨wb.heap.size, 0, none⟩ = some (.slice wA pl1.ws.length wcc) := by rw [hbp.cell]; rfl
                      have d3 : wr.cell? ⟨wb.heap.size, 1, none⟩ = some (.slice lA2 mm lc2) := by rw [hbp.cell]; rfl
                      have r60 : wr.cell? ⟨w.heap.size + 1, 0, none⟩ = some (.slice none 0 0) := by rw [s6.cell]; rfl
                      have r61 : wr.cell? ⟨w.heap.size + 1, 1, none⟩ = some (.slice none 0 0) := by rw [s6.cell]; rfl
                      have r80 : wr.cell? ⟨w.heap.size + 1 + 1, 0, none⟩ = some (.slice none 0 0) := by rw [s8.cell]; rfl
                      have r81 : wr.cell? ⟨w.heap.size + 1 + 1, 1, none⟩ = some (.slice none 0 0) := by rw [s8.cell]; rfl
                      have f60 := s6.frozen 0
                      have f61 := s6.frozen 1
                      have f80 := s8.frozen 0
                      have f81 := s8.frozen 1
                      have hzz := HZA.out
                      have hbw : wa.heap.size ≤ wb.heap.size ∧ wa.heap.size ≤ wq.heap.size := by
                        obtain ⟨Fs, tA, tc, hP, _, _, hBk, _, _⟩ := HPL.out
                        exact ⟨(hP.wd.above _ hP.wd.me).1, hBk.2.2⟩
                      have n61 : w.heap.size + 1 ≠ wb.heap.size := by omega
                      have n62 : w.heap.size + 1 ≠ wq.heap.size := by omega
                      have n81 : w.heap.size + 1 + 1 ≠ wb.heap.size := by omega
                      have n82 : w.heap.size + 1 + 1 ≠ wq.heap.size := by omega
                      have HEND := Lib.hid hend
                      clear hend hout hkr s6 s8 hbP hbp hbw hzz
                      go_wp2_with fail
                      go_region
                      go_wp2_with fail
                      refine bodyPost_ret (v := .tuple #[.agg #[.slice tA pl1.trace.length tc, .slice none 0 0], .slice oA pl1.ths.length oc, .agg #[.slice wA pl1.ws.length wcc, .slice lA2 mm lc2]]) (by simp [results, Try.results24, go_sem, r60, r61, r80, r81]) rfl (HEND.out _ ?_)
                      repeat (first | (with_reducible exact Keeps.refl _ _) | (with_reducible refine Keeps.drew ?_) | (with_reducible refine Keeps.setCell ?_ (.inl ?_) _; rotate_left; (first | exact .inl rfl | exact .inr rfl)))
end Go.Proofs.Ytgenblefbddilaa.mz
