/-
  meter's works; the machine alone at a meter's calls; a round of MeterNotes: what the loop's head finds, what its calls come to.
-/
import Derived.Test.YtgenblefbddilaaRf13s
import Derived.Test.YtgenblefbddilaaMzMa
set_option linter.unusedVariables false
namespace Go.Proofs.Ytgenblefbddilaa.rf13
open Go.RowKit Go.Proofs.Ytgenblefbddilaa.oc Go.Proofs.Ytgenblefbddilaa.mz Go.Proofs.Ytgenblefbddilaa.at_ Go.Proofs.Ytgenblefbddilaa.gt Go.Proofs.Ytgenblefbddilaa.gw Go.Proofs.Ytgenblefbddilaa.bk Go.Proofs.Ytgenblefbddilaa.bp Go.Proofs.Ytgenblefbddilaa.mt
section
variable {D n d u s s' : Nat} {w w' : World}
theorem st0 (h : Mt w D n d u s) : St w D n d u 0 s .nilIface [] (fun _ => False) := ⟨h, GF.nil_ _ _ _ _, fun z => z⟩
theorem keep0 {ms' : List (Nat × Nat)} (l : mt.Left D n d u 0 s' .nilIface ms' (fun _ => False) w w') : Keeps (· = D) w w' := l.keep.mono (fun x _ z => by rcases z with z | z; exact z; exact z.elim)
end
theorem may3 : May 1 10 3 := by unfold May; decide
theorem w_yes : lets 1 10 3 0 0 2 = true ∧ takeOf 1 10 3 0 0 2 = 20 ∧ lets 1 10 3 20 0 2 = false ∧ lets 1 10 3 20 0 1 = true ∧ takeOf 1 10 3 20 0 1 = 30 := by decide
set_option maxRecDepth 100000 in
set_option maxHeartbeats 2000000 in
theorem works_ (w : World) : Calls Try.prog 7 #[] w fun e w' => e = .returned (.bool true) ∧ ∀ S, Keeps S w w' := by
  obtain ⟨y1, y2, y3, y4, y5⟩ := w_yes
  have HNEW := Lib.hid (new_ok 1 10 3 w may3)
  have c0 : ((0 : Nat) : Int) = 0 := rfl
  have c1 : ((1 : Nat) : Int) = 1 := rfl
  have c2 : ((2 : Nat) : Int) = 2 := rfl
  have c3 : ((3 : Nat) : Int) = 3 := rfl
  have c10 : ((10 : Nat) : Int) = 10 := rfl
  unfold bv at HNEW
  rw [c1, c10, c3] at HNEW
  have HY := Lib.hid (And.intro y1 (And.intro y2 (And.intro y3 (And.intro y4 y5))))
  clear y1 y2 y3 y4 y5 c1 c3 c10
  go_enter Try.func7, Try.ntmps7
  go_wp2_with fail
  refine HNEW.out.mono ?_
  rintro e w1 ⟨D, rfl, r1, hD, k1⟩
  have K1 : Hid (∀ S, Keeps S w w1) := Lib.hid k1
  have HD : Hid (w.heap.size ≤ D) := Lib.hid hD
  have h1 := take_yes D 1 10 3 0 0 0 2 .nilIface [] _ w1 (st0 r1) (by omega) (by simp) (by omega) (by omega) HY.out.1 (by rw [HY.out.2.1]; omega)
  rw [HY.out.2.1, c0, c2] at h1
  have H1 := Lib.hid h1
  clear r1 k1 hD h1
  go_wp2_with fail
  refine H1.out.mono ?_
  rintro e w2 ⟨rfl, l2⟩
  have h2 := take_no D 1 10 3 0 20 0 2 .nilIface [] _ w2 (st0 l2.mt) (by omega) (by simp) (by omega) (by omega) HY.out.2.2.1
  rw [c0, c2] at h2
  have H2 := Lib.hid h2
  have K2 := Lib.hid (keep0 l2)
  clear l2 h2
  go_wp2_with fail
  refine H2.out.mono ?_
  rintro e w3 ⟨rfl, l3⟩
  have h3 := take_yes D 1 10 3 0 20 0 1 .nilIface [] _ w3 (st0 l3.mt) (by omega) (by simp) (by omega) (by omega) HY.out.2.2.2.1 (by rw [HY.out.2.2.2.2]; omega)
  rw [c0, show ((1 : Nat) : Int) = 1 from rfl] at h3
  have H3 := Lib.hid h3
  have K3 := Lib.hid (keep0 l3)
  clear l3 h3
  go_wp2_with fail
  refine H3.out.mono ?_
  rintro e w4 ⟨rfl, l4⟩
  have K4 := Lib.hid (keep0 l4)
  clear l4
  go_wp2
  go_ret
  refine ⟨rfl, fun S => ?_⟩
  have hd := HD.out
  have k : Keeps (· = D) w w4 := (((K1.out _).trans K2.out).trans K3.out).trans K4.out
  exact k.mono (fun x hx e => by omega)
section
variable (n d u r now k : Nat) (ws : List Nat)
theorem told_few : (outOf n d u r now k ws).told.length ≤ 2 := by
  simp only [outOf]
  (repeat' split) <;> simp
theorem marks_few : (outOf n d u r now k ws).marks.length ≤ 2 := by
  simp only [outOf]
  (repeat' split) <;> simp
end
/-- the words of a meter: its state, no greater than it can be -/
structure Low (ws : List Nat) : Prop where
  len : ws.length = 1
  low : ws[0]?.getD 0 ≤ 144115188075855872
theorem Low.start : Low [0] := ⟨rfl, by decide⟩
theorem Low.next {n d u : Nat} {ws : List Nat} (h : Low ws) (hm : May n d u) (r now k : Nat) : Low (outOf n d u r now k ws).next := by
  obtain ⟨s, rfl⟩ : ∃ s, ws = [s] := by
    match ws, h.len with
    | [s], _ => exact ⟨s, rfl⟩
  have hs : s ≤ 144115188075855872 := h.low
  simp only [outOf]
  split
  · split
    · rename_i hn
      split
      · rename_i hl
        exact ⟨rfl, take_low hm hn hs hl⟩
      · exact ⟨rfl, hs⟩
    · exact ⟨rfl, hs⟩
  · split
    · split <;> exact ⟨rfl, hs⟩
    · exact ⟨rfl, hs⟩
theorem done_any (D n d u N r now k : Nat) (kd : Int) (ws : List Nat) (gv : Value) (ms : List (Nat × Nat)) (F : Nat → Prop) (w : World) (hlo : Low ws) (st : St w D n d u N (ws[0]?.getD 0) gv ms F) (hN : N ≤ w.heap.size) (hl : ms.length < 700000) (hF : ∀ x, F x → x < w.heap.size) (hr3 : r < 3) (hr : kd % 3 = (r : Int)) (hk : k < 18446744073709551616) (h1 : -9223372036854775808 ≤ kd) (h2 : kd ≤ 9223372036854775807) :
    Calls Try.prog 11 #[.pointer (some ⟨D, 0, none⟩), gv, .agg #[.int .i64 kd, .int .u64 (now : Int), .int .u64 (k : Int)]] w (Done D n d u N ((outOf n d u r now k ws).next[0]?.getD 0) (outOf n d u r now k ws).told gv (ms ++ (outOf n d u r now k ws).marks) F w) := by
  have hm := st.mt.may
  have hs := hlo.low
  rcases (show r = 0 ∨ r = 1 ∨ r = 2 by omega) with rfl | rfl | rfl
  · by_cases hn : now ≤ 1099511627776
    · cases ht : lets n d u (ws[0]?.getD 0) now k with
      | true =>
        have hv := take_low hm hn hs ht
        have h := done_0yes D n d u N _ now k kd gv ms F w st hN hl hF hk hr h1 h2 hn ht (by omega)
        simpa [outOf, ht, hn] using h
      | false =>
        have h := done_0no D n d u N _ now k kd gv ms F w st hN hl hF hk hr h1 h2 hn ht
        simpa [outOf, ht, hn] using h
    · have h := done_0late D n d u N _ now k kd gv ms F w st hN hl hF hk hr h1 h2 hn
      simpa [outOf, hn] using h
  · by_cases hn : now ≤ 1099511627776
    · have h := done_1in D n d u N _ now k kd gv ms F w st hN hl hF hk hr h1 h2 hn
      simpa [outOf, hn] using h
    · have h := done_1late D n d u N _ now k kd gv ms F w st hN hl hF hk hr h1 h2 hn
      simpa [outOf, hn] using h
  · have h := done_2 D n d u N _ now k kd gv ms F w st hN hl hF hk hr h1 h2
    simpa [outOf] using h
theorem alone_ (n d u r now k m : Nat) (ws : List Nat) (wv lv cv dv : Value) (w : World) (hr : r < 3) (hmay : May n d u) (hlo : Low ws) (hw : IsWords w w.heap.size wv [ws]) (hl : IsLists w w.heap.size lv m) (hm : m < 1000000) (hc : IsCode w w.heap.size cv (codeOf n d u r now k)) (hd : IsData w w.heap.size dv []) :
    Calls Try.prog 12 #[.agg #[wv, lv], .agg #[cv, dv]] w fun e w' => ∃ tA tc A cc A2 c2 m' mA mc, e = .returned (.tuple #[.slice tA (outOf n d u r now k ws).told.length tc, .agg #[.slice A 1 cc, .slice A2 m' c2], .slice mA (outOf n d u r now k ws).marks.length mc]) ∧ m' < 1000000 ∧
      (∀ w'', Keeps (fun x => x < w.heap.size) w' w'' → IsData w'' w''.heap.size (.slice tA (outOf n d u r now k ws).told.length tc) (outOf n d u r now k ws).told ∧ IsWords w'' w''.heap.size (.slice A 1 cc) [(outOf n d u r now k ws).next] ∧ IsLists w'' w''.heap.size (.slice A2 m' c2) m' ∧ IsMarks w'' w''.heap.size (.slice mA (outOf n d u r now k ws).marks.length mc) (outOf n d u r now k ws).marks) ∧ ∀ S, Keeps S w w' := by
  obtain ⟨f, pl, p1, p2, p3, p4⟩ := play_any (r := r) (now := now) (k := k) hlo.len hmay hlo.low hr
  have hmf := marks_few n d u r now k ws
  rw [out_code] at p1
  obtain ⟨O, hO⟩ : ∃ O, O = outOf n d u r now k ws := ⟨_, rfl⟩
  rw [← hO] at p2 p3 p4 hmf ⊢
  have hlen2 : pl.trace.length = O.marks.length := by rw [← p3]; simp
  have hcl : (codeOf n d u r now k).length < 1000000 := by
    unfold codeOf
    (repeat' split) <;> simp [takeCode, takeAt, levelCode, levelAt, stateCode, stateAt, lateCode, lateAt]
  have hsm : ∀ l ∈ [ws], ∀ x ∈ l, x < 18446744073709551616 := fun l hl x hx => by
    have hl : l = ws := by simpa using hl
    obtain ⟨s, hs⟩ : ∃ s, ws = [s] := by
      have h2 := hlo.len
      match ws, h2 with
      | [s], _ => exact ⟨s, rfl⟩
    have h1 := hlo.low
    rw [hl, hs] at hx
    rw [hs] at h1
    simp at hx h1
    omega
  have hwl : ws.length = 1 := hlo.len
  refine (alone_any 40 f w.heap.size m wv lv cv dv [ws] _ [] w hw hl hc hd (Nat.le_refl _) (by simp) hm (by simp; omega) hsm hcl pl p1 true O.told p4 (by omega)).mono ?_
  rintro e w' ⟨tA, tc, A, cc, A2, c2, m', mA, mc, he, hm', hr', hk⟩
  rw [p2, hlen2] at he hr'
  refine ⟨tA, tc, A, cc, A2, c2, m', mA, mc, he, hm', fun w'' kk => ?_, hk⟩
  have := hr' w'' kk
  rw [p2, p3] at this
  exact this
structure Rnd (w wr : World) (D n d u P X : Nat) (ws : List Nat) (j : Nat) (wv lv : Value) (m : Nat) : Prop where
  mt : Mt wr D n d u (ws[0]?.getD 0)
  low : Low ws
  world : Blk wr X 36 [wv, lv]
  wild : Blk wr P 24 [.int .u64 (n : Int), .int .u64 (d : Int), .int .u64 (u : Int)]
  read : ∀ w'', Keeps (fun b => b = D ∨ b = X) wr w'' → IsWords w'' w''.heap.size wv [ws] ∧ IsLists w'' w''.heap.size lv m
  small : m < 1000000
  ne : D ≠ X
  neP : P ≠ D ∧ P ≠ X
  new : w.heap.size ≤ D ∧ w.heap.size ≤ X
  keep : Keeps (fun b => w.heap.size ≤ b) w wr
theorem begins {w w1 ww : World} {D n d u P : Nat} {wv lv : Value} (h : Mt w1 D n d u 0) (hD : w.heap.size ≤ D) (hP : Blk w1 P 24 [.int .u64 (n : Int), .int .u64 (d : Int), .int .u64 (u : Int)]) (hPD : P ≠ D) (k1 : Keeps (fun b => w.heap.size ≤ b) w w1)
    (hr : ∀ w'', Keeps (fun b => b < w1.heap.size ∨ ww.heap.size ≤ b) ww w'' → IsWords w'' w''.heap.size wv [[0]] ∧ IsLists w'' w''.heap.size lv 1) (kw : ∀ S, Keeps S w1 ww) :
    Rnd w (ww.alloc (.cells #[wv, lv] 36)) D n d u P ww.heap.size [0] 0 wv lv 1 := by
  have z1 := h.lt
  have z2 := hP.lt
  have z3 := (kw (fun _ => False)).size
  have z4 := k1.size
  have ka : ∀ S, Keeps S ww (ww.alloc (.cells #[wv, lv] 36)) := fun S => (Keeps.refl S ww).alloc _
  exact ⟨h.keeps ((kw (fun _ => False)).trans (ka _)) (fun z => z), Low.start, Blk.new ww _ _, Blk.keeps hP ((kw (fun _ => False)).trans (ka _)) (fun z => z), fun w'' kk => hr w'' ((ka _).trans (kk.mono (fun b _ z => by omega))), by omega, by omega, ⟨hPD, by omega⟩, ⟨hD, by omega⟩, (k1.trans (kw _)).trans (ka _)⟩
section
variable {w wr wa wz wk wn : World} {D n d u P X m m' j : Nat} {ws : List Nat} {wv lv s1 s2 : Value}
theorem Rnd.apart (h : Rnd w wr D n d u P X ws j wv lv m) : ¬ X = D := fun e => h.ne e.symm
theorem Rnd.old (h : Rnd w wr D n d u P X ws j wv lv m) (b : Nat) (hb : b < w.heap.size) : ¬ b = D := by have := h.new; omega
theorem rd_few (h : Rnd w wr D n d u P X ws j wv lv m) (kd : Int) (now k r : Nat) (hj : j < 100000) : (outOf n d u r now k ws).marks.length ≤ 1000 ∧ (outOf n d u r now k ws).told.length ≤ 1000 := by
  have h1 := marks_few n d u r now k ws
  have h2 := told_few n d u r now k ws
  omega
theorem rd_done (h : Rnd w wr D n d u P X ws j wv lv m) (kd : Int) (now k r : Nat) (hj : j < 100000) (hr5 : r < 3) (hr : kd % 3 = (r : Int)) (hk : (-9223372036854775808 ≤ kd ∧ kd ≤ 9223372036854775807 ∧ now < 18446744073709551616 ∧ k < 18446744073709551616)) {F0 : Nat → Prop} (nn : NInv wn wr.heap.size [] F0) (kn : ∀ S, Keeps S wr wn) :
    Calls Try.prog 11 #[.pointer (some ⟨D, 0, none⟩), .iface 38 (.pointer (some ⟨wr.heap.size, 0, none⟩)), .agg #[.int .i64 kd, .int .u64 (now : Int), .int .u64 (k : Int)]] wn fun e wa => ∃ A c, e = .returned (.slice A (outOf n d u r now k ws).told.length c) ∧ IsData wa wa.heap.size (.slice A (outOf n d u r now k ws).told.length c) (outOf n d u r now k ws).told ∧ (∃ F, NInv wa wr.heap.size (outOf n d u r now k ws).marks F) ∧ Mt wa D n d u ((outOf n d u r now k ws).next[0]?.getD 0) ∧ Keeps (fun b => b = D) wr wa := by
  have hF0 : ∀ b, F0 b → wr.heap.size ≤ b := fun b hb => (nn.above b hb).1
  have hlt := h.mt.lt
  have s : St wn D n d u wr.heap.size (ws[0]?.getD 0) (.iface 38 (.pointer (some ⟨wr.heap.size, 0, none⟩))) [] F0 := ⟨h.mt.keeps (kn (fun _ => False)) (fun z => z), .inr ⟨rfl, nn⟩, fun z => by have := hF0 _ z; omega⟩
  refine (done_any D n d u wr.heap.size r now k kd ws _ [] F0 wn h.low s (kn (fun _ => False)).size (by simp) (fun b hb => (nn.above b hb).2) hr5 hr hk.2.2.2 hk.1 hk.2.1).mono ?_
  rintro e wa ⟨A, c, rfl, hd, hlf⟩
  refine ⟨A, c, rfl, hd, ?_, hlf.mt, ((kn _).trans hlf.keep).mono (fun x hx z => by rcases z with z | z; exact z; have := hF0 x z; omega)⟩
  rcases hlf.gate with z | z
  · cases z
  · exact ⟨_, by simpa using z.2⟩
theorem rd_call (h : Rnd w wr D n d u P X ws j wv lv m) (kd : Int) (now k r : Nat) (hr5 : r < 3) (hr : kd % 3 = (r : Int)) (hk : (-9223372036854775808 ≤ kd ∧ kd ≤ 9223372036854775807 ∧ now < 18446744073709551616 ∧ k < 18446744073709551616)) (w0 : World) :
    Calls Try.prog 13 #[.agg #[.int .u64 (n : Int), .int .u64 (d : Int), .int .u64 (u : Int)], .agg #[.int .i64 kd, .int .u64 (now : Int), .int .u64 (k : Int)]] w0 (CallMade w0 (codeOf n d u r now k)) := call_ n d u r now k kd w0 h.mt.may hr5 hr hk.1 hk.2.1
theorem rd_alone (h : Rnd w wr D n d u P X ws j wv lv m) (kd : Int) (now k r : Nat) (hj : j < 100000) (hr5 : r < 3) (hk : (-9223372036854775808 ≤ kd ∧ kd ≤ 9223372036854775807 ∧ now < 18446744073709551616 ∧ k < 18446744073709551616)) (wv' lv' cv dv : Value) (m2 : Nat) (w0 : World) (hw : IsWords w0 w0.heap.size wv' [ws]) (hl : IsLists w0 w0.heap.size lv' m2) (hm : m2 < 1000000) (hc : IsCode w0 w0.heap.size cv (codeOf n d u r now k)) (hd : IsData w0 w0.heap.size dv []) :
    Calls Try.prog 12 #[.agg #[wv', lv'], .agg #[cv, dv]] w0 fun e w' => ∃ tA tc A cc A2 c2 m' mA mc, e = .returned (.tuple #[.slice tA (outOf n d u r now k ws).told.length tc, .agg #[.slice A 1 cc, .slice A2 m' c2], .slice mA (outOf n d u r now k ws).marks.length mc]) ∧ m' < 1000000 ∧
      (∀ w'', Keeps (fun b => b < w0.heap.size) w' w'' → IsData w'' w''.heap.size (.slice tA (outOf n d u r now k ws).told.length tc) (outOf n d u r now k ws).told ∧ IsWords w'' w''.heap.size (.slice A 1 cc) [(outOf n d u r now k ws).next] ∧ IsLists w'' w''.heap.size (.slice A2 m' c2) m' ∧ IsMarks w'' w''.heap.size (.slice mA (outOf n d u r now k ws).marks.length mc) (outOf n d u r now k ws).marks) ∧ ∀ S, Keeps S w0 w' :=
  alone_ n d u r now k m2 ws wv' lv' cv dv w0 hr5 h.mt.may h.low hw hl hm hc hd
theorem round_end {ws' : List Nat} (HR : Rnd w wr D n d u P X ws j wv lv m) (kd : Int) (now k r : Nat) (hws : ws' = (outOf n d u r now k ws).next) (hr : Mt wa D n d u (ws'[0]?.getD 0)) (kra : Keeps (fun b => b = D) wr wa) (kaz : ∀ S, Keeps S wa wz) (kzk : ∀ S, Keeps S wz wk) (hb : Blk wk X 36 [wv, lv])
    (hz : ∀ w'', Keeps (fun b => b < wr.heap.size) wz w'' → IsWords w'' w''.heap.size s1 [ws'] ∧ IsLists w'' w''.heap.size s2 m') (hm : m' < 1000000) :
    Rnd w ((wk.setCell ⟨X, 0, none⟩ s1).setCell ⟨X, 1, none⟩ s2) D n d u P X ws' (j + 1) s1 s2 m' := by
  have hn := HR.new
  have hX := HR.world.lt
  have hD := HR.mt.lt
  have kf : Keeps (· = X) wk ((wk.setCell ⟨X, 0, none⟩ s1).setCell ⟨X, 1, none⟩ s2) := (Keeps.here s1).trans (Keeps.here s2)
  have bw : Blk ((wk.setCell ⟨X, 0, none⟩ s1).setCell ⟨X, 1, none⟩ s2) X 36 [s1, s2] := by simpa using (hb.put 0 s1).put 1 s2
  generalize (wk.setCell ⟨X, 0, none⟩ s1).setCell ⟨X, 1, none⟩ s2 = wf at *
  have kaf : Keeps (· = X) wa wf := ((kaz _).trans (kzk _)).trans kf
  refine ⟨hr.keeps kaf HR.ne, by rw [hws]; exact HR.low.next HR.mt.may r now k, bw, Blk.keeps (Blk.keeps HR.wild kra HR.neP.1) kaf HR.neP.2, fun w'' kk => hz w'' (((kzk _).trans (kf.mono (fun b _ z => by omega))).trans (kk.mono (fun b _ z => by omega))), hm, HR.ne, HR.neP, hn, (HR.keep.trans (kra.mono (fun b _ z => by omega))).trans (kaf.mono (fun b _ z => by omega))⟩
end
end Go.Proofs.Ytgenblefbddilaa.rf13
