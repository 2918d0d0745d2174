/-
  A round of EpochNotes: what the loop's head finds, what its calls come to.
-/
import Derived.Test.YtebjmmckejbklaaRf9s
set_option linter.unusedVariables false
namespace Go.Proofs.Ytebjmmckejbklaa.mz
open Go.RowKit Go.Proofs.Ytebjmmckejbklaa.oc
set_option maxRecDepth 100000 in
set_option maxHeartbeats 1000000 in
theorem clone_none (w : World) : Calls Try.prog 33 #[.slice none 0 0] w fun e w' => e = .returned (.slice none 0 0) ∧ w = w' := by
  have q48 : ∀ (w : World) (a : Option Addr) (n c n' c' : Nat), (binOp .eql 41 (.slice a n c) (.slice none n' c')).run Try.prog w = .ok (.bool a.isNone) w := fun w a n c n' c' => Lib.run_eql_slice_nil w _ _ a n c n' c' Try.underlying41
  go_enter Try.func33, Try.ntmps33
  go_wp2
  try rw [Exit.noGoto_ret]
  go_ret
  exact ⟨rfl, rfl⟩
set_option maxRecDepth 100000 in
set_option maxHeartbeats 1000000 in
theorem marks_none (N : Nat) (w : World) (F : Nat → Prop) (h : NInv w N [] F) :
    Calls Try.prog 14 #[.pointer (some ⟨N, 0, none⟩)] w fun e w' => e = .returned (.slice none 0 0) ∧ w = w' := by
  obtain ⟨mA, mc, hb, hr0, hf, hnil⟩ := h.at_
  obtain ⟨rfl, rfl⟩ := hnil rfl
  have p0 : w.cell? ⟨N, 0, none⟩ = some (.pointer (some ⟨N, 0, none⟩)) := by rw [hb.cell]; rfl
  have p1 : w.cell? ⟨N, 1, none⟩ = some (.slice none 0 0) := by rw [hb.cell]; rfl
  have hns := notes_self
  have HC := Lib.hid (clone_none w)
  clear hb hr0 hf hnil h
  go_enter Try.func14, Try.ntmps14
  go_wp2_with (go_at_call 33; refine HC.out.mono ?_; rintro e w' ⟨rfl, rfl⟩)
  go_ret
  exact ⟨rfl, rfl⟩
/-- the marks, few or none -/
theorem marks_any (N : Nat) (w : World) (ms : List (Nat × Nat)) (F : Nat → Prop) (h : NInv w N ms F) (hl : ms.length < 1000000) :
    Calls Try.prog 14 #[.pointer (some ⟨N, 0, none⟩)] w fun e w' => ∃ A' c', e = .returned (.slice A' ms.length c') ∧ IsMarks w' w'.heap.size (.slice A' ms.length c') ms ∧ ∀ S, Keeps S w w' := by
  by_cases hm : ms = []
  · subst hm
    refine (marks_none N w F h).mono ?_
    rintro e w' ⟨rfl, rfl⟩
    exact ⟨none, 0, rfl, ⟨none, 0, rfl, fun k u hk => by simp [flat2] at hk⟩, fun S => Keeps.refl S w⟩
  · exact marks_notes N w ms F h hl hm
end Go.Proofs.Ytebjmmckejbklaa.mz
namespace Go.Proofs.Ytebjmmckejbklaa.rf9
open Go.RowKit Go.Proofs.Ytebjmmckejbklaa.oc Go.Proofs.Ytebjmmckejbklaa.mz Go.Proofs.Ytebjmmckejbklaa.at_ Go.Proofs.Ytebjmmckejbklaa.gt Go.Proofs.Ytebjmmckejbklaa.gw Go.Proofs.Ytebjmmckejbklaa.ep
structure Rnd (w wr : World) (D n X : Nat) (ws : List Nat) (j : Nat) (wv lv : Value) (m : Nat) : Prop where
  ep : Ep wr D n ws
  low : Low n ws j
  world : Blk wr X 32 [wv, lv]
  read : ∀ w'', Keeps (fun b => b = D ∨ b = X) wr w'' → IsWords w'' w''.heap.size wv [ws] ∧ IsLists w'' w''.heap.size lv m
  small : m < 1000000
  ne : D ≠ X
  new : w.heap.size ≤ D ∧ w.heap.size ≤ X
  keep : Keeps (fun b => w.heap.size ≤ b) w wr
theorem begins {w w1 ww : World} {D n : Nat} {wv lv : Value} (h : Ep w1 D n (startW n)) (hD : w.heap.size ≤ D) (k1 : Keeps (fun b => w.heap.size ≤ b) w w1)
    (hr : ∀ w'', Keeps (fun b => b < w1.heap.size ∨ ww.heap.size ≤ b) ww w'' → IsWords w'' w''.heap.size wv [startW n] ∧ IsLists w'' w''.heap.size lv 1) (kw : ∀ S, Keeps S w1 ww) :
    Rnd w (ww.alloc (.cells #[wv, lv] 32)) D n ww.heap.size (startW n) 0 wv lv 1 := by
  have z1 := h.lt
  have z3 := (kw (fun _ => False)).size
  have z4 := k1.size
  have ka : ∀ S, Keeps S ww (ww.alloc (.cells #[wv, lv] 32)) := fun S => (Keeps.refl S ww).alloc _
  exact ⟨h.keeps ((kw (fun _ => False)).trans (ka _)) (fun z => z), Low.start n, Blk.new ww _ _, fun w'' kk => hr w'' ((ka _).trans (kk.mono (fun b _ z => by omega))), by omega, by omega, ⟨hD, by omega⟩, (k1.trans (kw _)).trans (ka _)⟩
section
variable {w wr wa wz wk wn : World} {D n X m m' j : Nat} {ws : List Nat} {wv lv s1 s2 : Value}
theorem Rnd.apart (h : Rnd w wr D n X ws j wv lv m) : ¬ X = D := fun e => h.ne e.symm
theorem Rnd.old (h : Rnd w wr D n X ws j wv lv m) (b : Nat) (hb : b < w.heap.size) : ¬ b = D := by have := h.new; omega
theorem rd_few (h : Rnd w wr D n X ws j wv lv m) (kd sl : Int) (q r : Nat) (hj : j < 100000) : (outOf n r sl q ws).marks.length ≤ 1000 ∧ (outOf n r sl q ws).told.length ≤ 1000 := by
  have h1 := marks_few n r sl q ws
  have h2 := told_few n r sl q ws
  have h3 := h.ep.top
  omega
theorem rd_done (h : Rnd w wr D n X ws j wv lv m) (kd sl : Int) (q r : Nat) (hj : j < 100000) (hr5 : r < 5) (hr : kd % 5 = (r : Int)) (hk : (-9223372036854775808 ≤ kd ∧ kd ≤ 9223372036854775807 ∧ -9223372036854775808 ≤ sl ∧ sl ≤ 9223372036854775807 ∧ q < 18446744073709551616)) {F0 : Nat → Prop} (nn : NInv wn wr.heap.size [] F0) (kn : ∀ S, Keeps S wr wn) :
    Calls Try.prog 9 #[.pointer (some ⟨D, 0, none⟩), .iface 34 (.pointer (some ⟨wr.heap.size, 0, none⟩)), .agg #[.int .i64 kd, .int .i64 sl, .int .u64 (q : Int)]] wn fun e wa => ∃ A c, e = .returned (.slice A (outOf n r sl q ws).told.length c) ∧ IsData wa wa.heap.size (.slice A (outOf n r sl q ws).told.length c) (outOf n r sl q ws).told ∧ (∃ F, NInv wa wr.heap.size (outOf n r sl q ws).marks F) ∧ Ep wa D n (outOf n r sl q ws).next ∧ Keeps (fun b => b = D) wr wa := by
  have h0 := h.low.at0 0
  have hF0 : ∀ b, F0 b → wr.heap.size ≤ b := fun b hb => (nn.above b hb).1
  have hlt := h.ep.lt
  have s : St wn D n wr.heap.size ws (.iface 34 (.pointer (some ⟨wr.heap.size, 0, none⟩))) [] F0 := ⟨h.ep.keeps (kn (fun _ => False)) (fun z => z), .inr ⟨rfl, nn⟩, fun z => by have := hF0 _ z; omega⟩
  refine (done_any D n wr.heap.size r q kd sl ws _ [] F0 wn s (kn (fun _ => False)).size (by simp) (fun b hb => (nn.above b hb).2) hr5 hr hk.1 hk.2.1 (by omega)).mono ?_
  rintro e wa ⟨A, c, rfl, hd, hlf⟩
  refine ⟨A, c, rfl, hd, ?_, hlf.ep, ((kn _).trans hlf.keep).mono (fun x hx z => by rcases z with z | z; exact z; have := hF0 x z; omega)⟩
  rcases hlf.gate with z | z
  · cases z
  · exact ⟨_, by simpa using z.2⟩
theorem rd_call (h : Rnd w wr D n X ws j wv lv m) (kd sl : Int) (q r : Nat) (hr5 : r < 5) (hr : kd % 5 = (r : Int)) (hk : (-9223372036854775808 ≤ kd ∧ kd ≤ 9223372036854775807 ∧ -9223372036854775808 ≤ sl ∧ sl ≤ 9223372036854775807 ∧ q < 18446744073709551616)) (w0 : World) :
    Calls Try.prog 11 #[.int .i64 (n : Int), .agg #[.int .i64 kd, .int .i64 sl, .int .u64 (q : Int)]] w0 (CallMade w0 (codeOf n r sl q)) := call_ n r q kd sl w0 h.ep.top h.ep.pos hr5 hr hk.1 hk.2.1
theorem rd_alone (h : Rnd w wr D n X ws j wv lv m) (kd sl : Int) (q r : Nat) (hj : j < 100000) (hr5 : r < 5) (hk : (-9223372036854775808 ≤ kd ∧ kd ≤ 9223372036854775807 ∧ -9223372036854775808 ≤ sl ∧ sl ≤ 9223372036854775807 ∧ q < 18446744073709551616)) (wv' lv' cv dv : Value) (m2 : Nat) (w0 : World) (hw : IsWords w0 w0.heap.size wv' [ws]) (hl : IsLists w0 w0.heap.size lv' m2) (hm : m2 < 1000000) (hc : IsCode w0 w0.heap.size cv (codeOf n r sl q)) (hd : IsData w0 w0.heap.size dv []) :
    Calls Try.prog 10 #[.agg #[wv', lv'], .agg #[cv, dv]] w0 fun e w' => ∃ tA tc A cc A2 c2 m' mA mc, e = .returned (.tuple #[.slice tA (outOf n r sl q ws).told.length tc, .agg #[.slice A 1 cc, .slice A2 m' c2], .slice mA (outOf n r sl q ws).marks.length mc]) ∧ m' < 1000000 ∧
      (∀ w'', Keeps (fun b => b < w0.heap.size) w' w'' → IsData w'' w''.heap.size (.slice tA (outOf n r sl q ws).told.length tc) (outOf n r sl q ws).told ∧ IsWords w'' w''.heap.size (.slice A 1 cc) [(outOf n r sl q ws).next] ∧ IsLists w'' w''.heap.size (.slice A2 m' c2) m' ∧ IsMarks w'' w''.heap.size (.slice mA (outOf n r sl q ws).marks.length mc) (outOf n r sl q ws).marks) ∧ ∀ S, Keeps S w0 w' :=
  alone_ n r q m2 j sl ws wv' lv' cv dv w0 hr5 h.ep.pos h.ep.top h.low hj hk.2.2.2.2 hw hl hm hc hd
theorem round_end {ws' : List Nat} (HR : Rnd w wr D n X ws j wv lv m) (kd sl : Int) (q r : Nat) (hws : ws' = (outOf n r sl q ws).next) (hr : Ep wa D n ws') (kra : Keeps (fun b => b = D) wr wa) (kaz : ∀ S, Keeps S wa wz) (kzk : ∀ S, Keeps S wz wk) (hb : Blk wk X 32 [wv, lv])
    (hz : ∀ w'', Keeps (fun b => b < wr.heap.size) wz w'' → IsWords w'' w''.heap.size s1 [ws'] ∧ IsLists w'' w''.heap.size s2 m') (hm : m' < 1000000) :
    Rnd w ((wk.setCell ⟨X, 0, none⟩ s1).setCell ⟨X, 1, none⟩ s2) D n X ws' (j + 1) s1 s2 m' := by
  have hn := HR.new
  have hX := HR.world.lt
  have hD := HR.ep.lt
  have kf : Keeps (· = X) wk ((wk.setCell ⟨X, 0, none⟩ s1).setCell ⟨X, 1, none⟩ s2) := (Keeps.here s1).trans (Keeps.here s2)
  have bw : Blk ((wk.setCell ⟨X, 0, none⟩ s1).setCell ⟨X, 1, none⟩ s2) X 32 [s1, s2] := by simpa using (hb.put 0 s1).put 1 s2
  generalize (wk.setCell ⟨X, 0, none⟩ s1).setCell ⟨X, 1, none⟩ s2 = wf at *
  have kaf : Keeps (· = X) wa wf := ((kaz _).trans (kzk _)).trans kf
  refine ⟨hr.keeps kaf HR.ne, by rw [hws]; exact HR.low.next r sl q, bw, fun w'' kk => hz w'' (((kzk _).trans (kf.mono (fun b _ z => by omega))).trans (kk.mono (fun b _ z => by omega))), hm, HR.ne, hn, (HR.keep.trans (kra.mono (fun b _ z => by omega))).trans (kaf.mono (fun b _ z => by omega))⟩
end
end Go.Proofs.Ytebjmmckejbklaa.rf9
