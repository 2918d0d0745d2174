/-
  OnceMakes' body.
-/
import Derived.Test.YthleddflihidcabGreatRf4a
import Derived.Test.YthleddflihidcabGreatRf4g
import Derived.Test.YthleddflihidcabGreatMzSame
import Derived.Test.YthleddflihidcabGreatOnWk
import Derived.Test.YthleddflihidcabGreatOnTN
import Derived.Test.YthleddflihidcabGreatOnUM
set_option linter.unusedVariables false
namespace Go.Proofs.YthleddflihidcabGreat.oc
open Go.RowKit Go.Proofs.YthleddflihidcabGreat.oc Go.Proofs.YthleddflihidcabGreat.mz Go.Proofs.YthleddflihidcabGreat.at_ Go.Proofs.YthleddflihidcabGreat.on Go.Proofs.YthleddflihidcabGreat.rf4
/-- what the loop's head finds: k rounds were had -/
structure Rnd (w wr : World) (d : Int) (v : Nat) (c : Int) (k C O W : Nat) (wv lv : Value) (m : Nat) : Prop where
  once : onU.Once_ wr O (.func (.func 7) #[] #[.pointer (some ⟨w.heap.size, 0, none⟩), .pointer (some ⟨C, 0, none⟩)]) (slotOf d v c k)
  make : Blk wr w.heap.size 24 [.int .i64 d, .int .u64 (v : Int), .int .i64 c]
  cntr : wr.cell? ⟨C, 0, none⟩ = some (.int .i64 (cnt k))
  frz : k = 0 → wr.frozen? ⟨C, 0, none⟩ = false
  world : Blk wr W 38 [wv, lv]
  read : ∀ w'', Keeps (fun b => b = C ∨ b = O ∨ b = W) wr w'' → IsWords w'' w''.heap.size wv [[word k d]] ∧ IsLists w'' w''.heap.size lv m
  small : m < 1000000
  ord : w.heap.size < C ∧ C < O ∧ O < W
  keep : Keeps (fun _ => False) w wr
/-- what stands ahead of the loop -/
theorem begins {w wc wo ww : World} {d : Int} {v : Nat} {c : Int} {wv lv : Value} {C : Nat} (hM : Blk wc w.heap.size 24 [.int .i64 d, .int .u64 (v : Int), .int .i64 c]) (hC : Blk wc C 3 [.int .i64 0]) (hlt : w.heap.size < C) (kc : Keeps (fun _ => False) w wc)
    (ho : onU.Once_ wo wc.heap.size (.func (.func 7) #[] #[.pointer (some ⟨w.heap.size, 0, none⟩), .pointer (some ⟨C, 0, none⟩)]) (sl 0 0 0 4294967296 0 (.int .u64 0) 0)) (ko : ∀ S, Keeps S wc wo)
    (hr : ∀ w'', Keeps (fun b => b < wo.heap.size ∨ ww.heap.size ≤ b) ww w'' → IsWords w'' w''.heap.size wv [[0]] ∧ IsLists w'' w''.heap.size lv 1) (kw : ∀ S, Keeps S wo ww) :
    Rnd w (ww.alloc (.cells #[wv, lv] 38)) d v c 0 C wc.heap.size ww.heap.size wv lv 1 := by
  obtain ⟨w', hw'⟩ : ∃ w', w' = ww.alloc (.cells #[wv, lv] 38) := ⟨_, rfl⟩
  have k1 : ∀ S, Keeps S ww w' := fun S => by rw [hw']; exact (Keeps.refl S ww).alloc _
  have k2 : ∀ S, Keeps S wc w' := fun S => ((ko S).trans (kw S)).trans (k1 S)
  have z1 := ho.lt
  have z2 := (kw (fun _ => False)).size
  have z3 := hC.lt
  have z4 := (ko (fun _ => False)).size
  have e3 : slotOf d v c 0 = sl 0 0 0 4294967296 0 (.int .u64 0) 0 := by simp [slotOf]
  have bw := Blk.new ww 38 #[wv, lv]
  rw [← hw'] at bw ⊢
  refine ⟨?_, Blk.keeps hM (k2 (fun _ => False)) (fun z => z), ?_, ?_, bw, fun w'' kk => hr w'' ((k1 _).trans (kk.mono (fun b _ z => ?_))), by omega, ⟨hlt, z3, by omega⟩, kc.trans (k2 _)⟩
  · rw [e3]
    exact Slot.keeps (Slot.keeps ho (kw (fun _ => False)) (fun z => z)) (k1 (fun _ => False)) (fun z => z)
  · exact Keeps.cell (k2 (fun _ => False)) (show wc.cell? ⟨C, 0, none⟩ = some (.int .i64 (cnt 0)) by rw [hC.cell]; rfl) (fun z => z)
  · exact fun _ => rf4.frozen_keeps (k2 (fun _ => False)) hC.lt (hC.frozen 0) (fun z => z)
  · rcases z with z | z | z
    · left; omega
    · left; omega
    · right; omega
theorem round_end {w wr wa wz wk : World} {d : Int} {v : Nat} {c : Int} {k C O W m m' : Nat} {wv lv s1 s2 : Value} (HR : Rnd w wr d v c k C O W wv lv m) (hW : W < wr.heap.size) (kra : Keeps (fun b => b = C ∨ b = O) wr wa) (kaz : ∀ S, Keeps S wa wz) (kzk : ∀ S, Keeps S wz wk)
    (ho : onU.Once_ wk O (.func (.func 7) #[] #[.pointer (some ⟨w.heap.size, 0, none⟩), .pointer (some ⟨C, 0, none⟩)]) (slotOf d v c 1)) (hc : wk.cell? ⟨C, 0, none⟩ = some (.int .i64 1)) (hb : Blk wk W 38 [wv, lv])
    (hz : ∀ w'', Keeps (fun b => b < wr.heap.size) wz w'' → IsWords w'' w''.heap.size s1 [[stN d]] ∧ IsLists w'' w''.heap.size s2 m') (hm : m' < 1000000) :
    Rnd w ((wk.setCell ⟨W, 0, none⟩ s1).setCell ⟨W, 1, none⟩ s2) d v c (k + 1) C O W s1 s2 m' := by
  have ord := HR.ord
  have kf : Keeps (· = W) wk ((wk.setCell ⟨W, 0, none⟩ s1).setCell ⟨W, 1, none⟩ s2) := (Keeps.here s1).trans (Keeps.here s2)
  have bw : Blk ((wk.setCell ⟨W, 0, none⟩ s1).setCell ⟨W, 1, none⟩ s2) W 38 [s1, s2] := by simpa using (hb.put 0 s1).put 1 s2
  generalize (wk.setCell ⟨W, 0, none⟩ s1).setCell ⟨W, 1, none⟩ s2 = wf at *
  have kall : Keeps (fun b => b = C ∨ b = O ∨ b = W) wr wf := (((kra.mono (fun b _ z => z.elim .inl (fun q => .inr (.inl q)))).trans (kaz _)).trans (kzk _)).trans (kf.mono (fun b _ z => .inr (.inr z)))
  refine ⟨?_, Blk.keeps HR.make kall (by omega), ?_, fun h => by omega, bw, fun w'' kk => ?_, hm, ord, ?_⟩
  · rw [slotOf_succ]
    exact Slot.keeps ho kf (by omega)
  · have e : cnt (k + 1) = 1 := by simp [cnt]
    rw [e]
    exact Keeps.cell kf hc (by omega)
  · have e : word (k + 1) d = stN d := by simp [word]
    rw [e]
    refine hz w'' (((kzk _).trans (kf.mono (fun b _ z => by omega))).trans (kk.mono (fun b _ z => ?_)))
    have hC := Keeps.lt_cell HR.cntr
    have hO := HR.once.lt
    rcases z with z | z | z <;> omega
  · have kw := HR.keep.size
    exact ⟨Nat.le_trans kw kall.size, fun b hb _ => by rw [kall.block b (by omega) (by omega), HR.keep.block b hb (fun z => z)], HR.keep.same.trans kall.same⟩
theorem wrap_e (d c : Int) : IntKind.u64.wrap (eN d c) = ((t0 d c : Nat) : Int) := by
  rw [wrap_u64]
  unfold eN t0
  by_cases h : d = 1
  · simp only [h, if_true]; unfold erW; omega
  · simp [h]
set_option maxRecDepth 100000 in
set_option maxHeartbeats 8000000 in
theorem walk_onceMakes (n : Int) (d : Int) (v : Nat) (c t : Int) (w : World) (hv : v < 18446744073709551616) (ht1 : -9223372036854775808 ≤ t) (ht2 : t ≤ 9223372036854775807) :
    Calls Tryz.prog 3 #[.int .i64 n, .agg #[.int .i64 d, .int .u64 (v : Int), .int .i64 c], .int .i64 t] w fun e w' => e = .returned (.bool true) ∧ Below w.heap.size w w' := by
  have hmf : ∀ (fn : Fn) (first cap : Array Value) (w : World), (Instr.makeFunc fn first cap).run Tryz.prog w = .ok (.func fn first cap) w := fun _ _ _ _ => rfl
  obtain ⟨w1, hw1, k1, b1⟩ := box_make d v c w
  have HW1 := Lib.hid hw1
  have K1 : Hid (∀ S, Keeps S w w1) := Lib.hid k1
  have B1 := Lib.hid b1
  clear hw1 k1 b1
  have hnp : ∀ w : World, (binOp .neq 25 (.pointer none) (.pointer none)).run Tryz.prog w = .ok (.bool false) w := fun w => by kernel_rfl
  have cases3 : (1 ≤ n ∧ n ≤ 1024) ∨ n < 1 ∨ 1024 < n := by omega
  rcases cases3 with hn | hn | hn
  all_goals
    first
    | (obtain ⟨N, rfl⟩ := Int.eq_ofNat_of_zero_le (show 0 ≤ n by omega)
       have hd1 : decide ((N : Int) < 1) = false := decide_eq_false (by omega)
       have hd2 : decide (1024 < (N : Int)) = false := decide_eq_false (by omega)
       have HT := Lib.hid (onI.newTable_ok N 5 #[] w1 (by omega) (by omega))
       clear hn
       go_enter Tryz.func3, Tryz.ntmps3
       go_wp2_with fail
       rw [← HW1.out]
       go_wp2_with fail
       refine HT.out.mono ?_
       rintro e w2 ⟨X, B, rfl, _, _, _, k2⟩
       have K2 : Hid (∀ S, Keeps S w1 w2) := Lib.hid k2
       clear k2)
    | (have HT := Lib.hid (onI.newTable_arg n 5 #[] w1 (by omega))
       have hd1 : decide (n < 1) = true := decide_eq_true hn
       go_enter Tryz.func3, Tryz.ntmps3
       go_wp2_with fail
       rw [← HW1.out]
       go_wp2_with fail
       refine HT.out.mono ?_
       rintro e w2 ⟨rfl, h2⟩
       have K2 : Hid (∀ S, Keeps S w1 w2) := Lib.hid (fun S => by rw [← h2]; exact Keeps.refl S w1)
       clear h2)
    | (have HT := Lib.hid (onI.newTable_arg n 5 #[] w1 (by omega))
       have hd1 : decide (n < 1) = false := decide_eq_false (by omega)
       have hd2 : decide (1024 < n) = true := decide_eq_true hn
       go_enter Tryz.func3, Tryz.ntmps3
       go_wp2_with fail
       rw [← HW1.out]
       go_wp2_with fail
       refine HT.out.mono ?_
       rintro e w2 ⟨rfl, h2⟩
       have K2 : Hid (∀ S, Keeps S w1 w2) := Lib.hid (fun S => by rw [← h2]; exact Keeps.refl S w1)
       clear h2)
    have bM2 := Blk.keeps B1.out (K2.out (fun _ => False)) (fun z => z)
    obtain ⟨wc, hwc⟩ : ∃ wc, wc = w2.alloc (.cells #[.int .i64 0] 3) := ⟨_, rfl⟩
    have bC : Blk wc w2.heap.size 3 [.int .i64 0] := by rw [hwc]; exact Blk.new w2 _ _
    have bM : Blk wc w.heap.size 24 [.int .i64 d, .int .u64 (v : Int), .int .i64 c] := by rw [hwc]; exact bM2.alloc _
    have kc : Keeps (fun _ => False) w wc := by rw [hwc]; exact ((K1.out _).trans (K2.out _)).alloc _
    have hCl : w.heap.size < w2.heap.size := bM2.lt
    have HWC := Lib.hid hwc
    clear hwc bM2
    go_wp2_with fail
    rw [← HWC.out]
    refine (onU.new_ _ _ wc).mono ?_
    rintro e wo ⟨rfl, oo, ko⟩
    have OO := Lib.hid oo
    have KO : Hid (∀ S, Keeps S wc wo) := Lib.hid ko
    clear oo ko
    go_wp2_with fail
    refine (rf4.world_ wo).mono ?_
    rintro e ww ⟨wv, lv, rfl, hr, kw⟩
    obtain ⟨⟨A1, c1, rfl, _⟩, ⟨A2, c2, rfl, _⟩⟩ := hr ww (Keeps.refl _ _)
    have hbeg := begins bM bC hCl kc OO.out KO.out hr kw
    have HBEG := Lib.hid hbeg
    clear hbeg hr kw bM bC kc hCl OO KO HWC
    go_wp2
    generalize ww.alloc (.cells #[.slice A1 1 c1, .slice A2 1 c2] 38) = wst at *
    generalize wc.heap.size = O at *
    generalize w2.heap.size = C at *
    generalize ww.heap.size = W at *
    have hr0 : 0 ≤ t % (5 : Int) := Int.emod_nonneg _ (by omega)
    have hr1 : t % (5 : Int) < 5 := Int.emod_lt_of_pos _ (by omega)
    have HWI := fun wr : World => Lib.hid (within_ t 5 wr (by omega) (by omega) ht1 ht2)
    have hcast : ((5 : Nat) : Int) = 5 := rfl
    simp only [hcast] at HWI
    generalize t % (5 : Int) = r at *
    clear hcast
    go_loopw [12] (fun i wr => ∃ (k : Nat) (A1 : Option Addr) (c1 : Nat) (A2 : Option Addr) (c2 m : Nat), k ≤ 5 ∧ i = .int .i64 k ∧ Rnd w wr d v c k C O W (.slice A1 1 c1) (.slice A2 m c2) m) (fun i _ => 6 - (intOf i).toNat)
    case atStart => exact ⟨0, A1, c1, A2, c2, 1, Nat.zero_le _, rfl, HBEG.out⟩
    case round =>
      clear HBEG
      obtain ⟨k, A1, c1, A2, c2, m, hk, rfl, hR⟩ := hrel
      have HR := Lib.hid hR
      clear hR
      by_cases hlt : (k : Int) < 1 + r
      · have HK5 : Hid (k < 5) := Lib.hid (by omega)
        go_wp2_with fail
        refine (HWI wr).out.mono ?_
        rintro e w' ⟨rfl, rfl⟩
        go_wp2_with fail
        refine (new_notes wr).mono ?_
        rintro e wn ⟨rfl, nn, kn⟩
        have hord := HR.out.ord
        have hOl := HR.out.once.lt
        have hWl := HR.out.world.lt
        have hask := ask_ d v c k O w.heap.size C wr.heap.size _ wn (Slot.keeps HR.out.once (kn (fun _ => False)) (fun z => z)) (Blk.keeps HR.out.make (kn (fun _ => False)) (fun z => z)) (Keeps.cell (kn (fun _ => False)) HR.out.cntr (fun z => z)) (fun h0 => rf4.frozen_keeps (kn (fun _ => False)) (Keeps.lt_cell HR.out.cntr) (HR.out.frz h0) (fun z => z)) nn hOl (by omega) (by omega) (by omega) (by omega) (by omega)
        have HA := Lib.hid hask
        have KN : Hid (∀ S, Keeps S wr wn) := Lib.hid kn
        have ORD : Hid (w.heap.size < C ∧ C < O ∧ O < W ∧ W < wr.heap.size) := Lib.hid ⟨hord.1, hord.2.1, hord.2.2, hWl⟩
        clear hask nn kn hord hOl hWl
        go_wp2_with fail
        refine HA.out.mono ?_
        rintro e wa ⟨rfl, oa, ca, na, ka⟩
        have kra : Keeps (fun b => b = C ∨ b = O) wr wa := ((KN.out _).trans ka).mono (fun x hx z => by
          rcases z with z | z | z
          · exact .inr z
          · exact .inl z
          · omega)
        have ord := ORD.out
        have bMa := Blk.keeps HR.out.make kra (by omega)
        have bWa := Blk.keeps HR.out.world kra (by omega)
        have m0 : wa.cell? ⟨w.heap.size, 0, none⟩ = some (.int .i64 d) := by rw [bMa.cell]; rfl
        have m1 : wa.cell? ⟨w.heap.size, 1, none⟩ = some (.int .u64 (v : Int)) := by rw [bMa.cell]; rfl
        have m2 : wa.cell? ⟨w.heap.size, 2, none⟩ = some (.int .i64 c) := by rw [bMa.cell]; rfl
        have x0 : wa.cell? ⟨W, 0, none⟩ = some (.slice A1 1 c1) := by rw [bWa.cell]; rfl
        have x1 : wa.cell? ⟨W, 1, none⟩ = some (.slice A2 m c2) := by rw [bWa.cell]; rfl
        have OA := Lib.hid oa
        have CA := Lib.hid ca
        have NA := Lib.hid na
        have KA := Lib.hid ka
        have KRA := Lib.hid kra
        clear oa ca na ka kra ord bMa bWa
        go_wp2_with fail
        go_region_held3 (fun w' => w'.cell? ⟨w.heap.size, 0, none⟩ = some (.int .i64 d) ∧ w'.cell? ⟨w.heap.size, 1, none⟩ = some (.int .u64 (v : Int)) ∧ w'.cell? ⟨w.heap.size, 2, none⟩ = some (.int .i64 c) ∧ w'.cell? ⟨W, 0, none⟩ = some (.slice A1 1 c1) ∧ w'.cell? ⟨W, 1, none⟩ = some (.slice A2 m c2))
          (first | exact ⟨m0, m1, m2, x0, x1⟩ | exact ⟨p0, p1, p2, y0, y1⟩ | exact ⟨alloc_cell m0, alloc_cell m1, alloc_cell m2, alloc_cell x0, alloc_cell x1⟩ | exact ⟨alloc_cell p0, alloc_cell p1, alloc_cell p2, alloc_cell y0, alloc_cell y1⟩ | exact ⟨q0, q1, q2, z0, z1⟩ | exact ⟨alloc_cell q0, alloc_cell q1, alloc_cell q2, alloc_cell z0, alloc_cell z1⟩ | exact ⟨two_cell q0 (Nat.ne_of_lt (Keeps.lt_cell p0)), two_cell q1 (Nat.ne_of_lt (Keeps.lt_cell p0)), two_cell q2 (Nat.ne_of_lt (Keeps.lt_cell p0)), two_cell z0 (Nat.ne_of_lt (Keeps.lt_cell y0)), two_cell z1 (Nat.ne_of_lt (Keeps.lt_cell y0))⟩ | exact ⟨two_cell q0 (Nat.ne_of_lt (Keeps.lt_cell m0)), two_cell q1 (Nat.ne_of_lt (Keeps.lt_cell m0)), two_cell q2 (Nat.ne_of_lt (Keeps.lt_cell m0)), two_cell z0 (Nat.ne_of_lt (Keeps.lt_cell x0)), two_cell z1 (Nat.ne_of_lt (Keeps.lt_cell x0))⟩)
          ((first
            | (go_at_call 15; refine (rf4.get_ d v c _).mono ?_; rintro e wg ⟨cv, dv, rfl, hcode, hdata, kg⟩; have p0 : wg.cell? ⟨w.heap.size, 0, none⟩ = some (.int .i64 d) := (by first | exact Keeps.cell (kg (fun _ => False)) (show wa.drew.cell? _ = _ from m0) (fun z => z) | exact Keeps.cell (kg (fun _ => False)) (alloc_cell (show wa.drew.cell? _ = _ from m0)) (fun z => z)); have p1 : wg.cell? ⟨w.heap.size, 1, none⟩ = some (.int .u64 (v : Int)) := (by first | exact Keeps.cell (kg (fun _ => False)) (show wa.drew.cell? _ = _ from m1) (fun z => z) | exact Keeps.cell (kg (fun _ => False)) (alloc_cell (show wa.drew.cell? _ = _ from m1)) (fun z => z)); have p2 : wg.cell? ⟨w.heap.size, 2, none⟩ = some (.int .i64 c) := (by first | exact Keeps.cell (kg (fun _ => False)) (show wa.drew.cell? _ = _ from m2) (fun z => z) | exact Keeps.cell (kg (fun _ => False)) (alloc_cell (show wa.drew.cell? _ = _ from m2)) (fun z => z)); have y0 : wg.cell? ⟨W, 0, none⟩ = some (.slice A1 1 c1) := (by first | exact Keeps.cell (kg (fun _ => False)) (show wa.drew.cell? _ = _ from x0) (fun z => z) | exact Keeps.cell (kg (fun _ => False)) (alloc_cell (show wa.drew.cell? _ = _ from x0)) (fun z => z)); have y1 : wg.cell? ⟨W, 1, none⟩ = some (.slice A2 m c2) := (by first | exact Keeps.cell (kg (fun _ => False)) (show wa.drew.cell? _ = _ from x1) (fun z => z) | exact Keeps.cell (kg (fun _ => False)) (alloc_cell (show wa.drew.cell? _ = _ from x1)) (fun z => z)); have HCODE := Lib.hid hcode; have HDATA := Lib.hid hdata; have KG : Hid (∀ S, Keeps S wa wg) := Lib.hid (fun S => (by first | exact ((Keeps.refl S wa).drew).trans (kg S) | exact (((Keeps.refl S wa).drew).alloc _).trans (kg S))); (first | (have bX := Blk.keeps (Blk.new wa.drew 38 #[.slice none 0 0, .slice none 0 0]) (kg (fun _ => False)) (fun z => z)) | skip); clear hcode hdata kg)
            | (go_at_call 14; refine (alone_ d v c k m (.slice A1 1 c1) (.slice A2 m c2) cv dv (wg) hv (HR.out.read _ (((KRA.out.mono (fun b _ z => z.elim .inl (fun q => .inr (.inl q)))).trans (KG.out _)))).1 (HR.out.read _ (((KRA.out.mono (fun b _ z => z.elim .inl (fun q => .inr (.inl q)))).trans (KG.out _)))).2 HR.out.small (HCODE.out) (HDATA.out)).mono ?_; rintro e wl ⟨tA, tc, A1', c1', A2', c2', m', mA, mc, rfl, hm', hrd, kl⟩; have q0 : wl.cell? ⟨w.heap.size, 0, none⟩ = some (.int .i64 d) := (by first | exact Keeps.cell (kl (fun _ => False)) p0 (fun z => z) | exact Keeps.cell (kl (fun _ => False)) (alloc_cell p0) (fun z => z)); have q1 : wl.cell? ⟨w.heap.size, 1, none⟩ = some (.int .u64 (v : Int)) := (by first | exact Keeps.cell (kl (fun _ => False)) p1 (fun z => z) | exact Keeps.cell (kl (fun _ => False)) (alloc_cell p1) (fun z => z)); have q2 : wl.cell? ⟨w.heap.size, 2, none⟩ = some (.int .i64 c) := (by first | exact Keeps.cell (kl (fun _ => False)) p2 (fun z => z) | exact Keeps.cell (kl (fun _ => False)) (alloc_cell p2) (fun z => z)); have z0 : wl.cell? ⟨W, 0, none⟩ = some (.slice A1 1 c1) := (by first | exact Keeps.cell (kl (fun _ => False)) y0 (fun z => z) | exact Keeps.cell (kl (fun _ => False)) (alloc_cell y0) (fun z => z)); have z1 : wl.cell? ⟨W, 1, none⟩ = some (.slice A2 m c2) := (by first | exact Keeps.cell (kl (fun _ => False)) y1 (fun z => z) | exact Keeps.cell (kl (fun _ => False)) (alloc_cell y1) (fun z => z)); have HM' : Hid (m' < 1000000) := Lib.hid hm'; (first | (have bY := Blk.keeps bX (kl (fun _ => False)) (fun z => z); have X0 : wl.cell? ⟨wa.heap.size, 0, none⟩ = some (.slice none 0 0) := ((show wl.cell? ⟨wa.drew.heap.size, 0, none⟩ = _ from by rw [bY.cell]; rfl)); have X1 : wl.cell? ⟨wa.heap.size, 1, none⟩ = some (.slice none 0 0) := ((show wl.cell? ⟨wa.drew.heap.size, 1, none⟩ = _ from by rw [bY.cell]; rfl)); have F0 : wl.frozen? ⟨wa.heap.size, 0, none⟩ = false := bY.frozen 0; have F1 : wl.frozen? ⟨wa.heap.size, 1, none⟩ = false := bY.frozen 1) | (have bY := Blk.keeps (Blk.new wg 38 #[.slice none 0 0, .slice none 0 0]) (kl (fun _ => False)) (fun z => z); have X0 : wl.cell? ⟨wg.heap.size, 0, none⟩ = some (.slice none 0 0) := (by rw [bY.cell]; rfl); have X1 : wl.cell? ⟨wg.heap.size, 1, none⟩ = some (.slice none 0 0) := (by rw [bY.cell]; rfl); have F0 : wl.frozen? ⟨wg.heap.size, 0, none⟩ = false := bY.frozen 0; have F1 : wl.frozen? ⟨wg.heap.size, 1, none⟩ = false := bY.frozen 1) | skip); have HRD := Lib.hid hrd; have KL := Lib.hid kl; clear hm' hrd kl)
            | (go_at_call 14; refine (alone_ d v c k m (.slice A1 1 c1) (.slice A2 m c2) cv dv (wg.alloc _) hv (HR.out.read _ ((((KRA.out.mono (fun b _ z => z.elim .inl (fun q => .inr (.inl q)))).trans (KG.out _)).alloc _))).1 (HR.out.read _ ((((KRA.out.mono (fun b _ z => z.elim .inl (fun q => .inr (.inl q)))).trans (KG.out _)).alloc _))).2 HR.out.small (HCODE.out.lift (S := fun _ => False) ((Keeps.refl _ wg).alloc _) (fun _ z => z) (by simp)) (HDATA.out.lift (S := fun _ => False) ((Keeps.refl _ wg).alloc _) (fun _ z => z) (by simp))).mono ?_; rintro e wl ⟨tA, tc, A1', c1', A2', c2', m', mA, mc, rfl, hm', hrd, kl⟩; have q0 : wl.cell? ⟨w.heap.size, 0, none⟩ = some (.int .i64 d) := (by first | exact Keeps.cell (kl (fun _ => False)) p0 (fun z => z) | exact Keeps.cell (kl (fun _ => False)) (alloc_cell p0) (fun z => z)); have q1 : wl.cell? ⟨w.heap.size, 1, none⟩ = some (.int .u64 (v : Int)) := (by first | exact Keeps.cell (kl (fun _ => False)) p1 (fun z => z) | exact Keeps.cell (kl (fun _ => False)) (alloc_cell p1) (fun z => z)); have q2 : wl.cell? ⟨w.heap.size, 2, none⟩ = some (.int .i64 c) := (by first | exact Keeps.cell (kl (fun _ => False)) p2 (fun z => z) | exact Keeps.cell (kl (fun _ => False)) (alloc_cell p2) (fun z => z)); have z0 : wl.cell? ⟨W, 0, none⟩ = some (.slice A1 1 c1) := (by first | exact Keeps.cell (kl (fun _ => False)) y0 (fun z => z) | exact Keeps.cell (kl (fun _ => False)) (alloc_cell y0) (fun z => z)); have z1 : wl.cell? ⟨W, 1, none⟩ = some (.slice A2 m c2) := (by first | exact Keeps.cell (kl (fun _ => False)) y1 (fun z => z) | exact Keeps.cell (kl (fun _ => False)) (alloc_cell y1) (fun z => z)); have HM' : Hid (m' < 1000000) := Lib.hid hm'; (first | (have bY := Blk.keeps bX (kl (fun _ => False)) (fun z => z); have X0 : wl.cell? ⟨wa.heap.size, 0, none⟩ = some (.slice none 0 0) := ((show wl.cell? ⟨wa.drew.heap.size, 0, none⟩ = _ from by rw [bY.cell]; rfl)); have X1 : wl.cell? ⟨wa.heap.size, 1, none⟩ = some (.slice none 0 0) := ((show wl.cell? ⟨wa.drew.heap.size, 1, none⟩ = _ from by rw [bY.cell]; rfl)); have F0 : wl.frozen? ⟨wa.heap.size, 0, none⟩ = false := bY.frozen 0; have F1 : wl.frozen? ⟨wa.heap.size, 1, none⟩ = false := bY.frozen 1) | (have bY := Blk.keeps (Blk.new wg 38 #[.slice none 0 0, .slice none 0 0]) (kl (fun _ => False)) (fun z => z); have X0 : wl.cell? ⟨wg.heap.size, 0, none⟩ = some (.slice none 0 0) := (by rw [bY.cell]; rfl); have X1 : wl.cell? ⟨wg.heap.size, 1, none⟩ = some (.slice none 0 0) := (by rw [bY.cell]; rfl); have F0 : wl.frozen? ⟨wg.heap.size, 0, none⟩ = false := bY.frozen 0; have F1 : wl.frozen? ⟨wg.heap.size, 1, none⟩ = false := bY.frozen 1) | skip); have HRD := Lib.hid hrd; have KL := Lib.hid kl; clear hm' hrd kl)))
        all_goals
          try (rename_i hheld; clear hheld)
          first
            | (obtain ⟨wz, hwz⟩ : ∃ wz, wz = wl.alloc (.cells #[.slice A1' 1 c1', .slice A2' m' c2'] 38) := ⟨_, rfl⟩
               have hsz : wr.heap.size ≤ wg.heap.size := Nat.le_trans KRA.out.size (KG.out (fun _ => False)).size
               have hsa : wa.heap.size ≤ wg.heap.size := (KG.out (fun _ => False)).size
               obtain ⟨X, hX⟩ : ∃ X, X = wl.heap.size := ⟨_, rfl⟩
               have bz : Blk wz X 38 [.slice A1' 1 c1', .slice A2' m' c2'] := by rw [hwz, hX]; exact Blk.new wl _ _
               have hsl : wg.heap.size ≤ wl.heap.size := (KL.out (fun _ => False)).size
               have kz : ∀ S, Keeps S wa wz := fun S => by rw [hwz]; exact (((KG.out S).trans (KL.out S))).alloc _
               have hz : (∀ w'', Keeps (fun b => b < wr.heap.size) wz w'' → IsData w'' w''.heap.size (.slice tA 2 tc) [t0 d c, t1 d v] ∧ IsWords w'' w''.heap.size (.slice A1' 1 c1') [[stN d]] ∧ IsLists w'' w''.heap.size (.slice A2' m' c2') m' ∧ IsMarks w'' w''.heap.size (.slice mA (marks k).length mc) (marks k)) := fun w'' kk => HRD.out w'' ((show Keeps _ wl wz by rw [hwz]; exact (Keeps.refl _ wl).alloc _).trans (kk.mono (fun b _ z => by omega)))
               rw [← hwz, ← hX]
               have BZ := Lib.hid bz
               have KZ : Hid (∀ S, Keeps S wa wz) := Lib.hid kz
               have HZ : Hid (∀ w'', Keeps (fun b => b < wr.heap.size) wz w'' → IsData w'' w''.heap.size (.slice tA 2 tc) [t0 d c, t1 d v] ∧ IsWords w'' w''.heap.size (.slice A1' 1 c1') [[stN d]] ∧ IsLists w'' w''.heap.size (.slice A2' m' c2') m' ∧ IsMarks w'' w''.heap.size (.slice mA (marks k).length mc) (marks k)) := Lib.hid hz
               have HXW : Hid (wr.heap.size ≤ X) := Lib.hid (by have := KRA.out.size; omega)
               clear hwz hX bz kz hz hsz hsa)
            | (obtain ⟨wz, hwz⟩ : ∃ wz, wz = (wl.setCell ⟨wg.heap.size, 0, none⟩ (.slice A1' 1 c1')).setCell ⟨wg.heap.size, 1, none⟩ (.slice A2' m' c2') := ⟨_, rfl⟩
               have hsz : wr.heap.size ≤ wg.heap.size := Nat.le_trans KRA.out.size (KG.out (fun _ => False)).size
               have hsa : wa.heap.size ≤ wg.heap.size := (KG.out (fun _ => False)).size
               obtain ⟨X, hX⟩ : ∃ X, X = wg.heap.size := ⟨_, rfl⟩
               have bz : Blk wz X 38 [.slice A1' 1 c1', .slice A2' m' c2'] := by rw [hwz, hX]; simpa using (bY.put 0 (.slice A1' 1 c1')).put 1 (.slice A2' m' c2')
               have kz : ∀ S, Keeps S wa wz := fun S => by rw [hwz]; exact (((((KG.out S).alloc _).trans (KL.out S))).setCell (.inr hsa) _).setCell (.inr hsa) _
               have hz : (∀ w'', Keeps (fun b => b < wr.heap.size) wz w'' → IsData w'' w''.heap.size (.slice tA 2 tc) [t0 d c, t1 d v] ∧ IsWords w'' w''.heap.size (.slice A1' 1 c1') [[stN d]] ∧ IsLists w'' w''.heap.size (.slice A2' m' c2') m' ∧ IsMarks w'' w''.heap.size (.slice mA (marks k).length mc) (marks k)) := fun w'' kk => HRD.out w'' ((show Keeps _ wl wz by rw [hwz]; exact ((Keeps.refl _ wl).setCell (.inl (show wg.heap.size < (wg.alloc _).heap.size by simp)) _).setCell (.inl (show wg.heap.size < (wg.alloc _).heap.size by simp)) _).trans (kk.mono (fun b _ z => by show b < (wg.alloc _).heap.size; rw [World.size_alloc]; omega)))
               rw [← hwz, ← hX]
               have BZ := Lib.hid bz
               have KZ : Hid (∀ S, Keeps S wa wz) := Lib.hid kz
               have HZ : Hid (∀ w'', Keeps (fun b => b < wr.heap.size) wz w'' → IsData w'' w''.heap.size (.slice tA 2 tc) [t0 d c, t1 d v] ∧ IsWords w'' w''.heap.size (.slice A1' 1 c1') [[stN d]] ∧ IsLists w'' w''.heap.size (.slice A2' m' c2') m' ∧ IsMarks w'' w''.heap.size (.slice mA (marks k).length mc) (marks k)) := Lib.hid hz
               have HXW : Hid (wr.heap.size ≤ X) := Lib.hid (by have := KRA.out.size; omega)
               clear hwz hX bz kz hz hsz hsa)
            | (obtain ⟨wz, hwz⟩ : ∃ wz, wz = (wl.setCell ⟨wa.heap.size, 0, none⟩ (.slice A1' 1 c1')).setCell ⟨wa.heap.size, 1, none⟩ (.slice A2' m' c2') := ⟨_, rfl⟩
               have hsz : wr.heap.size ≤ wg.heap.size := Nat.le_trans KRA.out.size (KG.out (fun _ => False)).size
               have hsa : wa.heap.size ≤ wg.heap.size := (KG.out (fun _ => False)).size
               obtain ⟨X, hX⟩ : ∃ X, X = wa.heap.size := ⟨_, rfl⟩
               have bz : Blk wz X 38 [.slice A1' 1 c1', .slice A2' m' c2'] := by rw [hwz, hX]; simpa using (bY.put 0 (.slice A1' 1 c1')).put 1 (.slice A2' m' c2')
               have kz : ∀ S, Keeps S wa wz := fun S => by rw [hwz]; exact ((((KG.out S).trans (KL.out S))).setCell (.inr (Nat.le_refl wa.heap.size)) _).setCell (.inr (Nat.le_refl wa.heap.size)) _
               have hz : (∀ w'', Keeps (fun b => b < wr.heap.size) wz w'' → IsData w'' w''.heap.size (.slice tA 2 tc) [t0 d c, t1 d v] ∧ IsWords w'' w''.heap.size (.slice A1' 1 c1') [[stN d]] ∧ IsLists w'' w''.heap.size (.slice A2' m' c2') m' ∧ IsMarks w'' w''.heap.size (.slice mA (marks k).length mc) (marks k)) := fun w'' kk => HRD.out w'' ((show Keeps _ wl wz by rw [hwz]; exact ((Keeps.refl _ wl).setCell (.inl bX.lt) _).setCell (.inl bX.lt) _).trans (kk.mono (fun b _ z => by show b < wg.heap.size; omega)))
               rw [← hwz, ← hX]
               have BZ := Lib.hid bz
               have KZ : Hid (∀ S, Keeps S wa wz) := Lib.hid kz
               have HZ : Hid (∀ w'', Keeps (fun b => b < wr.heap.size) wz w'' → IsData w'' w''.heap.size (.slice tA 2 tc) [t0 d c, t1 d v] ∧ IsWords w'' w''.heap.size (.slice A1' 1 c1') [[stN d]] ∧ IsLists w'' w''.heap.size (.slice A2' m' c2') m' ∧ IsMarks w'' w''.heap.size (.slice mA (marks k).length mc) (marks k)) := Lib.hid hz
               have HXW : Hid (wr.heap.size ≤ X) := Lib.hid (by have := KRA.out.size; omega)
               clear hwz hX bz kz hz hsz hsa)
          obtain ⟨F', hna⟩ := NA.out
          have nz := hna.keeps (KZ.out (fun _ => False)) (fun _ _ z => z)
          have cz := Keeps.cell (KZ.out (fun _ => False)) CA.out (fun z => z)
          have oz : onU.Once_ wz O _ _ := Slot.keeps OA.out (KZ.out (fun _ => False)) (fun z => z)
          have hwe := wrap_e d c
          -- the two lists of words
          obtain ⟨w1z, hw1z⟩ : ∃ w1z, w1z = wz.alloc (.cells #[.int .u64 ((t0 d c : Nat) : Int), .int .u64 ((t1 d v : Nat) : Int)] 22) := ⟨_, rfl⟩
          have k1z : ∀ S, Keeps S wz w1z := fun S => by rw [hw1z]; exact (Keeps.refl S wz).alloc _
          have b1z := Blk.new wz 22 #[.int .u64 ((t0 d c : Nat) : Int), .int .u64 ((t1 d v : Nat) : Int)]
          rw [← hw1z] at b1z
          obtain ⟨A8, cap8, e8, rd8⟩ := (HZ.out w1z (k1z _)).1
          injection e8 with e81 e82 e83
          subst e81
          have HSW := Lib.hid (same_words tA (some ⟨wz.heap.size, 0, none⟩) [t0 d c, t1 d v] 2 tc 2 _ _ w1z rfl (by omega) rd8 b1z.rd)
          have HW1Z := Lib.hid hw1z
          have K1Z : Hid (∀ S, Keeps S wz w1z) := Lib.hid k1z
          have NZ := Lib.hid nz
          have CZ := Lib.hid cz
          have OZ := Lib.hid oz
          have hmk : (marks k).length ≤ 3 ∧ marks k ≠ [] := by unfold rf4.marks; split <;> simp
          have HMK : Hid ((marks k).length ≤ 3 ∧ marks k ≠ []) := Lib.hid hmk
          clear hw1z k1z b1z rd8 e83 e82 nz cz oz hmk hna
          go_wp2_with fail
          rw [← HW1Z.out]
          refine HSW.out.mono ?_
          rintro e w' ⟨rfl, dd, rfl⟩
          have HMM := Lib.hid (marks_notes wr.heap.size (w1z.drewN dd) (marks k) F' (NZ.out.keeps ((K1Z.out (fun _ => False)).trans (Keeps.of_drew _ _)) (fun _ _ z => z)) (by have := HMK.out.1; omega) HMK.out.2)
          go_wp2_with fail
          refine HMM.out.mono ?_
          rintro e wm ⟨A9, c9, rfl, im, km⟩
          have kzm : ∀ S, Keeps S wz wm := fun S => ((K1Z.out S).trans (Keeps.of_drew _ _)).trans (km S)
          obtain ⟨A7, cap7, e7, rd7⟩ := (HZ.out wm (kzm _)).2.2.2
          injection e7 with e71 e72 e73
          subst e71
          obtain ⟨A6, cap6, e6, rd6⟩ := im
          injection e6 with e61 e62 e63
          subst e61
          have HSM := Lib.hid (same_marks A9 mA (marks k) (marks k).length c9 mc _ _ wm rfl (by have := HMK.out.1; omega) rd6 rd7)
          have KZM : Hid (∀ S, Keeps S wz wm) := Lib.hid kzm
          clear kzm rd7 rd6 e72 e73 e62 e63 km
          go_wp2_with fail
          refine HSM.out.mono ?_
          rintro e w' ⟨rfl, de, rfl⟩
          obtain ⟨wk, hwk⟩ : ∃ wk, wk = wm.drewN de := ⟨_, rfl⟩
          have kk : ∀ S, Keeps S wz wk := fun S => by rw [hwk]; exact (KZM.out S).trans (Keeps.of_drew _ _)
          have ok' : onU.Once_ wk O _ (slotOf d v c 1) := Slot.keeps OZ.out (kk (fun _ => False)) (fun z => z)
          have ck := Keeps.cell (kk (fun _ => False)) CZ.out (fun z => z)
          have bk := Blk.keeps BZ.out (kk (fun _ => False)) (fun z => z)
          have bW := Blk.keeps (Blk.keeps (Blk.keeps HR.out.world KRA.out (by have := ORD.out; omega)) (KZ.out (fun _ => False)) (fun z => z)) (kk (fun _ => False)) (fun z => z)
          have xx0 : wk.cell? ⟨X, 0, none⟩ = some (.slice A1' 1 c1') := by rw [bk.cell]; rfl
          have xx1 : wk.cell? ⟨X, 1, none⟩ = some (.slice A2' m' c2') := by rw [bk.cell]; rfl
          have ww0 : wk.cell? ⟨W, 0, none⟩ = some (.slice A1 1 c1) := by rw [bW.cell]; rfl
          have ww1 : wk.cell? ⟨W, 1, none⟩ = some (.slice A2 m c2) := by rw [bW.cell]; rfl
          have fw0 := bW.frozen 0
          have fw1 := bW.frozen 1
          have KK : Hid (∀ S, Keeps S wz wk) := Lib.hid kk
          have OK' := Lib.hid ok'
          have CK := Lib.hid ck
          have BW := Lib.hid bW
          obtain ⟨st, dn, mu, wg', en, num, xv, hst, he⟩ := slotOf_st d v c
          have HMD : Hid (Calls Tryz.prog 19 #[.pointer (some ⟨O, 0, none⟩)] wk fun e w' => e = .returned (.int .i64 1) ∧ wk = w') := Lib.hid (onU.made_1 O _ st dn mu wg' en num xv wk hst (by rw [← he]; exact ok'))
          clear kk ok' bk bW he hst
          rw [← hwk]
          clear hwk
          go_wp2_with fail
          refine HMD.out.mono ?_
          rintro e w' ⟨rfl, rfl⟩
          go_wp2
          go_roundw
          case rel => exact ⟨k + 1, A1', c1', A2', c2', m', by have := HK5.out; omega, by go_num, round_end HR.out ORD.out.2.2.2 KRA.out KZ.out KK.out OK'.out CK.out BW.out (fun w'' kk => ⟨(HZ.out w'' kk).2.1, (HZ.out w'' kk).2.2.1⟩) HM'.out⟩
          case measure => have := HK5.out; simp [intOf]; omega
      · go_wp2_with fail
        refine (HWI wr).out.mono ?_
        rintro e w' ⟨rfl, rfl⟩
        go_wp2_with fail
        refine (onI.works_any wr).mono ?_
        rintro e we ⟨rfl, ke⟩
        have kk := HR.out.keep.trans (ke _)
        have KK := Lib.hid kk
        clear kk ke
        go_wp2
        try rw [Exit.noGoto_ret]
        go_ret
        exact ⟨rfl, KK.out.below⟩
end Go.Proofs.YthleddflihidcabGreat.oc
