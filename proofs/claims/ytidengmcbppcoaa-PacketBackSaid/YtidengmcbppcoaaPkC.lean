/-
  packet: middleSize, sumAt, frontSize, mayBe, Check.
-/
import Derived.Test.YtidengmcbppcoaaPkB
set_option linter.unusedVariables false
set_option linter.unusedSimpArgs false
namespace Go.Proofs.Ytidengmcbppcoaa.pk
open Go.RowKit Go.Proofs.Ytidengmcbppcoaa.oc Go.Proofs.Ytidengmcbppcoaa.mz Go.Proofs.Ytidengmcbppcoaa.pf Go.Proofs.Ytidengmcbppcoaa.wh Go.Proofs.Ytidengmcbppcoaa.qk Go.Proofs.Ytidengmcbppcoaa.bys
/-- may the header be -/
structure May (h : Hd) : Prop where
  a : okA h.src
  b : okA h.dst
  v : h.src.v6 = h.dst.v6
  i : h.id ≤ 1048575
  j : h.src.v6 = false → h.id ≤ 65535
  f : h.pr ≠ 6 → h.fl = 0 ∧ h.seq = 0
  p : mids h.pr = 0 → h.sp = 0 ∧ h.dp = 0
open Classical in
noncomputable def may (h : Hd) : Bool := decide (May h)
open Classical in
noncomputable def chkE (h : Hd) : Int := if ¬ May h then 2 else if 2048 < fsz h + mids h.pr + h.dat.length then 4 else 0
open Classical in
theorem may_yes {h : Hd} (m : May h) : may h = true := by unfold may; exact decide_eq_true m
open Classical in
theorem may_no {h : Hd} (m : ¬ May h) : may h = false := by unfold may; exact decide_eq_false m
theorem wpList_load_want {P : Program} {ops : Array Oper} {Q : Exit → Act → World → Prop} {a : Act} {w : World} {rest : List Oper} {o : Oper} (hw : Region.wanted o (yielded ops a.tmps) = true) (ty : TypeId) (x : Operand) (ho : o.op = .load ty x)
    (b off : Nat) (hx : a.eval x = .pointer (some ⟨b, off, none⟩)) (cs : List Value) (d : TypeDesc) (hc : w.rangeAt b off cs)
    (hu : P.underlying ty = some d) (hd : d.isRow = true) (hi : (P.info? ty).map (·.size) = some cs.length)
    (h : wpList P ops Q rest (a.put o.dst (.agg cs.toArray)) w) : wpList P ops Q (o :: rest) a w :=
  BigFrame.wpList_want hw fun K hK => wp_load_mid ty x ho b off hx cs d hc hu hd hi (hK _ _ h)
section
variable (w : World)
set_option maxRecDepth 100000 in
set_option maxHeartbeats 1000000 in
theorem pmids_ (p : Nat) : Calls Try.prog 41 #[.int .u8 (p : Int)] w fun e w' => e = .returned (.int .i64 (mids p : Nat)) ∧ w' = w := by
  rcases p_cases p with rfl | rfl | ⟨h6, h7⟩
  · go_enter Try.func41, Try.ntmps41
    go_wp2
    try rw [Exit.noGoto_ret]
    go_ret
    exact ⟨rfl, rfl⟩
  · go_enter Try.func41, Try.ntmps41
    go_wp2
    try rw [Exit.noGoto_ret]
    go_ret
    exact ⟨rfl, rfl⟩
  · rw [midsN h6 h7]
    have d1 : ((p : Int) == 6) = false := beq_eq_false_iff_ne.2 (by omega)
    have d2 : ((p : Int) == 17) = false := beq_eq_false_iff_ne.2 (by omega)
    clear h6 h7
    go_enter Try.func41, Try.ntmps41
    go_wp2
    try rw [Exit.noGoto_ret]
    go_ret
    exact ⟨rfl, rfl⟩
set_option maxRecDepth 100000 in
set_option maxHeartbeats 1000000 in
theorem psat_ (p : Nat) : Calls Try.prog 35 #[.int .u8 (p : Int)] w fun e w' => e = .returned (.int .i64 (sat p : Nat)) ∧ w' = w := by
  rcases p_cases p with rfl | rfl | ⟨h6, h7⟩
  · go_enter Try.func35, Try.ntmps35
    go_wp2
    try rw [Exit.noGoto_ret]
    go_ret
    exact ⟨rfl, rfl⟩
  · go_enter Try.func35, Try.ntmps35
    go_wp2
    try rw [Exit.noGoto_ret]
    go_ret
    exact ⟨rfl, rfl⟩
  · rw [satN h6 h7]
    have d1 : ((p : Int) == 6) = false := beq_eq_false_iff_ne.2 (by omega)
    have d2 : ((p : Int) == 17) = false := beq_eq_false_iff_ne.2 (by omega)
    clear h6 h7
    go_enter Try.func35, Try.ntmps35
    go_wp2
    try rw [Exit.noGoto_ret]
    go_ret
    exact ⟨rfl, rfl⟩
set_option maxRecDepth 100000 in
set_option maxHeartbeats 1000000 in
theorem rmids_ (p : Nat) : Calls Try.prog 32 #[.int .u8 (p : Int)] w fun e w' => e = .returned (.int .i64 (mids p : Nat)) ∧ w' = w := by
  rcases p_cases p with rfl | rfl | ⟨h6, h7⟩
  · go_enter Try.func32, Try.ntmps32
    go_wp2
    try rw [Exit.noGoto_ret]
    go_ret
    exact ⟨rfl, rfl⟩
  · go_enter Try.func32, Try.ntmps32
    go_wp2
    try rw [Exit.noGoto_ret]
    go_ret
    exact ⟨rfl, rfl⟩
  · rw [midsN h6 h7]
    have d1 : ((p : Int) == 6) = false := beq_eq_false_iff_ne.2 (by omega)
    have d2 : ((p : Int) == 17) = false := beq_eq_false_iff_ne.2 (by omega)
    clear h6 h7
    go_enter Try.func32, Try.ntmps32
    go_wp2
    try rw [Exit.noGoto_ret]
    go_ret
    exact ⟨rfl, rfl⟩
set_option maxRecDepth 100000 in
set_option maxHeartbeats 1000000 in
theorem pfsz_ (h : Hd) (v : Value) (hw : h.Wf) : Calls Try.prog 40 #[hvv h v] w fun e w' => e = .returned (.int .i64 (fsz h : Nat)) ∧ ∀ S, Keeps S w w' := by
  obtain ⟨w1, hw1, k1, b1, s1⟩ := box1 w (hcs h v) 29
  have x := (HF.of_blk hw b1).v6s
  rw [hw1] at x
  have K1 := Lib.hid k1
  have HW := Lib.hid hw1
  unfold hvv fsz
  clear hw1 k1 b1 s1 hw
  generalize hcs h v = C at *
  generalize h.src.v6 = b at *
  cases b
  all_goals
    go_enter Try.func40, Try.ntmps40
    go_wp2
    try rw [Exit.noGoto_ret]
    go_ret
    exact ⟨rfl, fun S => by have := K1.out S; rw [HW.out] at this; exact this⟩
set_option maxRecDepth 100000 in
set_option maxHeartbeats 1000000 in
theorem rfsz_ (h : Hd) (v : Value) (hw : h.Wf) : Calls Try.prog 33 #[hvv h v] w fun e w' => e = .returned (.int .i64 (fsz h : Nat)) ∧ ∀ S, Keeps S w w' := by
  obtain ⟨w1, hw1, k1, b1, s1⟩ := box1 w (hcs h v) 29
  have x := (HF.of_blk hw b1).v6s
  rw [hw1] at x
  have K1 := Lib.hid k1
  have HW := Lib.hid hw1
  unfold hvv fsz
  clear hw1 k1 b1 s1 hw
  generalize hcs h v = C at *
  generalize h.src.v6 = b at *
  cases b
  all_goals
    go_enter Try.func33, Try.ntmps33
    go_wp2
    try rw [Exit.noGoto_ret]
    go_ret
    exact ⟨rfl, fun S => by have := K1.out S; rw [HW.out] at this; exact this⟩
set_option maxRecDepth 100000 in
set_option maxHeartbeats 2000000 in
theorem maybe_sa (h : Hd) (v : Value) (hw : h.Wf) (ha : ¬ okA h.src) : Calls Try.prog 39 #[hvv h v] w fun e w' => e = .returned (.bool false) ∧ ∀ S, Keeps S w w' := by
  obtain ⟨w1, hw1, k1, b1, s1⟩ := box1 w (hcs h v) 29
  have HCA := fun w => Lib.hid (pcheckaddr_ w h.src hw.s)
  rw [errA_no ha] at HCA
  
  
  have HFF := Lib.hid (HF.of_blk hw b1)
  have HZS := Lib.hid (ad_sz hw.s)
  have HZD := Lib.hid (ad_sz hw.d)
  have HWF := Lib.hid hw
  have K1 := Lib.hid k1
  have HW := Lib.hid hw1
  unfold av at HCA 
  unfold hvv
  clear hw1 k1 b1 s1 hw ha
  generalize hcs h v = C at HW ⊢
  generalize hCS : adc h.src = CS at *
  generalize hCD : adc h.dst = CD at *
  go_enter Try.func39, Try.ntmps39
  go_wp2_with (first
    | ((try with_reducible rw [← HW.out]); refine wpList_load_mid rfl 24 _ rfl w.heap.size 0 rfl CS _ (hCS ▸ HFF.out.src) Try.underlying24 rfl HZS.out ?_))
  refine (HCA _).out.mono ?_
  rintro e w2 ⟨rfl, k2⟩
  have K2 : Hid (∀ S, Keeps S w w2) := Lib.hid (fun S => (K1.out S).trans (k2 S))
  have F2 := Lib.hid (HFF.out.keeps HWF.out (k2 (fun _ => False)) (fun z => z))
  clear k2
  go_wp2
  try rw [Exit.noGoto_ret]
  go_ret
  exact ⟨rfl, K2.out⟩
set_option maxRecDepth 100000 in
set_option maxHeartbeats 2000000 in
theorem maybe_da (h : Hd) (v : Value) (hw : h.Wf) (ha : okA h.src) (hb : ¬ okA h.dst) : Calls Try.prog 39 #[hvv h v] w fun e w' => e = .returned (.bool false) ∧ ∀ S, Keeps S w w' := by
  obtain ⟨w1, hw1, k1, b1, s1⟩ := box1 w (hcs h v) 29
  have HCA := fun w => Lib.hid (pcheckaddr_ w h.src hw.s)
  rw [errA_ok ha] at HCA
  have HCB := fun w => Lib.hid (pcheckaddr_ w h.dst hw.d)
  rw [errA_no hb] at HCB
  
  
  have HFF := Lib.hid (HF.of_blk hw b1)
  have HZS := Lib.hid (ad_sz hw.s)
  have HZD := Lib.hid (ad_sz hw.d)
  have HWF := Lib.hid hw
  have K1 := Lib.hid k1
  have HW := Lib.hid hw1
  unfold av at HCA HCB
  unfold hvv
  clear hw1 k1 b1 s1 hw ha hb
  generalize hcs h v = C at HW ⊢
  generalize hCS : adc h.src = CS at *
  generalize hCD : adc h.dst = CD at *
  go_enter Try.func39, Try.ntmps39
  go_wp2_with (first
    | ((try with_reducible rw [← HW.out]); refine wpList_load_mid rfl 24 _ rfl w.heap.size 0 rfl CS _ (hCS ▸ HFF.out.src) Try.underlying24 rfl HZS.out ?_))
  refine (HCA _).out.mono ?_
  rintro e w2 ⟨rfl, k2⟩
  have K2 : Hid (∀ S, Keeps S w w2) := Lib.hid (fun S => (K1.out S).trans (k2 S))
  have F2 := Lib.hid (HFF.out.keeps HWF.out (k2 (fun _ => False)) (fun z => z))
  clear k2
  go_wp2_with (first | (refine wpList_load_want (by kernel_rfl) 24 _ rfl w.heap.size 17 rfl CD _ (hCD ▸ F2.out.dst) Try.underlying24 rfl HZD.out ?_))
  refine (HCB _).out.mono ?_
  rintro e w3 ⟨rfl, k3⟩
  have K3 : Hid (∀ S, Keeps S w w3) := Lib.hid (fun S => (K2.out S).trans (k3 S))
  have F3 := Lib.hid (F2.out.keeps HWF.out (k3 (fun _ => False)) (fun z => z))
  clear k3
  have y0 := F3.out.v6s
  have y17 := F3.out.v6d
  have y34 := F3.out.pr
  have y35 := F3.out.sp
  have y36 := F3.out.dp
  have y39 := F3.out.id
  have y40 := F3.out.fl
  have y41 := F3.out.seq
  go_wp2
  try rw [Exit.noGoto_ret]
  go_ret
  exact ⟨rfl, K3.out⟩
set_option maxRecDepth 100000 in
set_option maxHeartbeats 2000000 in
theorem maybe_vt (h : Hd) (v : Value) (hw : h.Wf) (ha : okA h.src) (hb : okA h.dst) (g1 : h.src.v6 = true) (g2 : h.dst.v6 = false) : Calls Try.prog 39 #[hvv h v] w fun e w' => e = .returned (.bool false) ∧ ∀ S, Keeps S w w' := by
  obtain ⟨w1, hw1, k1, b1, s1⟩ := box1 w (hcs h v) 29
  have HCA := fun w => Lib.hid (pcheckaddr_ w h.src hw.s)
  rw [errA_ok ha] at HCA
  have HCB := fun w => Lib.hid (pcheckaddr_ w h.dst hw.d)
  rw [errA_ok hb] at HCB
  
  have H4 := Lib.hid (And.intro g1 g2)
  have HFF := Lib.hid (HF.of_blk hw b1)
  have HZS := Lib.hid (ad_sz hw.s)
  have HZD := Lib.hid (ad_sz hw.d)
  have HWF := Lib.hid hw
  have K1 := Lib.hid k1
  have HW := Lib.hid hw1
  unfold av at HCA HCB
  unfold hvv
  clear hw1 k1 b1 s1 hw ha hb g1 g2
  generalize hcs h v = C at HW ⊢
  generalize hCS : adc h.src = CS at *
  generalize hCD : adc h.dst = CD at *
  go_enter Try.func39, Try.ntmps39
  go_wp2_with (first
    | ((try with_reducible rw [← HW.out]); refine wpList_load_mid rfl 24 _ rfl w.heap.size 0 rfl CS _ (hCS ▸ HFF.out.src) Try.underlying24 rfl HZS.out ?_))
  refine (HCA _).out.mono ?_
  rintro e w2 ⟨rfl, k2⟩
  have K2 : Hid (∀ S, Keeps S w w2) := Lib.hid (fun S => (K1.out S).trans (k2 S))
  have F2 := Lib.hid (HFF.out.keeps HWF.out (k2 (fun _ => False)) (fun z => z))
  clear k2
  go_wp2_with (first | (refine wpList_load_want (by kernel_rfl) 24 _ rfl w.heap.size 17 rfl CD _ (hCD ▸ F2.out.dst) Try.underlying24 rfl HZD.out ?_))
  refine (HCB _).out.mono ?_
  rintro e w3 ⟨rfl, k3⟩
  have K3 : Hid (∀ S, Keeps S w w3) := Lib.hid (fun S => (K2.out S).trans (k3 S))
  have F3 := Lib.hid (F2.out.keeps HWF.out (k3 (fun _ => False)) (fun z => z))
  clear k3
  have y0 := F3.out.v6s
  have y17 := F3.out.v6d
  have y34 := F3.out.pr
  have y35 := F3.out.sp
  have y36 := F3.out.dp
  have y39 := F3.out.id
  have y40 := F3.out.fl
  have y41 := F3.out.seq
  rw [H4.out.1] at y0
  rw [H4.out.2] at y17
  go_wp2
  try rw [Exit.noGoto_ret]
  go_ret
  exact ⟨rfl, K3.out⟩
set_option maxRecDepth 100000 in
set_option maxHeartbeats 2000000 in
theorem maybe_vf (h : Hd) (v : Value) (hw : h.Wf) (ha : okA h.src) (hb : okA h.dst) (g1 : h.src.v6 = false) (g2 : h.dst.v6 = true) : Calls Try.prog 39 #[hvv h v] w fun e w' => e = .returned (.bool false) ∧ ∀ S, Keeps S w w' := by
  obtain ⟨w1, hw1, k1, b1, s1⟩ := box1 w (hcs h v) 29
  have HCA := fun w => Lib.hid (pcheckaddr_ w h.src hw.s)
  rw [errA_ok ha] at HCA
  have HCB := fun w => Lib.hid (pcheckaddr_ w h.dst hw.d)
  rw [errA_ok hb] at HCB
  
  have H4 := Lib.hid (And.intro g1 g2)
  have HFF := Lib.hid (HF.of_blk hw b1)
  have HZS := Lib.hid (ad_sz hw.s)
  have HZD := Lib.hid (ad_sz hw.d)
  have HWF := Lib.hid hw
  have K1 := Lib.hid k1
  have HW := Lib.hid hw1
  unfold av at HCA HCB
  unfold hvv
  clear hw1 k1 b1 s1 hw ha hb g1 g2
  generalize hcs h v = C at HW ⊢
  generalize hCS : adc h.src = CS at *
  generalize hCD : adc h.dst = CD at *
  go_enter Try.func39, Try.ntmps39
  go_wp2_with (first
    | ((try with_reducible rw [← HW.out]); refine wpList_load_mid rfl 24 _ rfl w.heap.size 0 rfl CS _ (hCS ▸ HFF.out.src) Try.underlying24 rfl HZS.out ?_))
  refine (HCA _).out.mono ?_
  rintro e w2 ⟨rfl, k2⟩
  have K2 : Hid (∀ S, Keeps S w w2) := Lib.hid (fun S => (K1.out S).trans (k2 S))
  have F2 := Lib.hid (HFF.out.keeps HWF.out (k2 (fun _ => False)) (fun z => z))
  clear k2
  go_wp2_with (first | (refine wpList_load_want (by kernel_rfl) 24 _ rfl w.heap.size 17 rfl CD _ (hCD ▸ F2.out.dst) Try.underlying24 rfl HZD.out ?_))
  refine (HCB _).out.mono ?_
  rintro e w3 ⟨rfl, k3⟩
  have K3 : Hid (∀ S, Keeps S w w3) := Lib.hid (fun S => (K2.out S).trans (k3 S))
  have F3 := Lib.hid (F2.out.keeps HWF.out (k3 (fun _ => False)) (fun z => z))
  clear k3
  have y0 := F3.out.v6s
  have y17 := F3.out.v6d
  have y34 := F3.out.pr
  have y35 := F3.out.sp
  have y36 := F3.out.dp
  have y39 := F3.out.id
  have y40 := F3.out.fl
  have y41 := F3.out.seq
  rw [H4.out.1] at y0
  rw [H4.out.2] at y17
  go_wp2
  try rw [Exit.noGoto_ret]
  go_ret
  exact ⟨rfl, K3.out⟩
set_option maxRecDepth 100000 in
set_option maxHeartbeats 2000000 in
theorem maybe_i6t (h : Hd) (v : Value) (hw : h.Wf) (ha : okA h.src) (hb : okA h.dst) (hv : h.src.v6 = h.dst.v6) (h4 : h.src.v6 = true) (hi : 1048575 < h.id) : Calls Try.prog 39 #[hvv h v] w fun e w' => e = .returned (.bool false) ∧ ∀ S, Keeps S w w' := by
  obtain ⟨w1, hw1, k1, b1, s1⟩ := box1 w (hcs h v) 29
  have HCA := fun w => Lib.hid (pcheckaddr_ w h.src hw.s)
  rw [errA_ok ha] at HCA
  have HCB := fun w => Lib.hid (pcheckaddr_ w h.dst hw.d)
  rw [errA_ok hb] at HCB
  have di : (1048575 : Int) < (h.id : Int) := by omega
  have di2 : decide ((1048575 : Int) < (h.id : Int)) = true := decide_eq_true di
  have H4 := Lib.hid (And.intro h4 hv)
  have HFF := Lib.hid (HF.of_blk hw b1)
  have HZS := Lib.hid (ad_sz hw.s)
  have HZD := Lib.hid (ad_sz hw.d)
  have HWF := Lib.hid hw
  have K1 := Lib.hid k1
  have HW := Lib.hid hw1
  unfold av at HCA HCB
  unfold hvv
  clear hw1 k1 b1 s1 hw ha hb hv h4 hi
  generalize hcs h v = C at HW ⊢
  generalize hCS : adc h.src = CS at *
  generalize hCD : adc h.dst = CD at *
  go_enter Try.func39, Try.ntmps39
  go_wp2_with (first
    | ((try with_reducible rw [← HW.out]); refine wpList_load_mid rfl 24 _ rfl w.heap.size 0 rfl CS _ (hCS ▸ HFF.out.src) Try.underlying24 rfl HZS.out ?_))
  refine (HCA _).out.mono ?_
  rintro e w2 ⟨rfl, k2⟩
  have K2 : Hid (∀ S, Keeps S w w2) := Lib.hid (fun S => (K1.out S).trans (k2 S))
  have F2 := Lib.hid (HFF.out.keeps HWF.out (k2 (fun _ => False)) (fun z => z))
  clear k2
  go_wp2_with (first | (refine wpList_load_want (by kernel_rfl) 24 _ rfl w.heap.size 17 rfl CD _ (hCD ▸ F2.out.dst) Try.underlying24 rfl HZD.out ?_))
  refine (HCB _).out.mono ?_
  rintro e w3 ⟨rfl, k3⟩
  have K3 : Hid (∀ S, Keeps S w w3) := Lib.hid (fun S => (K2.out S).trans (k3 S))
  have F3 := Lib.hid (F2.out.keeps HWF.out (k3 (fun _ => False)) (fun z => z))
  clear k3
  have y0 := F3.out.v6s
  have y17 := F3.out.v6d
  have y34 := F3.out.pr
  have y35 := F3.out.sp
  have y36 := F3.out.dp
  have y39 := F3.out.id
  have y40 := F3.out.fl
  have y41 := F3.out.seq
  rw [H4.out.1] at y0
  rw [← H4.out.2, H4.out.1] at y17
  go_wp2
  try rw [Exit.noGoto_ret]
  go_ret
  exact ⟨rfl, K3.out⟩
set_option maxRecDepth 100000 in
set_option maxHeartbeats 2000000 in
theorem maybe_i6f (h : Hd) (v : Value) (hw : h.Wf) (ha : okA h.src) (hb : okA h.dst) (hv : h.src.v6 = h.dst.v6) (h4 : h.src.v6 = false) (hi : 1048575 < h.id) : Calls Try.prog 39 #[hvv h v] w fun e w' => e = .returned (.bool false) ∧ ∀ S, Keeps S w w' := by
  obtain ⟨w1, hw1, k1, b1, s1⟩ := box1 w (hcs h v) 29
  have HCA := fun w => Lib.hid (pcheckaddr_ w h.src hw.s)
  rw [errA_ok ha] at HCA
  have HCB := fun w => Lib.hid (pcheckaddr_ w h.dst hw.d)
  rw [errA_ok hb] at HCB
  have di : (1048575 : Int) < (h.id : Int) := by omega
  have di2 : decide ((1048575 : Int) < (h.id : Int)) = true := decide_eq_true di
  have H4 := Lib.hid (And.intro h4 hv)
  have HFF := Lib.hid (HF.of_blk hw b1)
  have HZS := Lib.hid (ad_sz hw.s)
  have HZD := Lib.hid (ad_sz hw.d)
  have HWF := Lib.hid hw
  have K1 := Lib.hid k1
  have HW := Lib.hid hw1
  unfold av at HCA HCB
  unfold hvv
  clear hw1 k1 b1 s1 hw ha hb hv h4 hi
  generalize hcs h v = C at HW ⊢
  generalize hCS : adc h.src = CS at *
  generalize hCD : adc h.dst = CD at *
  go_enter Try.func39, Try.ntmps39
  go_wp2_with (first
    | ((try with_reducible rw [← HW.out]); refine wpList_load_mid rfl 24 _ rfl w.heap.size 0 rfl CS _ (hCS ▸ HFF.out.src) Try.underlying24 rfl HZS.out ?_))
  refine (HCA _).out.mono ?_
  rintro e w2 ⟨rfl, k2⟩
  have K2 : Hid (∀ S, Keeps S w w2) := Lib.hid (fun S => (K1.out S).trans (k2 S))
  have F2 := Lib.hid (HFF.out.keeps HWF.out (k2 (fun _ => False)) (fun z => z))
  clear k2
  go_wp2_with (first | (refine wpList_load_want (by kernel_rfl) 24 _ rfl w.heap.size 17 rfl CD _ (hCD ▸ F2.out.dst) Try.underlying24 rfl HZD.out ?_))
  refine (HCB _).out.mono ?_
  rintro e w3 ⟨rfl, k3⟩
  have K3 : Hid (∀ S, Keeps S w w3) := Lib.hid (fun S => (K2.out S).trans (k3 S))
  have F3 := Lib.hid (F2.out.keeps HWF.out (k3 (fun _ => False)) (fun z => z))
  clear k3
  have y0 := F3.out.v6s
  have y17 := F3.out.v6d
  have y34 := F3.out.pr
  have y35 := F3.out.sp
  have y36 := F3.out.dp
  have y39 := F3.out.id
  have y40 := F3.out.fl
  have y41 := F3.out.seq
  rw [H4.out.1] at y0
  rw [← H4.out.2, H4.out.1] at y17
  go_wp2
  try rw [Exit.noGoto_ret]
  go_ret
  exact ⟨rfl, K3.out⟩
set_option maxRecDepth 100000 in
set_option maxHeartbeats 2000000 in
theorem maybe_i4 (h : Hd) (v : Value) (hw : h.Wf) (ha : okA h.src) (hb : okA h.dst) (hv : h.src.v6 = h.dst.v6) (hi : ¬ 1048575 < h.id) (h4 : h.src.v6 = false) (hj : 65535 < h.id) : Calls Try.prog 39 #[hvv h v] w fun e w' => e = .returned (.bool false) ∧ ∀ S, Keeps S w w' := by
  obtain ⟨w1, hw1, k1, b1, s1⟩ := box1 w (hcs h v) 29
  have HCA := fun w => Lib.hid (pcheckaddr_ w h.src hw.s)
  rw [errA_ok ha] at HCA
  have HCB := fun w => Lib.hid (pcheckaddr_ w h.dst hw.d)
  rw [errA_ok hb] at HCB
  have di : ¬ (1048575 : Int) < (h.id : Int) := by omega
  have di2 : decide ((1048575 : Int) < (h.id : Int)) = false := decide_eq_false di
  have dj : (65535 : Int) < (h.id : Int) := by omega
  have dj2 : decide ((65535 : Int) < (h.id : Int)) = true := decide_eq_true dj
  have H4 := Lib.hid (And.intro h4 hv)
  have HFF := Lib.hid (HF.of_blk hw b1)
  have HZS := Lib.hid (ad_sz hw.s)
  have HZD := Lib.hid (ad_sz hw.d)
  have HWF := Lib.hid hw
  have K1 := Lib.hid k1
  have HW := Lib.hid hw1
  unfold av at HCA HCB
  unfold hvv
  clear hw1 k1 b1 s1 hw ha hb hv hi h4 hj
  generalize hcs h v = C at HW ⊢
  generalize hCS : adc h.src = CS at *
  generalize hCD : adc h.dst = CD at *
  go_enter Try.func39, Try.ntmps39
  go_wp2_with (first
    | ((try with_reducible rw [← HW.out]); refine wpList_load_mid rfl 24 _ rfl w.heap.size 0 rfl CS _ (hCS ▸ HFF.out.src) Try.underlying24 rfl HZS.out ?_))
  refine (HCA _).out.mono ?_
  rintro e w2 ⟨rfl, k2⟩
  have K2 : Hid (∀ S, Keeps S w w2) := Lib.hid (fun S => (K1.out S).trans (k2 S))
  have F2 := Lib.hid (HFF.out.keeps HWF.out (k2 (fun _ => False)) (fun z => z))
  clear k2
  go_wp2_with (first | (refine wpList_load_want (by kernel_rfl) 24 _ rfl w.heap.size 17 rfl CD _ (hCD ▸ F2.out.dst) Try.underlying24 rfl HZD.out ?_))
  refine (HCB _).out.mono ?_
  rintro e w3 ⟨rfl, k3⟩
  have K3 : Hid (∀ S, Keeps S w w3) := Lib.hid (fun S => (K2.out S).trans (k3 S))
  have F3 := Lib.hid (F2.out.keeps HWF.out (k3 (fun _ => False)) (fun z => z))
  clear k3
  have y0 := F3.out.v6s
  have y17 := F3.out.v6d
  have y34 := F3.out.pr
  have y35 := F3.out.sp
  have y36 := F3.out.dp
  have y39 := F3.out.id
  have y40 := F3.out.fl
  have y41 := F3.out.seq
  rw [H4.out.1] at y0
  rw [← H4.out.2, H4.out.1] at y17
  go_wp2
  try rw [Exit.noGoto_ret]
  go_ret
  exact ⟨rfl, K3.out⟩
set_option maxRecDepth 100000 in
set_option maxHeartbeats 2000000 in
theorem maybe_fls (h : Hd) (v : Value) (hw : h.Wf) (ha : okA h.src) (hb : okA h.dst) (hv : h.src.v6 = h.dst.v6) (hi : ¬ 1048575 < h.id) (h4 : h.src.v6 = true) (h6 : h.pr ≠ 6) (hf : h.fl ≠ 0) : Calls Try.prog 39 #[hvv h v] w fun e w' => e = .returned (.bool false) ∧ ∀ S, Keeps S w w' := by
  obtain ⟨w1, hw1, k1, b1, s1⟩ := box1 w (hcs h v) 29
  have HCA := fun w => Lib.hid (pcheckaddr_ w h.src hw.s)
  rw [errA_ok ha] at HCA
  have HCB := fun w => Lib.hid (pcheckaddr_ w h.dst hw.d)
  rw [errA_ok hb] at HCB
  have di : ¬ (1048575 : Int) < (h.id : Int) := by omega
  have di2 : decide ((1048575 : Int) < (h.id : Int)) = false := decide_eq_false di
  have d_pr_6 : ((h.pr : Int) == 6) = false := beq_eq_false_iff_ne.2 (by omega)
  have e_pr_6 : ((h.pr : Int) != 6) = true := bne_iff_ne.2 (by omega)
  have d_fl_0 : ((h.fl : Int) == 0) = false := beq_eq_false_iff_ne.2 (by omega)
  have e_fl_0 : ((h.fl : Int) != 0) = true := bne_iff_ne.2 (by omega)
  have H4 := Lib.hid (And.intro h4 hv)
  have HFF := Lib.hid (HF.of_blk hw b1)
  have HZS := Lib.hid (ad_sz hw.s)
  have HZD := Lib.hid (ad_sz hw.d)
  have HWF := Lib.hid hw
  have K1 := Lib.hid k1
  have HW := Lib.hid hw1
  unfold av at HCA HCB
  unfold hvv
  clear hw1 k1 b1 s1 hw ha hb hv hi h4 h6 hf
  generalize hcs h v = C at HW ⊢
  generalize hCS : adc h.src = CS at *
  generalize hCD : adc h.dst = CD at *
  go_enter Try.func39, Try.ntmps39
  go_wp2_with (first
    | ((try with_reducible rw [← HW.out]); refine wpList_load_mid rfl 24 _ rfl w.heap.size 0 rfl CS _ (hCS ▸ HFF.out.src) Try.underlying24 rfl HZS.out ?_))
  refine (HCA _).out.mono ?_
  rintro e w2 ⟨rfl, k2⟩
  have K2 : Hid (∀ S, Keeps S w w2) := Lib.hid (fun S => (K1.out S).trans (k2 S))
  have F2 := Lib.hid (HFF.out.keeps HWF.out (k2 (fun _ => False)) (fun z => z))
  clear k2
  go_wp2_with (first | (refine wpList_load_want (by kernel_rfl) 24 _ rfl w.heap.size 17 rfl CD _ (hCD ▸ F2.out.dst) Try.underlying24 rfl HZD.out ?_))
  refine (HCB _).out.mono ?_
  rintro e w3 ⟨rfl, k3⟩
  have K3 : Hid (∀ S, Keeps S w w3) := Lib.hid (fun S => (K2.out S).trans (k3 S))
  have F3 := Lib.hid (F2.out.keeps HWF.out (k3 (fun _ => False)) (fun z => z))
  clear k3
  have y0 := F3.out.v6s
  have y17 := F3.out.v6d
  have y34 := F3.out.pr
  have y35 := F3.out.sp
  have y36 := F3.out.dp
  have y39 := F3.out.id
  have y40 := F3.out.fl
  have y41 := F3.out.seq
  rw [H4.out.1] at y0
  rw [← H4.out.2, H4.out.1] at y17
  go_wp2
  try rw [Exit.noGoto_ret]
  go_ret
  exact ⟨rfl, K3.out⟩
set_option maxRecDepth 100000 in
set_option maxHeartbeats 2000000 in
theorem maybe_sqs (h : Hd) (v : Value) (hw : h.Wf) (ha : okA h.src) (hb : okA h.dst) (hv : h.src.v6 = h.dst.v6) (hi : ¬ 1048575 < h.id) (h4 : h.src.v6 = true) (h6 : h.pr ≠ 6) (hf : h.fl = 0) (hq : h.seq ≠ 0) : Calls Try.prog 39 #[hvv h v] w fun e w' => e = .returned (.bool false) ∧ ∀ S, Keeps S w w' := by
  obtain ⟨w1, hw1, k1, b1, s1⟩ := box1 w (hcs h v) 29
  have HCA := fun w => Lib.hid (pcheckaddr_ w h.src hw.s)
  rw [errA_ok ha] at HCA
  have HCB := fun w => Lib.hid (pcheckaddr_ w h.dst hw.d)
  rw [errA_ok hb] at HCB
  have di : ¬ (1048575 : Int) < (h.id : Int) := by omega
  have di2 : decide ((1048575 : Int) < (h.id : Int)) = false := decide_eq_false di
  have d_pr_6 : ((h.pr : Int) == 6) = false := beq_eq_false_iff_ne.2 (by omega)
  have e_pr_6 : ((h.pr : Int) != 6) = true := bne_iff_ne.2 (by omega)
  have d_fl_0 : ((h.fl : Int) == 0) = true := beq_iff_eq.2 (by omega)
  have e_fl_0 : ((h.fl : Int) != 0) = false := by rw [bne_eq_false_iff_eq]; omega
  have d_seq_0 : ((h.seq : Int) == 0) = false := beq_eq_false_iff_ne.2 (by omega)
  have e_seq_0 : ((h.seq : Int) != 0) = true := bne_iff_ne.2 (by omega)
  have H4 := Lib.hid (And.intro h4 hv)
  have HFF := Lib.hid (HF.of_blk hw b1)
  have HZS := Lib.hid (ad_sz hw.s)
  have HZD := Lib.hid (ad_sz hw.d)
  have HWF := Lib.hid hw
  have K1 := Lib.hid k1
  have HW := Lib.hid hw1
  unfold av at HCA HCB
  unfold hvv
  clear hw1 k1 b1 s1 hw ha hb hv hi h4 h6 hf hq
  generalize hcs h v = C at HW ⊢
  generalize hCS : adc h.src = CS at *
  generalize hCD : adc h.dst = CD at *
  go_enter Try.func39, Try.ntmps39
  go_wp2_with (first
    | ((try with_reducible rw [← HW.out]); refine wpList_load_mid rfl 24 _ rfl w.heap.size 0 rfl CS _ (hCS ▸ HFF.out.src) Try.underlying24 rfl HZS.out ?_))
  refine (HCA _).out.mono ?_
  rintro e w2 ⟨rfl, k2⟩
  have K2 : Hid (∀ S, Keeps S w w2) := Lib.hid (fun S => (K1.out S).trans (k2 S))
  have F2 := Lib.hid (HFF.out.keeps HWF.out (k2 (fun _ => False)) (fun z => z))
  clear k2
  go_wp2_with (first | (refine wpList_load_want (by kernel_rfl) 24 _ rfl w.heap.size 17 rfl CD _ (hCD ▸ F2.out.dst) Try.underlying24 rfl HZD.out ?_))
  refine (HCB _).out.mono ?_
  rintro e w3 ⟨rfl, k3⟩
  have K3 : Hid (∀ S, Keeps S w w3) := Lib.hid (fun S => (K2.out S).trans (k3 S))
  have F3 := Lib.hid (F2.out.keeps HWF.out (k3 (fun _ => False)) (fun z => z))
  clear k3
  have y0 := F3.out.v6s
  have y17 := F3.out.v6d
  have y34 := F3.out.pr
  have y35 := F3.out.sp
  have y36 := F3.out.dp
  have y39 := F3.out.id
  have y40 := F3.out.fl
  have y41 := F3.out.seq
  rw [H4.out.1] at y0
  rw [← H4.out.2, H4.out.1] at y17
  go_wp2
  try rw [Exit.noGoto_ret]
  go_ret
  exact ⟨rfl, K3.out⟩
set_option maxRecDepth 100000 in
set_option maxHeartbeats 2000000 in
theorem maybe_tcs (h : Hd) (v : Value) (hw : h.Wf) (ha : okA h.src) (hb : okA h.dst) (hv : h.src.v6 = h.dst.v6) (hi : ¬ 1048575 < h.id) (h4 : h.src.v6 = true) (h6 : h.pr = 6) : Calls Try.prog 39 #[hvv h v] w fun e w' => e = .returned (.bool true) ∧ ∀ S, Keeps S w w' := by
  obtain ⟨w1, hw1, k1, b1, s1⟩ := box1 w (hcs h v) 29
  have HCA := fun w => Lib.hid (pcheckaddr_ w h.src hw.s)
  rw [errA_ok ha] at HCA
  have HCB := fun w => Lib.hid (pcheckaddr_ w h.dst hw.d)
  rw [errA_ok hb] at HCB
  have HM := fun w => Lib.hid (pmids_ w h.pr)
  rw [show mids h.pr = 20 from by rw [h6]; rfl] at HM
  have di : ¬ (1048575 : Int) < (h.id : Int) := by omega
  have di2 : decide ((1048575 : Int) < (h.id : Int)) = false := decide_eq_false di
  have d_pr_6 : ((h.pr : Int) == 6) = true := beq_iff_eq.2 (by omega)
  have e_pr_6 : ((h.pr : Int) != 6) = false := by rw [bne_eq_false_iff_eq]; omega
  have H4 := Lib.hid (And.intro h4 hv)
  have HFF := Lib.hid (HF.of_blk hw b1)
  have HZS := Lib.hid (ad_sz hw.s)
  have HZD := Lib.hid (ad_sz hw.d)
  have HWF := Lib.hid hw
  have K1 := Lib.hid k1
  have HW := Lib.hid hw1
  unfold av at HCA HCB
  unfold hvv
  clear hw1 k1 b1 s1 hw ha hb hv hi h4 h6
  generalize hcs h v = C at HW ⊢
  generalize hCS : adc h.src = CS at *
  generalize hCD : adc h.dst = CD at *
  go_enter Try.func39, Try.ntmps39
  go_wp2_with (first
    | ((try with_reducible rw [← HW.out]); refine wpList_load_mid rfl 24 _ rfl w.heap.size 0 rfl CS _ (hCS ▸ HFF.out.src) Try.underlying24 rfl HZS.out ?_))
  refine (HCA _).out.mono ?_
  rintro e w2 ⟨rfl, k2⟩
  have K2 : Hid (∀ S, Keeps S w w2) := Lib.hid (fun S => (K1.out S).trans (k2 S))
  have F2 := Lib.hid (HFF.out.keeps HWF.out (k2 (fun _ => False)) (fun z => z))
  clear k2
  go_wp2_with (first | (refine wpList_load_want (by kernel_rfl) 24 _ rfl w.heap.size 17 rfl CD _ (hCD ▸ F2.out.dst) Try.underlying24 rfl HZD.out ?_))
  refine (HCB _).out.mono ?_
  rintro e w3 ⟨rfl, k3⟩
  have K3 : Hid (∀ S, Keeps S w w3) := Lib.hid (fun S => (K2.out S).trans (k3 S))
  have F3 := Lib.hid (F2.out.keeps HWF.out (k3 (fun _ => False)) (fun z => z))
  clear k3
  have y0 := F3.out.v6s
  have y17 := F3.out.v6d
  have y34 := F3.out.pr
  have y35 := F3.out.sp
  have y36 := F3.out.dp
  have y39 := F3.out.id
  have y40 := F3.out.fl
  have y41 := F3.out.seq
  rw [H4.out.1] at y0
  rw [← H4.out.2, H4.out.1] at y17
  go_wp2_with (go_at_call 41; refine (HM _).out.mono ?_; rintro e w9 ⟨rfl, rfl⟩)
  try rw [Exit.noGoto_ret]
  go_ret
  exact ⟨rfl, K3.out⟩
set_option maxRecDepth 100000 in
set_option maxHeartbeats 2000000 in
theorem maybe_uds (h : Hd) (v : Value) (hw : h.Wf) (ha : okA h.src) (hb : okA h.dst) (hv : h.src.v6 = h.dst.v6) (hi : ¬ 1048575 < h.id) (h4 : h.src.v6 = true) (h6 : h.pr ≠ 6) (hf : h.fl = 0) (hq : h.seq = 0) (h7 : h.pr = 17) : Calls Try.prog 39 #[hvv h v] w fun e w' => e = .returned (.bool true) ∧ ∀ S, Keeps S w w' := by
  obtain ⟨w1, hw1, k1, b1, s1⟩ := box1 w (hcs h v) 29
  have HCA := fun w => Lib.hid (pcheckaddr_ w h.src hw.s)
  rw [errA_ok ha] at HCA
  have HCB := fun w => Lib.hid (pcheckaddr_ w h.dst hw.d)
  rw [errA_ok hb] at HCB
  have HM := fun w => Lib.hid (pmids_ w h.pr)
  rw [show mids h.pr = 8 from by rw [h7]; rfl] at HM
  have di : ¬ (1048575 : Int) < (h.id : Int) := by omega
  have di2 : decide ((1048575 : Int) < (h.id : Int)) = false := decide_eq_false di
  have d_pr_6 : ((h.pr : Int) == 6) = false := beq_eq_false_iff_ne.2 (by omega)
  have e_pr_6 : ((h.pr : Int) != 6) = true := bne_iff_ne.2 (by omega)
  have d_fl_0 : ((h.fl : Int) == 0) = true := beq_iff_eq.2 (by omega)
  have e_fl_0 : ((h.fl : Int) != 0) = false := by rw [bne_eq_false_iff_eq]; omega
  have d_seq_0 : ((h.seq : Int) == 0) = true := beq_iff_eq.2 (by omega)
  have e_seq_0 : ((h.seq : Int) != 0) = false := by rw [bne_eq_false_iff_eq]; omega
  have H4 := Lib.hid (And.intro h4 hv)
  have HFF := Lib.hid (HF.of_blk hw b1)
  have HZS := Lib.hid (ad_sz hw.s)
  have HZD := Lib.hid (ad_sz hw.d)
  have HWF := Lib.hid hw
  have K1 := Lib.hid k1
  have HW := Lib.hid hw1
  unfold av at HCA HCB
  unfold hvv
  clear hw1 k1 b1 s1 hw ha hb hv hi h4 h6 hf hq h7
  generalize hcs h v = C at HW ⊢
  generalize hCS : adc h.src = CS at *
  generalize hCD : adc h.dst = CD at *
  go_enter Try.func39, Try.ntmps39
  go_wp2_with (first
    | ((try with_reducible rw [← HW.out]); refine wpList_load_mid rfl 24 _ rfl w.heap.size 0 rfl CS _ (hCS ▸ HFF.out.src) Try.underlying24 rfl HZS.out ?_))
  refine (HCA _).out.mono ?_
  rintro e w2 ⟨rfl, k2⟩
  have K2 : Hid (∀ S, Keeps S w w2) := Lib.hid (fun S => (K1.out S).trans (k2 S))
  have F2 := Lib.hid (HFF.out.keeps HWF.out (k2 (fun _ => False)) (fun z => z))
  clear k2
  go_wp2_with (first | (refine wpList_load_want (by kernel_rfl) 24 _ rfl w.heap.size 17 rfl CD _ (hCD ▸ F2.out.dst) Try.underlying24 rfl HZD.out ?_))
  refine (HCB _).out.mono ?_
  rintro e w3 ⟨rfl, k3⟩
  have K3 : Hid (∀ S, Keeps S w w3) := Lib.hid (fun S => (K2.out S).trans (k3 S))
  have F3 := Lib.hid (F2.out.keeps HWF.out (k3 (fun _ => False)) (fun z => z))
  clear k3
  have y0 := F3.out.v6s
  have y17 := F3.out.v6d
  have y34 := F3.out.pr
  have y35 := F3.out.sp
  have y36 := F3.out.dp
  have y39 := F3.out.id
  have y40 := F3.out.fl
  have y41 := F3.out.seq
  rw [H4.out.1] at y0
  rw [← H4.out.2, H4.out.1] at y17
  go_wp2_with (go_at_call 41; refine (HM _).out.mono ?_; rintro e w9 ⟨rfl, rfl⟩)
  try rw [Exit.noGoto_ret]
  go_ret
  exact ⟨rfl, K3.out⟩
set_option maxRecDepth 100000 in
set_option maxHeartbeats 2000000 in
theorem maybe_sps (h : Hd) (v : Value) (hw : h.Wf) (ha : okA h.src) (hb : okA h.dst) (hv : h.src.v6 = h.dst.v6) (hi : ¬ 1048575 < h.id) (h4 : h.src.v6 = true) (h6 : h.pr ≠ 6) (hf : h.fl = 0) (hq : h.seq = 0) (h7 : h.pr ≠ 17) (hs : h.sp ≠ 0) : Calls Try.prog 39 #[hvv h v] w fun e w' => e = .returned (.bool false) ∧ ∀ S, Keeps S w w' := by
  obtain ⟨w1, hw1, k1, b1, s1⟩ := box1 w (hcs h v) 29
  have HCA := fun w => Lib.hid (pcheckaddr_ w h.src hw.s)
  rw [errA_ok ha] at HCA
  have HCB := fun w => Lib.hid (pcheckaddr_ w h.dst hw.d)
  rw [errA_ok hb] at HCB
  have HM := fun w => Lib.hid (pmids_ w h.pr)
  rw [midsN h6 h7] at HM
  have di : ¬ (1048575 : Int) < (h.id : Int) := by omega
  have di2 : decide ((1048575 : Int) < (h.id : Int)) = false := decide_eq_false di
  have d_pr_6 : ((h.pr : Int) == 6) = false := beq_eq_false_iff_ne.2 (by omega)
  have e_pr_6 : ((h.pr : Int) != 6) = true := bne_iff_ne.2 (by omega)
  have d_fl_0 : ((h.fl : Int) == 0) = true := beq_iff_eq.2 (by omega)
  have e_fl_0 : ((h.fl : Int) != 0) = false := by rw [bne_eq_false_iff_eq]; omega
  have d_seq_0 : ((h.seq : Int) == 0) = true := beq_iff_eq.2 (by omega)
  have e_seq_0 : ((h.seq : Int) != 0) = false := by rw [bne_eq_false_iff_eq]; omega
  have d_sp_0 : ((h.sp : Int) == 0) = false := beq_eq_false_iff_ne.2 (by omega)
  have e_sp_0 : ((h.sp : Int) != 0) = true := bne_iff_ne.2 (by omega)
  have H4 := Lib.hid (And.intro h4 hv)
  have HFF := Lib.hid (HF.of_blk hw b1)
  have HZS := Lib.hid (ad_sz hw.s)
  have HZD := Lib.hid (ad_sz hw.d)
  have HWF := Lib.hid hw
  have K1 := Lib.hid k1
  have HW := Lib.hid hw1
  unfold av at HCA HCB
  unfold hvv
  clear hw1 k1 b1 s1 hw ha hb hv hi h4 h6 hf hq h7 hs
  generalize hcs h v = C at HW ⊢
  generalize hCS : adc h.src = CS at *
  generalize hCD : adc h.dst = CD at *
  go_enter Try.func39, Try.ntmps39
  go_wp2_with (first
    | ((try with_reducible rw [← HW.out]); refine wpList_load_mid rfl 24 _ rfl w.heap.size 0 rfl CS _ (hCS ▸ HFF.out.src) Try.underlying24 rfl HZS.out ?_))
  refine (HCA _).out.mono ?_
  rintro e w2 ⟨rfl, k2⟩
  have K2 : Hid (∀ S, Keeps S w w2) := Lib.hid (fun S => (K1.out S).trans (k2 S))
  have F2 := Lib.hid (HFF.out.keeps HWF.out (k2 (fun _ => False)) (fun z => z))
  clear k2
  go_wp2_with (first | (refine wpList_load_want (by kernel_rfl) 24 _ rfl w.heap.size 17 rfl CD _ (hCD ▸ F2.out.dst) Try.underlying24 rfl HZD.out ?_))
  refine (HCB _).out.mono ?_
  rintro e w3 ⟨rfl, k3⟩
  have K3 : Hid (∀ S, Keeps S w w3) := Lib.hid (fun S => (K2.out S).trans (k3 S))
  have F3 := Lib.hid (F2.out.keeps HWF.out (k3 (fun _ => False)) (fun z => z))
  clear k3
  have y0 := F3.out.v6s
  have y17 := F3.out.v6d
  have y34 := F3.out.pr
  have y35 := F3.out.sp
  have y36 := F3.out.dp
  have y39 := F3.out.id
  have y40 := F3.out.fl
  have y41 := F3.out.seq
  rw [H4.out.1] at y0
  rw [← H4.out.2, H4.out.1] at y17
  go_wp2_with (go_at_call 41; refine (HM _).out.mono ?_; rintro e w9 ⟨rfl, rfl⟩)
  try rw [Exit.noGoto_ret]
  go_ret
  exact ⟨rfl, K3.out⟩
set_option maxRecDepth 100000 in
set_option maxHeartbeats 2000000 in
theorem maybe_dps (h : Hd) (v : Value) (hw : h.Wf) (ha : okA h.src) (hb : okA h.dst) (hv : h.src.v6 = h.dst.v6) (hi : ¬ 1048575 < h.id) (h4 : h.src.v6 = true) (h6 : h.pr ≠ 6) (hf : h.fl = 0) (hq : h.seq = 0) (h7 : h.pr ≠ 17) (hs : h.sp = 0) (hd : h.dp ≠ 0) : Calls Try.prog 39 #[hvv h v] w fun e w' => e = .returned (.bool false) ∧ ∀ S, Keeps S w w' := by
  obtain ⟨w1, hw1, k1, b1, s1⟩ := box1 w (hcs h v) 29
  have HCA := fun w => Lib.hid (pcheckaddr_ w h.src hw.s)
  rw [errA_ok ha] at HCA
  have HCB := fun w => Lib.hid (pcheckaddr_ w h.dst hw.d)
  rw [errA_ok hb] at HCB
  have HM := fun w => Lib.hid (pmids_ w h.pr)
  rw [midsN h6 h7] at HM
  have di : ¬ (1048575 : Int) < (h.id : Int) := by omega
  have di2 : decide ((1048575 : Int) < (h.id : Int)) = false := decide_eq_false di
  have d_pr_6 : ((h.pr : Int) == 6) = false := beq_eq_false_iff_ne.2 (by omega)
  have e_pr_6 : ((h.pr : Int) != 6) = true := bne_iff_ne.2 (by omega)
  have d_fl_0 : ((h.fl : Int) == 0) = true := beq_iff_eq.2 (by omega)
  have e_fl_0 : ((h.fl : Int) != 0) = false := by rw [bne_eq_false_iff_eq]; omega
  have d_seq_0 : ((h.seq : Int) == 0) = true := beq_iff_eq.2 (by omega)
  have e_seq_0 : ((h.seq : Int) != 0) = false := by rw [bne_eq_false_iff_eq]; omega
  have d_sp_0 : ((h.sp : Int) == 0) = true := beq_iff_eq.2 (by omega)
  have e_sp_0 : ((h.sp : Int) != 0) = false := by rw [bne_eq_false_iff_eq]; omega
  have d_dp_0 : ((h.dp : Int) == 0) = false := beq_eq_false_iff_ne.2 (by omega)
  have e_dp_0 : ((h.dp : Int) != 0) = true := bne_iff_ne.2 (by omega)
  have H4 := Lib.hid (And.intro h4 hv)
  have HFF := Lib.hid (HF.of_blk hw b1)
  have HZS := Lib.hid (ad_sz hw.s)
  have HZD := Lib.hid (ad_sz hw.d)
  have HWF := Lib.hid hw
  have K1 := Lib.hid k1
  have HW := Lib.hid hw1
  unfold av at HCA HCB
  unfold hvv
  clear hw1 k1 b1 s1 hw ha hb hv hi h4 h6 hf hq h7 hs hd
  generalize hcs h v = C at HW ⊢
  generalize hCS : adc h.src = CS at *
  generalize hCD : adc h.dst = CD at *
  go_enter Try.func39, Try.ntmps39
  go_wp2_with (first
    | ((try with_reducible rw [← HW.out]); refine wpList_load_mid rfl 24 _ rfl w.heap.size 0 rfl CS _ (hCS ▸ HFF.out.src) Try.underlying24 rfl HZS.out ?_))
  refine (HCA _).out.mono ?_
  rintro e w2 ⟨rfl, k2⟩
  have K2 : Hid (∀ S, Keeps S w w2) := Lib.hid (fun S => (K1.out S).trans (k2 S))
  have F2 := Lib.hid (HFF.out.keeps HWF.out (k2 (fun _ => False)) (fun z => z))
  clear k2
  go_wp2_with (first | (refine wpList_load_want (by kernel_rfl) 24 _ rfl w.heap.size 17 rfl CD _ (hCD ▸ F2.out.dst) Try.underlying24 rfl HZD.out ?_))
  refine (HCB _).out.mono ?_
  rintro e w3 ⟨rfl, k3⟩
  have K3 : Hid (∀ S, Keeps S w w3) := Lib.hid (fun S => (K2.out S).trans (k3 S))
  have F3 := Lib.hid (F2.out.keeps HWF.out (k3 (fun _ => False)) (fun z => z))
  clear k3
  have y0 := F3.out.v6s
  have y17 := F3.out.v6d
  have y34 := F3.out.pr
  have y35 := F3.out.sp
  have y36 := F3.out.dp
  have y39 := F3.out.id
  have y40 := F3.out.fl
  have y41 := F3.out.seq
  rw [H4.out.1] at y0
  rw [← H4.out.2, H4.out.1] at y17
  go_wp2_with (go_at_call 41; refine (HM _).out.mono ?_; rintro e w9 ⟨rfl, rfl⟩)
  try rw [Exit.noGoto_ret]
  go_ret
  exact ⟨rfl, K3.out⟩
set_option maxRecDepth 100000 in
set_option maxHeartbeats 2000000 in
theorem maybe_oks (h : Hd) (v : Value) (hw : h.Wf) (ha : okA h.src) (hb : okA h.dst) (hv : h.src.v6 = h.dst.v6) (hi : ¬ 1048575 < h.id) (h4 : h.src.v6 = true) (h6 : h.pr ≠ 6) (hf : h.fl = 0) (hq : h.seq = 0) (h7 : h.pr ≠ 17) (hs : h.sp = 0) (hd : h.dp = 0) : Calls Try.prog 39 #[hvv h v] w fun e w' => e = .returned (.bool true) ∧ ∀ S, Keeps S w w' := by
  obtain ⟨w1, hw1, k1, b1, s1⟩ := box1 w (hcs h v) 29
  have HCA := fun w => Lib.hid (pcheckaddr_ w h.src hw.s)
  rw [errA_ok ha] at HCA
  have HCB := fun w => Lib.hid (pcheckaddr_ w h.dst hw.d)
  rw [errA_ok hb] at HCB
  have HM := fun w => Lib.hid (pmids_ w h.pr)
  rw [midsN h6 h7] at HM
  have di : ¬ (1048575 : Int) < (h.id : Int) := by omega
  have di2 : decide ((1048575 : Int) < (h.id : Int)) = false := decide_eq_false di
  have d_pr_6 : ((h.pr : Int) == 6) = false := beq_eq_false_iff_ne.2 (by omega)
  have e_pr_6 : ((h.pr : Int) != 6) = true := bne_iff_ne.2 (by omega)
  have d_fl_0 : ((h.fl : Int) == 0) = true := beq_iff_eq.2 (by omega)
  have e_fl_0 : ((h.fl : Int) != 0) = false := by rw [bne_eq_false_iff_eq]; omega
  have d_seq_0 : ((h.seq : Int) == 0) = true := beq_iff_eq.2 (by omega)
  have e_seq_0 : ((h.seq : Int) != 0) = false := by rw [bne_eq_false_iff_eq]; omega
  have d_sp_0 : ((h.sp : Int) == 0) = true := beq_iff_eq.2 (by omega)
  have e_sp_0 : ((h.sp : Int) != 0) = false := by rw [bne_eq_false_iff_eq]; omega
  have d_dp_0 : ((h.dp : Int) == 0) = true := beq_iff_eq.2 (by omega)
  have e_dp_0 : ((h.dp : Int) != 0) = false := by rw [bne_eq_false_iff_eq]; omega
  have H4 := Lib.hid (And.intro h4 hv)
  have HFF := Lib.hid (HF.of_blk hw b1)
  have HZS := Lib.hid (ad_sz hw.s)
  have HZD := Lib.hid (ad_sz hw.d)
  have HWF := Lib.hid hw
  have K1 := Lib.hid k1
  have HW := Lib.hid hw1
  unfold av at HCA HCB
  unfold hvv
  clear hw1 k1 b1 s1 hw ha hb hv hi h4 h6 hf hq h7 hs hd
  generalize hcs h v = C at HW ⊢
  generalize hCS : adc h.src = CS at *
  generalize hCD : adc h.dst = CD at *
  go_enter Try.func39, Try.ntmps39
  go_wp2_with (first
    | ((try with_reducible rw [← HW.out]); refine wpList_load_mid rfl 24 _ rfl w.heap.size 0 rfl CS _ (hCS ▸ HFF.out.src) Try.underlying24 rfl HZS.out ?_))
  refine (HCA _).out.mono ?_
  rintro e w2 ⟨rfl, k2⟩
  have K2 : Hid (∀ S, Keeps S w w2) := Lib.hid (fun S => (K1.out S).trans (k2 S))
  have F2 := Lib.hid (HFF.out.keeps HWF.out (k2 (fun _ => False)) (fun z => z))
  clear k2
  go_wp2_with (first | (refine wpList_load_want (by kernel_rfl) 24 _ rfl w.heap.size 17 rfl CD _ (hCD ▸ F2.out.dst) Try.underlying24 rfl HZD.out ?_))
  refine (HCB _).out.mono ?_
  rintro e w3 ⟨rfl, k3⟩
  have K3 : Hid (∀ S, Keeps S w w3) := Lib.hid (fun S => (K2.out S).trans (k3 S))
  have F3 := Lib.hid (F2.out.keeps HWF.out (k3 (fun _ => False)) (fun z => z))
  clear k3
  have y0 := F3.out.v6s
  have y17 := F3.out.v6d
  have y34 := F3.out.pr
  have y35 := F3.out.sp
  have y36 := F3.out.dp
  have y39 := F3.out.id
  have y40 := F3.out.fl
  have y41 := F3.out.seq
  rw [H4.out.1] at y0
  rw [← H4.out.2, H4.out.1] at y17
  go_wp2_with (go_at_call 41; refine (HM _).out.mono ?_; rintro e w9 ⟨rfl, rfl⟩)
  try rw [Exit.noGoto_ret]
  go_ret
  exact ⟨rfl, K3.out⟩
set_option maxRecDepth 100000 in
set_option maxHeartbeats 2000000 in
theorem maybe_flf (h : Hd) (v : Value) (hw : h.Wf) (ha : okA h.src) (hb : okA h.dst) (hv : h.src.v6 = h.dst.v6) (hi : ¬ 1048575 < h.id) (h4 : h.src.v6 = false) (hj : ¬ 65535 < h.id) (h6 : h.pr ≠ 6) (hf : h.fl ≠ 0) : Calls Try.prog 39 #[hvv h v] w fun e w' => e = .returned (.bool false) ∧ ∀ S, Keeps S w w' := by
  obtain ⟨w1, hw1, k1, b1, s1⟩ := box1 w (hcs h v) 29
  have HCA := fun w => Lib.hid (pcheckaddr_ w h.src hw.s)
  rw [errA_ok ha] at HCA
  have HCB := fun w => Lib.hid (pcheckaddr_ w h.dst hw.d)
  rw [errA_ok hb] at HCB
  have di : ¬ (1048575 : Int) < (h.id : Int) := by omega
  have di2 : decide ((1048575 : Int) < (h.id : Int)) = false := decide_eq_false di
  have dj : ¬ (65535 : Int) < (h.id : Int) := by omega
  have dj2 : decide ((65535 : Int) < (h.id : Int)) = false := decide_eq_false dj
  have d_pr_6 : ((h.pr : Int) == 6) = false := beq_eq_false_iff_ne.2 (by omega)
  have e_pr_6 : ((h.pr : Int) != 6) = true := bne_iff_ne.2 (by omega)
  have d_fl_0 : ((h.fl : Int) == 0) = false := beq_eq_false_iff_ne.2 (by omega)
  have e_fl_0 : ((h.fl : Int) != 0) = true := bne_iff_ne.2 (by omega)
  have H4 := Lib.hid (And.intro h4 hv)
  have HFF := Lib.hid (HF.of_blk hw b1)
  have HZS := Lib.hid (ad_sz hw.s)
  have HZD := Lib.hid (ad_sz hw.d)
  have HWF := Lib.hid hw
  have K1 := Lib.hid k1
  have HW := Lib.hid hw1
  unfold av at HCA HCB
  unfold hvv
  clear hw1 k1 b1 s1 hw ha hb hv hi h4 hj h6 hf
  generalize hcs h v = C at HW ⊢
  generalize hCS : adc h.src = CS at *
  generalize hCD : adc h.dst = CD at *
  go_enter Try.func39, Try.ntmps39
  go_wp2_with (first
    | ((try with_reducible rw [← HW.out]); refine wpList_load_mid rfl 24 _ rfl w.heap.size 0 rfl CS _ (hCS ▸ HFF.out.src) Try.underlying24 rfl HZS.out ?_))
  refine (HCA _).out.mono ?_
  rintro e w2 ⟨rfl, k2⟩
  have K2 : Hid (∀ S, Keeps S w w2) := Lib.hid (fun S => (K1.out S).trans (k2 S))
  have F2 := Lib.hid (HFF.out.keeps HWF.out (k2 (fun _ => False)) (fun z => z))
  clear k2
  go_wp2_with (first | (refine wpList_load_want (by kernel_rfl) 24 _ rfl w.heap.size 17 rfl CD _ (hCD ▸ F2.out.dst) Try.underlying24 rfl HZD.out ?_))
  refine (HCB _).out.mono ?_
  rintro e w3 ⟨rfl, k3⟩
  have K3 : Hid (∀ S, Keeps S w w3) := Lib.hid (fun S => (K2.out S).trans (k3 S))
  have F3 := Lib.hid (F2.out.keeps HWF.out (k3 (fun _ => False)) (fun z => z))
  clear k3
  have y0 := F3.out.v6s
  have y17 := F3.out.v6d
  have y34 := F3.out.pr
  have y35 := F3.out.sp
  have y36 := F3.out.dp
  have y39 := F3.out.id
  have y40 := F3.out.fl
  have y41 := F3.out.seq
  rw [H4.out.1] at y0
  rw [← H4.out.2, H4.out.1] at y17
  go_wp2
  try rw [Exit.noGoto_ret]
  go_ret
  exact ⟨rfl, K3.out⟩
set_option maxRecDepth 100000 in
set_option maxHeartbeats 2000000 in
theorem maybe_sqf (h : Hd) (v : Value) (hw : h.Wf) (ha : okA h.src) (hb : okA h.dst) (hv : h.src.v6 = h.dst.v6) (hi : ¬ 1048575 < h.id) (h4 : h.src.v6 = false) (hj : ¬ 65535 < h.id) (h6 : h.pr ≠ 6) (hf : h.fl = 0) (hq : h.seq ≠ 0) : Calls Try.prog 39 #[hvv h v] w fun e w' => e = .returned (.bool false) ∧ ∀ S, Keeps S w w' := by
  obtain ⟨w1, hw1, k1, b1, s1⟩ := box1 w (hcs h v) 29
  have HCA := fun w => Lib.hid (pcheckaddr_ w h.src hw.s)
  rw [errA_ok ha] at HCA
  have HCB := fun w => Lib.hid (pcheckaddr_ w h.dst hw.d)
  rw [errA_ok hb] at HCB
  have di : ¬ (1048575 : Int) < (h.id : Int) := by omega
  have di2 : decide ((1048575 : Int) < (h.id : Int)) = false := decide_eq_false di
  have dj : ¬ (65535 : Int) < (h.id : Int) := by omega
  have dj2 : decide ((65535 : Int) < (h.id : Int)) = false := decide_eq_false dj
  have d_pr_6 : ((h.pr : Int) == 6) = false := beq_eq_false_iff_ne.2 (by omega)
  have e_pr_6 : ((h.pr : Int) != 6) = true := bne_iff_ne.2 (by omega)
  have d_fl_0 : ((h.fl : Int) == 0) = true := beq_iff_eq.2 (by omega)
  have e_fl_0 : ((h.fl : Int) != 0) = false := by rw [bne_eq_false_iff_eq]; omega
  have d_seq_0 : ((h.seq : Int) == 0) = false := beq_eq_false_iff_ne.2 (by omega)
  have e_seq_0 : ((h.seq : Int) != 0) = true := bne_iff_ne.2 (by omega)
  have H4 := Lib.hid (And.intro h4 hv)
  have HFF := Lib.hid (HF.of_blk hw b1)
  have HZS := Lib.hid (ad_sz hw.s)
  have HZD := Lib.hid (ad_sz hw.d)
  have HWF := Lib.hid hw
  have K1 := Lib.hid k1
  have HW := Lib.hid hw1
  unfold av at HCA HCB
  unfold hvv
  clear hw1 k1 b1 s1 hw ha hb hv hi h4 hj h6 hf hq
  generalize hcs h v = C at HW ⊢
  generalize hCS : adc h.src = CS at *
  generalize hCD : adc h.dst = CD at *
  go_enter Try.func39, Try.ntmps39
  go_wp2_with (first
    | ((try with_reducible rw [← HW.out]); refine wpList_load_mid rfl 24 _ rfl w.heap.size 0 rfl CS _ (hCS ▸ HFF.out.src) Try.underlying24 rfl HZS.out ?_))
  refine (HCA _).out.mono ?_
  rintro e w2 ⟨rfl, k2⟩
  have K2 : Hid (∀ S, Keeps S w w2) := Lib.hid (fun S => (K1.out S).trans (k2 S))
  have F2 := Lib.hid (HFF.out.keeps HWF.out (k2 (fun _ => False)) (fun z => z))
  clear k2
  go_wp2_with (first | (refine wpList_load_want (by kernel_rfl) 24 _ rfl w.heap.size 17 rfl CD _ (hCD ▸ F2.out.dst) Try.underlying24 rfl HZD.out ?_))
  refine (HCB _).out.mono ?_
  rintro e w3 ⟨rfl, k3⟩
  have K3 : Hid (∀ S, Keeps S w w3) := Lib.hid (fun S => (K2.out S).trans (k3 S))
  have F3 := Lib.hid (F2.out.keeps HWF.out (k3 (fun _ => False)) (fun z => z))
  clear k3
  have y0 := F3.out.v6s
  have y17 := F3.out.v6d
  have y34 := F3.out.pr
  have y35 := F3.out.sp
  have y36 := F3.out.dp
  have y39 := F3.out.id
  have y40 := F3.out.fl
  have y41 := F3.out.seq
  rw [H4.out.1] at y0
  rw [← H4.out.2, H4.out.1] at y17
  go_wp2
  try rw [Exit.noGoto_ret]
  go_ret
  exact ⟨rfl, K3.out⟩
set_option maxRecDepth 100000 in
set_option maxHeartbeats 2000000 in
theorem maybe_tcf (h : Hd) (v : Value) (hw : h.Wf) (ha : okA h.src) (hb : okA h.dst) (hv : h.src.v6 = h.dst.v6) (hi : ¬ 1048575 < h.id) (h4 : h.src.v6 = false) (hj : ¬ 65535 < h.id) (h6 : h.pr = 6) : Calls Try.prog 39 #[hvv h v] w fun e w' => e = .returned (.bool true) ∧ ∀ S, Keeps S w w' := by
  obtain ⟨w1, hw1, k1, b1, s1⟩ := box1 w (hcs h v) 29
  have HCA := fun w => Lib.hid (pcheckaddr_ w h.src hw.s)
  rw [errA_ok ha] at HCA
  have HCB := fun w => Lib.hid (pcheckaddr_ w h.dst hw.d)
  rw [errA_ok hb] at HCB
  have HM := fun w => Lib.hid (pmids_ w h.pr)
  rw [show mids h.pr = 20 from by rw [h6]; rfl] at HM
  have di : ¬ (1048575 : Int) < (h.id : Int) := by omega
  have di2 : decide ((1048575 : Int) < (h.id : Int)) = false := decide_eq_false di
  have dj : ¬ (65535 : Int) < (h.id : Int) := by omega
  have dj2 : decide ((65535 : Int) < (h.id : Int)) = false := decide_eq_false dj
  have d_pr_6 : ((h.pr : Int) == 6) = true := beq_iff_eq.2 (by omega)
  have e_pr_6 : ((h.pr : Int) != 6) = false := by rw [bne_eq_false_iff_eq]; omega
  have H4 := Lib.hid (And.intro h4 hv)
  have HFF := Lib.hid (HF.of_blk hw b1)
  have HZS := Lib.hid (ad_sz hw.s)
  have HZD := Lib.hid (ad_sz hw.d)
  have HWF := Lib.hid hw
  have K1 := Lib.hid k1
  have HW := Lib.hid hw1
  unfold av at HCA HCB
  unfold hvv
  clear hw1 k1 b1 s1 hw ha hb hv hi h4 hj h6
  generalize hcs h v = C at HW ⊢
  generalize hCS : adc h.src = CS at *
  generalize hCD : adc h.dst = CD at *
  go_enter Try.func39, Try.ntmps39
  go_wp2_with (first
    | ((try with_reducible rw [← HW.out]); refine wpList_load_mid rfl 24 _ rfl w.heap.size 0 rfl CS _ (hCS ▸ HFF.out.src) Try.underlying24 rfl HZS.out ?_))
  refine (HCA _).out.mono ?_
  rintro e w2 ⟨rfl, k2⟩
  have K2 : Hid (∀ S, Keeps S w w2) := Lib.hid (fun S => (K1.out S).trans (k2 S))
  have F2 := Lib.hid (HFF.out.keeps HWF.out (k2 (fun _ => False)) (fun z => z))
  clear k2
  go_wp2_with (first | (refine wpList_load_want (by kernel_rfl) 24 _ rfl w.heap.size 17 rfl CD _ (hCD ▸ F2.out.dst) Try.underlying24 rfl HZD.out ?_))
  refine (HCB _).out.mono ?_
  rintro e w3 ⟨rfl, k3⟩
  have K3 : Hid (∀ S, Keeps S w w3) := Lib.hid (fun S => (K2.out S).trans (k3 S))
  have F3 := Lib.hid (F2.out.keeps HWF.out (k3 (fun _ => False)) (fun z => z))
  clear k3
  have y0 := F3.out.v6s
  have y17 := F3.out.v6d
  have y34 := F3.out.pr
  have y35 := F3.out.sp
  have y36 := F3.out.dp
  have y39 := F3.out.id
  have y40 := F3.out.fl
  have y41 := F3.out.seq
  rw [H4.out.1] at y0
  rw [← H4.out.2, H4.out.1] at y17
  go_wp2_with (go_at_call 41; refine (HM _).out.mono ?_; rintro e w9 ⟨rfl, rfl⟩)
  try rw [Exit.noGoto_ret]
  go_ret
  exact ⟨rfl, K3.out⟩
set_option maxRecDepth 100000 in
set_option maxHeartbeats 2000000 in
theorem maybe_udf (h : Hd) (v : Value) (hw : h.Wf) (ha : okA h.src) (hb : okA h.dst) (hv : h.src.v6 = h.dst.v6) (hi : ¬ 1048575 < h.id) (h4 : h.src.v6 = false) (hj : ¬ 65535 < h.id) (h6 : h.pr ≠ 6) (hf : h.fl = 0) (hq : h.seq = 0) (h7 : h.pr = 17) : Calls Try.prog 39 #[hvv h v] w fun e w' => e = .returned (.bool true) ∧ ∀ S, Keeps S w w' := by
  obtain ⟨w1, hw1, k1, b1, s1⟩ := box1 w (hcs h v) 29
  have HCA := fun w => Lib.hid (pcheckaddr_ w h.src hw.s)
  rw [errA_ok ha] at HCA
  have HCB := fun w => Lib.hid (pcheckaddr_ w h.dst hw.d)
  rw [errA_ok hb] at HCB
  have HM := fun w => Lib.hid (pmids_ w h.pr)
  rw [show mids h.pr = 8 from by rw [h7]; rfl] at HM
  have di : ¬ (1048575 : Int) < (h.id : Int) := by omega
  have di2 : decide ((1048575 : Int) < (h.id : Int)) = false := decide_eq_false di
  have dj : ¬ (65535 : Int) < (h.id : Int) := by omega
  have dj2 : decide ((65535 : Int) < (h.id : Int)) = false := decide_eq_false dj
  have d_pr_6 : ((h.pr : Int) == 6) = false := beq_eq_false_iff_ne.2 (by omega)
  have e_pr_6 : ((h.pr : Int) != 6) = true := bne_iff_ne.2 (by omega)
  have d_fl_0 : ((h.fl : Int) == 0) = true := beq_iff_eq.2 (by omega)
  have e_fl_0 : ((h.fl : Int) != 0) = false := by rw [bne_eq_false_iff_eq]; omega
  have d_seq_0 : ((h.seq : Int) == 0) = true := beq_iff_eq.2 (by omega)
  have e_seq_0 : ((h.seq : Int) != 0) = false := by rw [bne_eq_false_iff_eq]; omega
  have H4 := Lib.hid (And.intro h4 hv)
  have HFF := Lib.hid (HF.of_blk hw b1)
  have HZS := Lib.hid (ad_sz hw.s)
  have HZD := Lib.hid (ad_sz hw.d)
  have HWF := Lib.hid hw
  have K1 := Lib.hid k1
  have HW := Lib.hid hw1
  unfold av at HCA HCB
  unfold hvv
  clear hw1 k1 b1 s1 hw ha hb hv hi h4 hj h6 hf hq h7
  generalize hcs h v = C at HW ⊢
  generalize hCS : adc h.src = CS at *
  generalize hCD : adc h.dst = CD at *
  go_enter Try.func39, Try.ntmps39
  go_wp2_with (first
    | ((try with_reducible rw [← HW.out]); refine wpList_load_mid rfl 24 _ rfl w.heap.size 0 rfl CS _ (hCS ▸ HFF.out.src) Try.underlying24 rfl HZS.out ?_))
  refine (HCA _).out.mono ?_
  rintro e w2 ⟨rfl, k2⟩
  have K2 : Hid (∀ S, Keeps S w w2) := Lib.hid (fun S => (K1.out S).trans (k2 S))
  have F2 := Lib.hid (HFF.out.keeps HWF.out (k2 (fun _ => False)) (fun z => z))
  clear k2
  go_wp2_with (first | (refine wpList_load_want (by kernel_rfl) 24 _ rfl w.heap.size 17 rfl CD _ (hCD ▸ F2.out.dst) Try.underlying24 rfl HZD.out ?_))
  refine (HCB _).out.mono ?_
  rintro e w3 ⟨rfl, k3⟩
  have K3 : Hid (∀ S, Keeps S w w3) := Lib.hid (fun S => (K2.out S).trans (k3 S))
  have F3 := Lib.hid (F2.out.keeps HWF.out (k3 (fun _ => False)) (fun z => z))
  clear k3
  have y0 := F3.out.v6s
  have y17 := F3.out.v6d
  have y34 := F3.out.pr
  have y35 := F3.out.sp
  have y36 := F3.out.dp
  have y39 := F3.out.id
  have y40 := F3.out.fl
  have y41 := F3.out.seq
  rw [H4.out.1] at y0
  rw [← H4.out.2, H4.out.1] at y17
  go_wp2_with (go_at_call 41; refine (HM _).out.mono ?_; rintro e w9 ⟨rfl, rfl⟩)
  try rw [Exit.noGoto_ret]
  go_ret
  exact ⟨rfl, K3.out⟩
set_option maxRecDepth 100000 in
set_option maxHeartbeats 2000000 in
theorem maybe_spf (h : Hd) (v : Value) (hw : h.Wf) (ha : okA h.src) (hb : okA h.dst) (hv : h.src.v6 = h.dst.v6) (hi : ¬ 1048575 < h.id) (h4 : h.src.v6 = false) (hj : ¬ 65535 < h.id) (h6 : h.pr ≠ 6) (hf : h.fl = 0) (hq : h.seq = 0) (h7 : h.pr ≠ 17) (hs : h.sp ≠ 0) : Calls Try.prog 39 #[hvv h v] w fun e w' => e = .returned (.bool false) ∧ ∀ S, Keeps S w w' := by
  obtain ⟨w1, hw1, k1, b1, s1⟩ := box1 w (hcs h v) 29
  have HCA := fun w => Lib.hid (pcheckaddr_ w h.src hw.s)
  rw [errA_ok ha] at HCA
  have HCB := fun w => Lib.hid (pcheckaddr_ w h.dst hw.d)
  rw [errA_ok hb] at HCB
  have HM := fun w => Lib.hid (pmids_ w h.pr)
  rw [midsN h6 h7] at HM
  have di : ¬ (1048575 : Int) < (h.id : Int) := by omega
  have di2 : decide ((1048575 : Int) < (h.id : Int)) = false := decide_eq_false di
  have dj : ¬ (65535 : Int) < (h.id : Int) := by omega
  have dj2 : decide ((65535 : Int) < (h.id : Int)) = false := decide_eq_false dj
  have d_pr_6 : ((h.pr : Int) == 6) = false := beq_eq_false_iff_ne.2 (by omega)
  have e_pr_6 : ((h.pr : Int) != 6) = true := bne_iff_ne.2 (by omega)
  have d_fl_0 : ((h.fl : Int) == 0) = true := beq_iff_eq.2 (by omega)
  have e_fl_0 : ((h.fl : Int) != 0) = false := by rw [bne_eq_false_iff_eq]; omega
  have d_seq_0 : ((h.seq : Int) == 0) = true := beq_iff_eq.2 (by omega)
  have e_seq_0 : ((h.seq : Int) != 0) = false := by rw [bne_eq_false_iff_eq]; omega
  have d_sp_0 : ((h.sp : Int) == 0) = false := beq_eq_false_iff_ne.2 (by omega)
  have e_sp_0 : ((h.sp : Int) != 0) = true := bne_iff_ne.2 (by omega)
  have H4 := Lib.hid (And.intro h4 hv)
  have HFF := Lib.hid (HF.of_blk hw b1)
  have HZS := Lib.hid (ad_sz hw.s)
  have HZD := Lib.hid (ad_sz hw.d)
  have HWF := Lib.hid hw
  have K1 := Lib.hid k1
  have HW := Lib.hid hw1
  unfold av at HCA HCB
  unfold hvv
  clear hw1 k1 b1 s1 hw ha hb hv hi h4 hj h6 hf hq h7 hs
  generalize hcs h v = C at HW ⊢
  generalize hCS : adc h.src = CS at *
  generalize hCD : adc h.dst = CD at *
  go_enter Try.func39, Try.ntmps39
  go_wp2_with (first
    | ((try with_reducible rw [← HW.out]); refine wpList_load_mid rfl 24 _ rfl w.heap.size 0 rfl CS _ (hCS ▸ HFF.out.src) Try.underlying24 rfl HZS.out ?_))
  refine (HCA _).out.mono ?_
  rintro e w2 ⟨rfl, k2⟩
  have K2 : Hid (∀ S, Keeps S w w2) := Lib.hid (fun S => (K1.out S).trans (k2 S))
  have F2 := Lib.hid (HFF.out.keeps HWF.out (k2 (fun _ => False)) (fun z => z))
  clear k2
  go_wp2_with (first | (refine wpList_load_want (by kernel_rfl) 24 _ rfl w.heap.size 17 rfl CD _ (hCD ▸ F2.out.dst) Try.underlying24 rfl HZD.out ?_))
  refine (HCB _).out.mono ?_
  rintro e w3 ⟨rfl, k3⟩
  have K3 : Hid (∀ S, Keeps S w w3) := Lib.hid (fun S => (K2.out S).trans (k3 S))
  have F3 := Lib.hid (F2.out.keeps HWF.out (k3 (fun _ => False)) (fun z => z))
  clear k3
  have y0 := F3.out.v6s
  have y17 := F3.out.v6d
  have y34 := F3.out.pr
  have y35 := F3.out.sp
  have y36 := F3.out.dp
  have y39 := F3.out.id
  have y40 := F3.out.fl
  have y41 := F3.out.seq
  rw [H4.out.1] at y0
  rw [← H4.out.2, H4.out.1] at y17
  go_wp2_with (go_at_call 41; refine (HM _).out.mono ?_; rintro e w9 ⟨rfl, rfl⟩)
  try rw [Exit.noGoto_ret]
  go_ret
  exact ⟨rfl, K3.out⟩
set_option maxRecDepth 100000 in
set_option maxHeartbeats 2000000 in
theorem maybe_dpf (h : Hd) (v : Value) (hw : h.Wf) (ha : okA h.src) (hb : okA h.dst) (hv : h.src.v6 = h.dst.v6) (hi : ¬ 1048575 < h.id) (h4 : h.src.v6 = false) (hj : ¬ 65535 < h.id) (h6 : h.pr ≠ 6) (hf : h.fl = 0) (hq : h.seq = 0) (h7 : h.pr ≠ 17) (hs : h.sp = 0) (hd : h.dp ≠ 0) : Calls Try.prog 39 #[hvv h v] w fun e w' => e = .returned (.bool false) ∧ ∀ S, Keeps S w w' := by
  obtain ⟨w1, hw1, k1, b1, s1⟩ := box1 w (hcs h v) 29
  have HCA := fun w => Lib.hid (pcheckaddr_ w h.src hw.s)
  rw [errA_ok ha] at HCA
  have HCB := fun w => Lib.hid (pcheckaddr_ w h.dst hw.d)
  rw [errA_ok hb] at HCB
  have HM := fun w => Lib.hid (pmids_ w h.pr)
  rw [midsN h6 h7] at HM
  have di : ¬ (1048575 : Int) < (h.id : Int) := by omega
  have di2 : decide ((1048575 : Int) < (h.id : Int)) = false := decide_eq_false di
  have dj : ¬ (65535 : Int) < (h.id : Int) := by omega
  have dj2 : decide ((65535 : Int) < (h.id : Int)) = false := decide_eq_false dj
  have d_pr_6 : ((h.pr : Int) == 6) = false := beq_eq_false_iff_ne.2 (by omega)
  have e_pr_6 : ((h.pr : Int) != 6) = true := bne_iff_ne.2 (by omega)
  have d_fl_0 : ((h.fl : Int) == 0) = true := beq_iff_eq.2 (by omega)
  have e_fl_0 : ((h.fl : Int) != 0) = false := by rw [bne_eq_false_iff_eq]; omega
  have d_seq_0 : ((h.seq : Int) == 0) = true := beq_iff_eq.2 (by omega)
  have e_seq_0 : ((h.seq : Int) != 0) = false := by rw [bne_eq_false_iff_eq]; omega
  have d_sp_0 : ((h.sp : Int) == 0) = true := beq_iff_eq.2 (by omega)
  have e_sp_0 : ((h.sp : Int) != 0) = false := by rw [bne_eq_false_iff_eq]; omega
  have d_dp_0 : ((h.dp : Int) == 0) = false := beq_eq_false_iff_ne.2 (by omega)
  have e_dp_0 : ((h.dp : Int) != 0) = true := bne_iff_ne.2 (by omega)
  have H4 := Lib.hid (And.intro h4 hv)
  have HFF := Lib.hid (HF.of_blk hw b1)
  have HZS := Lib.hid (ad_sz hw.s)
  have HZD := Lib.hid (ad_sz hw.d)
  have HWF := Lib.hid hw
  have K1 := Lib.hid k1
  have HW := Lib.hid hw1
  unfold av at HCA HCB
  unfold hvv
  clear hw1 k1 b1 s1 hw ha hb hv hi h4 hj h6 hf hq h7 hs hd
  generalize hcs h v = C at HW ⊢
  generalize hCS : adc h.src = CS at *
  generalize hCD : adc h.dst = CD at *
  go_enter Try.func39, Try.ntmps39
  go_wp2_with (first
    | ((try with_reducible rw [← HW.out]); refine wpList_load_mid rfl 24 _ rfl w.heap.size 0 rfl CS _ (hCS ▸ HFF.out.src) Try.underlying24 rfl HZS.out ?_))
  refine (HCA _).out.mono ?_
  rintro e w2 ⟨rfl, k2⟩
  have K2 : Hid (∀ S, Keeps S w w2) := Lib.hid (fun S => (K1.out S).trans (k2 S))
  have F2 := Lib.hid (HFF.out.keeps HWF.out (k2 (fun _ => False)) (fun z => z))
  clear k2
  go_wp2_with (first | (refine wpList_load_want (by kernel_rfl) 24 _ rfl w.heap.size 17 rfl CD _ (hCD ▸ F2.out.dst) Try.underlying24 rfl HZD.out ?_))
  refine (HCB _).out.mono ?_
  rintro e w3 ⟨rfl, k3⟩
  have K3 : Hid (∀ S, Keeps S w w3) := Lib.hid (fun S => (K2.out S).trans (k3 S))
  have F3 := Lib.hid (F2.out.keeps HWF.out (k3 (fun _ => False)) (fun z => z))
  clear k3
  have y0 := F3.out.v6s
  have y17 := F3.out.v6d
  have y34 := F3.out.pr
  have y35 := F3.out.sp
  have y36 := F3.out.dp
  have y39 := F3.out.id
  have y40 := F3.out.fl
  have y41 := F3.out.seq
  rw [H4.out.1] at y0
  rw [← H4.out.2, H4.out.1] at y17
  go_wp2_with (go_at_call 41; refine (HM _).out.mono ?_; rintro e w9 ⟨rfl, rfl⟩)
  try rw [Exit.noGoto_ret]
  go_ret
  exact ⟨rfl, K3.out⟩
set_option maxRecDepth 100000 in
set_option maxHeartbeats 2000000 in
theorem maybe_okf (h : Hd) (v : Value) (hw : h.Wf) (ha : okA h.src) (hb : okA h.dst) (hv : h.src.v6 = h.dst.v6) (hi : ¬ 1048575 < h.id) (h4 : h.src.v6 = false) (hj : ¬ 65535 < h.id) (h6 : h.pr ≠ 6) (hf : h.fl = 0) (hq : h.seq = 0) (h7 : h.pr ≠ 17) (hs : h.sp = 0) (hd : h.dp = 0) : Calls Try.prog 39 #[hvv h v] w fun e w' => e = .returned (.bool true) ∧ ∀ S, Keeps S w w' := by
  obtain ⟨w1, hw1, k1, b1, s1⟩ := box1 w (hcs h v) 29
  have HCA := fun w => Lib.hid (pcheckaddr_ w h.src hw.s)
  rw [errA_ok ha] at HCA
  have HCB := fun w => Lib.hid (pcheckaddr_ w h.dst hw.d)
  rw [errA_ok hb] at HCB
  have HM := fun w => Lib.hid (pmids_ w h.pr)
  rw [midsN h6 h7] at HM
  have di : ¬ (1048575 : Int) < (h.id : Int) := by omega
  have di2 : decide ((1048575 : Int) < (h.id : Int)) = false := decide_eq_false di
  have dj : ¬ (65535 : Int) < (h.id : Int) := by omega
  have dj2 : decide ((65535 : Int) < (h.id : Int)) = false := decide_eq_false dj
  have d_pr_6 : ((h.pr : Int) == 6) = false := beq_eq_false_iff_ne.2 (by omega)
  have e_pr_6 : ((h.pr : Int) != 6) = true := bne_iff_ne.2 (by omega)
  have d_fl_0 : ((h.fl : Int) == 0) = true := beq_iff_eq.2 (by omega)
  have e_fl_0 : ((h.fl : Int) != 0) = false := by rw [bne_eq_false_iff_eq]; omega
  have d_seq_0 : ((h.seq : Int) == 0) = true := beq_iff_eq.2 (by omega)
  have e_seq_0 : ((h.seq : Int) != 0) = false := by rw [bne_eq_false_iff_eq]; omega
  have d_sp_0 : ((h.sp : Int) == 0) = true := beq_iff_eq.2 (by omega)
  have e_sp_0 : ((h.sp : Int) != 0) = false := by rw [bne_eq_false_iff_eq]; omega
  have d_dp_0 : ((h.dp : Int) == 0) = true := beq_iff_eq.2 (by omega)
  have e_dp_0 : ((h.dp : Int) != 0) = false := by rw [bne_eq_false_iff_eq]; omega
  have H4 := Lib.hid (And.intro h4 hv)
  have HFF := Lib.hid (HF.of_blk hw b1)
  have HZS := Lib.hid (ad_sz hw.s)
  have HZD := Lib.hid (ad_sz hw.d)
  have HWF := Lib.hid hw
  have K1 := Lib.hid k1
  have HW := Lib.hid hw1
  unfold av at HCA HCB
  unfold hvv
  clear hw1 k1 b1 s1 hw ha hb hv hi h4 hj h6 hf hq h7 hs hd
  generalize hcs h v = C at HW ⊢
  generalize hCS : adc h.src = CS at *
  generalize hCD : adc h.dst = CD at *
  go_enter Try.func39, Try.ntmps39
  go_wp2_with (first
    | ((try with_reducible rw [← HW.out]); refine wpList_load_mid rfl 24 _ rfl w.heap.size 0 rfl CS _ (hCS ▸ HFF.out.src) Try.underlying24 rfl HZS.out ?_))
  refine (HCA _).out.mono ?_
  rintro e w2 ⟨rfl, k2⟩
  have K2 : Hid (∀ S, Keeps S w w2) := Lib.hid (fun S => (K1.out S).trans (k2 S))
  have F2 := Lib.hid (HFF.out.keeps HWF.out (k2 (fun _ => False)) (fun z => z))
  clear k2
  go_wp2_with (first | (refine wpList_load_want (by kernel_rfl) 24 _ rfl w.heap.size 17 rfl CD _ (hCD ▸ F2.out.dst) Try.underlying24 rfl HZD.out ?_))
  refine (HCB _).out.mono ?_
  rintro e w3 ⟨rfl, k3⟩
  have K3 : Hid (∀ S, Keeps S w w3) := Lib.hid (fun S => (K2.out S).trans (k3 S))
  have F3 := Lib.hid (F2.out.keeps HWF.out (k3 (fun _ => False)) (fun z => z))
  clear k3
  have y0 := F3.out.v6s
  have y17 := F3.out.v6d
  have y34 := F3.out.pr
  have y35 := F3.out.sp
  have y36 := F3.out.dp
  have y39 := F3.out.id
  have y40 := F3.out.fl
  have y41 := F3.out.seq
  rw [H4.out.1] at y0
  rw [← H4.out.2, H4.out.1] at y17
  go_wp2_with (go_at_call 41; refine (HM _).out.mono ?_; rintro e w9 ⟨rfl, rfl⟩)
  try rw [Exit.noGoto_ret]
  go_ret
  exact ⟨rfl, K3.out⟩
end
end Go.Proofs.Ytidengmcbppcoaa.pk
