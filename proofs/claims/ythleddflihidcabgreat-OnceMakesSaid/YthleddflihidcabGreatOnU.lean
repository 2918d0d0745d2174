/-
  once at uint64: a slot's functions, free.
-/
import Derived.Test.YthleddflihidcabGreatOnSlot
import Derived.Deep.QuietTactic
import Derived.BigQuiet
set_option linter.unusedVariables false
set_option linter.unusedSimpArgs false
namespace Go.Proofs.YthleddflihidcabGreat.onU
open Go.RowKit Go.Proofs.YthleddflihidcabGreat.oc Go.Proofs.YthleddflihidcabGreat.mz Go.Proofs.YthleddflihidcabGreat.at_ Go.Proofs.YthleddflihidcabGreat.on
set_option maxRecDepth 100000 in
set_option maxHeartbeats 2000000 in
theorem begin_ (b o : Nat) (T : TypeId) (pre post : List Value) (v : Value) (w : World) (h : Slot w b o T pre post (sl 0 0 0 0 0 v 0)) :
    Calls Tryz.prog 22 #[.pointer (some ⟨b, o, none⟩)] w fun e w' => e = .returned (.tuple #[]) ∧ Slot w' b o T pre post (sl 0 0 0 4294967296 0 v 0) ∧ Keeps (· = b) w w' := by
  have HA := Lib.hid (wg_add b (o + 4) w (h.cell (k := 4) (by simp [sl])) (h.cell (k := 5) (by simp [sl])) (h.frozen _))
  have H := Lib.hid h
  clear h
  go_enter Tryz.func22, Tryz.ntmps22
  go_wp2_with fail
  refine HA.out.mono ?_
  rintro e w' ⟨rfl, rfl⟩
  go_wp2
  go_end0
  exact ⟨rfl, H.out.put (k := 4) (by simp [sl]) _, Keeps.here _⟩
set_option maxRecDepth 100000 in
set_option maxHeartbeats 2000000 in
theorem fin_nil (b o : Nat) (T : TypeId) (pre post : List Value) (st dn mu wg en num : Int) (v : Value) (G W S : Nat) (x : Int) (u : FrameMode) (w : World) (h : Slot w b o T pre post (sl st dn mu wg en v num))
    (hG : w.cell? ⟨G, 0, none⟩ = some .nilIface) (hW : w.cell? ⟨W, 0, none⟩ = some (.int .i64 x)) (hS : w.cell? ⟨S, 0, none⟩ = some (.pointer (some ⟨b, o, none⟩))) :
    CallsD Tryz.prog 65 #[.pointer (some ⟨G, 0, none⟩), .pointer (some ⟨W, 0, none⟩), .pointer (some ⟨S, 0, none⟩)] u w fun e u' w' => u' = u ∧ (e = .returned (.tuple #[]) ∧ Slot w' b o T pre post (sl en dn mu wg en v num) ∧ Keeps (· = b) w w') := by
  have hE : w.cell? ⟨b, o + 6, none⟩ = some (.int .u64 en) := h.cell (k := 6) (by simp [sl])
  have HST := Lib.hid (u64_store b o st en w.drew (h.cell0 (by simp [sl])) (h.frozen _))
  have H := Lib.hid h
  clear h
  have hsd : w.drew.cell? ⟨S, 0, none⟩ = some (.pointer (some ⟨b, o, none⟩)) := by go_simp
  have hed : w.drew.cell? ⟨b, o + 6, none⟩ = some (.int .u64 en) := by go_simp
  go_enter_d Tryz.func65, Tryz.ntmps65
  go_wp2_with fail
  refine (tell_nil _ _ _).mono ?_
  rintro e w' ⟨rfl, rfl⟩
  go_wp2_with fail
  go_still_tail 7, (by kernel_rfl)
  go_wp2_with fail
  refine HST.out.mono ?_
  rintro e w' ⟨rfl, rfl⟩
  go_wp2
  go_end0
  exact ⟨rfl, ⟨H.out.blk.drew, H.out.len⟩ |> fun (q : Slot w.drew b o T pre post _) => q.put0 (by simp [sl]) _, (Keeps.refl _ w).drew.trans (Keeps.here _)⟩
set_option maxRecDepth 100000 in
set_option maxHeartbeats 2000000 in
theorem rec_idle (w : World) : CallsD Tryz.prog 85 #[] .returning w fun e u' w' => e = .returned (.tuple #[]) ∧ u' = .returning ∧ w' = w := by
  refine callsD_of_wpS Tryz.func85 rfl fun c₀ cs hu => ?_
  apply wpS_region
  simp [wpOpsS, go_sem, recoverD, hu, Tryz.ntmps85, bodyPostS, results, Tryz.results85]
  cases c₀
  simp_all
set_option maxRecDepth 100000 in
set_option maxHeartbeats 2000000 in
theorem call_ok (b o : Nat) (T : TypeId) (pre post : List Value) (st dn mu en num : Int) (v0 : Value) (x : Int) (f : FuncId) (cp : Array Value) (S : Nat → Prop) (Q : World → Prop) (w : World)
    (h : Slot w b o T pre post (sl st dn mu 4294967296 en v0 num)) (hS : ¬ S b) (hQ : ∀ w1 w2, Q w1 → Keeps (· = b) w1 w2 → Q w2) 
    (HI : ∀ args w, (callFunc f args).run Tryz.prog w = .ok (.enter f args) w)
    (HM : ∀ w1, Keeps (· = b) w w1 → Calls Tryz.prog f cp w1 fun e w' => e = .returned (.tuple #[.int .u64 x, .int .i64 0]) ∧ Keeps S w1 w' ∧ Q w') :
    Calls Tryz.prog 66 #[.pointer (some ⟨b, o, none⟩), .func (.func f) #[] cp] w fun e w' => e = .returned (.tuple #[]) ∧ Slot w' b o T pre post (sl st dn mu 0 2 (.int .u64 x) num) ∧ Keeps (fun k => k = b ∨ S k) w w' ∧ Q w' := by
  have h6 : w.cell? ⟨b, o + 6, none⟩ = some (.int .u64 en) := h.cell (k := 6) (by simp [sl])
  have f6 : w.frozen? ⟨b, o + 6, none⟩ = false := h.frozen _
  have k1 : Keeps (· = b) w (w.setCell ⟨b, o + 6, none⟩ (.int .u64 4)) := Keeps.here _
  have s1 : Slot (w.setCell ⟨b, o + 6, none⟩ (.int .u64 4)) b o T pre post (sl st dn mu 4294967296 4 v0 num) := h.put (k := 6) (by simp [sl]) _
  have HC := Lib.hid (HM _ k1)
  have K1 := Lib.hid k1
  have S1 := Lib.hid s1
  have HQ : Hid (∀ w1 w2, Q w1 → Keeps (· = b) w1 w2 → Q w2) := Lib.hid hQ
  clear h k1 s1 hQ HM
  go_enter_defers Tryz.func66, Tryz.ntmps66
  go_wp2_with fail
  refine HC.out.mono ?_
  rintro e w2 ⟨rfl, k2, q2⟩
  have s2 := S1.out.keeps k2 hS
  have h7 : w2.cell? ⟨b, o + 7, none⟩ = some v0 := s2.cell (k := 7) (by simp [sl])
  have f7 : w2.frozen? ⟨b, o + 7, none⟩ = false := s2.frozen _
  have h6' : w2.cell? ⟨b, o + 6, none⟩ = some (.int .u64 4) := s2.cell (k := 6) (by simp [sl])
  have f6' : w2.frozen? ⟨b, o + 6, none⟩ = false := s2.frozen _
  have K2 := Lib.hid k2
  have Q2 := Lib.hid q2
  have S2 := Lib.hid s2
  clear k2 q2 s2
  go_wp2
  refine leaves_cons (f := 85) (args := #[]) (by simp) (by simp [go_sem]) ?_
  refine (rec_idle _).mono ?_
  rintro e u' w3 ⟨rfl, rfl, rfl⟩
  have s3 := (S2.out.put (k := 7) (by simp [sl]) (.int .u64 x)).put (k := 6) (by simp [sl]) (.int .u64 2)
  have k3 : Keeps (· = b) w2 ((w2.setCell ⟨b, o + 7, none⟩ (.int .u64 x)).setCell ⟨b, o + 6, none⟩ (.int .u64 2)) := (Keeps.here _).trans (Keeps.here _)
  refine leaves_cons (f := 84) (args := #[.pointer (some ⟨b, o + 4, none⟩)]) (by simp [settle]) (by simp [go_sem]) ?_
  refine (wg_done b (o + 4) _ _ (s3.cell (k := 4) (by simp [sl])) (s3.frozen _)).mono ?_
  rintro e u' w4 ⟨rfl, rfl, rfl⟩
  have s4 := s3.put (k := 4) (by simp [sl]) (.int .u64 0)
  have k4 := k3.trans (Keeps.here (b := b) (i := o + 4) (.int .u64 0))
  refine ⟨_, results_none rfl _ _ _, rfl, s4, ?_, HQ.out _ _ Q2.out k4⟩
  exact ((K1.out.mono (fun _ _ e => .inl e)).trans (K2.out.mono (fun _ _ e => .inr e))).trans (k4.mono (fun _ _ e => .inl e))
set_option maxRecDepth 100000 in
set_option maxHeartbeats 2000000 in
theorem call_err (b o : Nat) (T : TypeId) (pre post : List Value) (st dn mu en num : Int) (v0 : Value) (x : Int) (r : Int) (f : FuncId) (cp : Array Value) (S : Nat → Prop) (Q : World → Prop) (w : World)
    (h : Slot w b o T pre post (sl st dn mu 4294967296 en v0 num)) (hS : ¬ S b) (hQ : ∀ w1 w2, Q w1 → Keeps (· = b) w1 w2 → Q w2) (hr : (r == 0) = false)
    (HI : ∀ args w, (callFunc f args).run Tryz.prog w = .ok (.enter f args) w)
    (HM : ∀ w1, Keeps (· = b) w w1 → Calls Tryz.prog f cp w1 fun e w' => e = .returned (.tuple #[.int .u64 x, .int .i64 r]) ∧ Keeps S w1 w' ∧ Q w') :
    Calls Tryz.prog 66 #[.pointer (some ⟨b, o, none⟩), .func (.func f) #[] cp] w fun e w' => e = .returned (.tuple #[]) ∧ Slot w' b o T pre post (sl st dn mu 0 3 v0 r) ∧ Keeps (fun k => k = b ∨ S k) w w' ∧ Q w' := by
  have h6 : w.cell? ⟨b, o + 6, none⟩ = some (.int .u64 en) := h.cell (k := 6) (by simp [sl])
  have f6 : w.frozen? ⟨b, o + 6, none⟩ = false := h.frozen _
  have k1 : Keeps (· = b) w (w.setCell ⟨b, o + 6, none⟩ (.int .u64 4)) := Keeps.here _
  have s1 : Slot (w.setCell ⟨b, o + 6, none⟩ (.int .u64 4)) b o T pre post (sl st dn mu 4294967296 4 v0 num) := h.put (k := 6) (by simp [sl]) _
  have HC := Lib.hid (HM _ k1)
  have K1 := Lib.hid k1
  have S1 := Lib.hid s1
  have HQ : Hid (∀ w1 w2, Q w1 → Keeps (· = b) w1 w2 → Q w2) := Lib.hid hQ
  clear h k1 s1 hQ HM
  go_enter_defers Tryz.func66, Tryz.ntmps66
  go_wp2_with fail
  refine HC.out.mono ?_
  rintro e w2 ⟨rfl, k2, q2⟩
  have s2 := S1.out.keeps k2 hS
  have h7 : w2.cell? ⟨b, o + 8, none⟩ = some (.int .i64 num) := s2.cell (k := 8) (by simp [sl])
  have f7 : w2.frozen? ⟨b, o + 8, none⟩ = false := s2.frozen _
  have h6' : w2.cell? ⟨b, o + 6, none⟩ = some (.int .u64 4) := s2.cell (k := 6) (by simp [sl])
  have f6' : w2.frozen? ⟨b, o + 6, none⟩ = false := s2.frozen _
  have K2 := Lib.hid k2
  have Q2 := Lib.hid q2
  have S2 := Lib.hid s2
  clear k2 q2 s2
  go_wp2
  refine leaves_cons (f := 85) (args := #[]) (by simp) (by simp [go_sem]) ?_
  refine (rec_idle _).mono ?_
  rintro e u' w3 ⟨rfl, rfl, rfl⟩
  have s3 := (S2.out.put (k := 8) (by simp [sl]) (.int .i64 r)).put (k := 6) (by simp [sl]) (.int .u64 3)
  have k3 : Keeps (· = b) w2 ((w2.setCell ⟨b, o + 8, none⟩ (.int .i64 r)).setCell ⟨b, o + 6, none⟩ (.int .u64 3)) := (Keeps.here _).trans (Keeps.here _)
  refine leaves_cons (f := 84) (args := #[.pointer (some ⟨b, o + 4, none⟩)]) (by simp [settle]) (by simp [go_sem]) ?_
  refine (wg_done b (o + 4) _ _ (s3.cell (k := 4) (by simp [sl])) (s3.frozen _)).mono ?_
  rintro e u' w4 ⟨rfl, rfl, rfl⟩
  have s4 := s3.put (k := 4) (by simp [sl]) (.int .u64 0)
  have k4 := k3.trans (Keeps.here (b := b) (i := o + 4) (.int .u64 0))
  refine ⟨_, results_none rfl _ _ _, rfl, s4, ?_, HQ.out _ _ Q2.out k4⟩
  exact ((K1.out.mono (fun _ _ e => .inl e)).trans (K2.out.mono (fun _ _ e => .inr e))).trans (k4.mono (fun _ _ e => .inl e))
set_option maxRecDepth 100000 in
set_option maxHeartbeats 2000000 in
theorem fill_ok (b o : Nat) (T : TypeId) (pre post : List Value) (st dn mu en num y : Int) (v0 : Value) (x : Int) (f : FuncId) (cp : Array Value) (S : Nat → Prop) (Q : World → Prop) (w : World)
    (h : Slot w b o T pre post (sl st dn mu 4294967296 en v0 num)) (hS : ¬ S b) (hSw : ∀ k, S k → k < w.heap.size) (hQ : ∀ w1 w2, Q w1 → Keeps (· = b) w1 w2 → Q w2) 
    (HI : ∀ args w, (callFunc f args).run Tryz.prog w = .ok (.enter f args) w)
    (HM : ∀ w1, Keeps (· = b) w w1 → Calls Tryz.prog f cp w1 fun e w' => e = .returned (.tuple #[.int .u64 x, .int .i64 0]) ∧ Keeps S w1 w' ∧ Q w') :
    Calls Tryz.prog 41 #[.pointer (some ⟨b, o, none⟩), .nilIface, .int .i64 y, .func (.func f) #[] cp] w fun e w' => e = .returned (.tuple #[]) ∧ Slot w' b o T pre post (sl 2 dn mu 0 2 (.int .u64 x) num) ∧ Keeps (fun k => k = b ∨ S k) w w' ∧ Q w' := by
  have hmf : ∀ (fn : Fn) (first cap : Array Value) (w : World), (Instr.makeFunc fn first cap).run Tryz.prog w = .ok (.func fn first cap) w := fun _ _ _ _ => rfl
  have hb := h.lt
  obtain ⟨w1, hw1⟩ : ∃ w1, w1 = ((w.alloc (.cells #[.pointer (some ⟨b, o, none⟩)] 117)).alloc (.cells #[.nilIface] 87)).alloc (.cells #[.int .i64 y] 3) := ⟨_, rfl⟩
  have k1 : Keeps (fun _ => False) w w1 := by rw [hw1]; exact (((Keeps.refl _ w).alloc _).alloc _).alloc _
  have z1 : w1.heap.size = w.heap.size + 3 := by rw [hw1]; simp
  have cS : w1.cell? ⟨w.heap.size, 0, none⟩ = some (.pointer (some ⟨b, o, none⟩)) := by
    have q := (((Blk.new w 117 #[.pointer (some ⟨b, o, none⟩)]).alloc (.cells #[.nilIface] 87)).alloc (.cells #[.int .i64 y] 3)).cell 0
    rw [hw1]; exact q
  have cG : w1.cell? ⟨w.heap.size + 1, 0, none⟩ = some .nilIface := by
    have q := ((Blk.new (w.alloc (.cells #[.pointer (some ⟨b, o, none⟩)] 117)) 87 #[.nilIface]).alloc (.cells #[.int .i64 y] 3)).cell 0
    rw [hw1]; simpa using q
  have cW : w1.cell? ⟨w.heap.size + 2, 0, none⟩ = some (.int .i64 y) := by
    have q := (Blk.new ((w.alloc (.cells #[.pointer (some ⟨b, o, none⟩)] 117)).alloc (.cells #[.nilIface] 87)) 3 #[.int .i64 y]).cell 0
    rw [hw1]; simpa using q
  have s1 := h.keeps k1 (fun z => z)
  have HC := Lib.hid (call_ok b o T pre post st dn mu en num v0 x  f cp S Q w1 s1 hS hQ  HI (fun w2 k2 => HM w2 ((k1.mono (fun _ _ z => z.elim)).trans k2)))
  have HW := Lib.hid hw1
  have K1 := Lib.hid k1
  have CG := Lib.hid cG
  have CW := Lib.hid cW
  have CS := Lib.hid cS
  have Z1 : Hid (w1.heap.size = w.heap.size + 3) := Lib.hid z1
  have HQ : Hid (∀ w1 w2, Q w1 → Keeps (· = b) w1 w2 → Q w2) := Lib.hid hQ
  have HSW : Hid (∀ k, S k → k < w.heap.size) := Lib.hid hSw
  clear h k1 s1 hw1 cG cW z1 hQ HM hSw
  go_enter_defers Tryz.func41, Tryz.ntmps41
  go_wp2_with fail
  rw [← HW.out]
  go_wp2_with fail
  refine HC.out.mono ?_
  rintro e w2 ⟨rfl, s2, k2, q2⟩
  have S2 := Lib.hid s2
  have K2 := Lib.hid k2
  have Q2 := Lib.hid q2
  clear s2 k2 q2
  go_wp2
  have hno : ∀ k, w.heap.size ≤ k → ¬ (k = b ∨ S k) := fun k hk z => by
    rcases z with z | z
    · omega
    · have := HSW.out k z; omega
  refine leaves_cons (f := 65) (args := #[.pointer (some ⟨w.heap.size + 1, 0, none⟩), .pointer (some ⟨w.heap.size + 2, 0, none⟩), .pointer (some ⟨w.heap.size, 0, none⟩)]) (by simp) (by simp [go_sem]) ?_
  refine (fin_nil b o T pre post st dn mu 0 2 num (.int .u64 x) (w.heap.size + 1) (w.heap.size + 2) w.heap.size y .returning w2 S2.out (Keeps.cell K2.out CG.out (hno _ (by omega))) (Keeps.cell K2.out CW.out (hno _ (by omega))) (Keeps.cell K2.out CS.out (hno _ (by omega)))).mono ?_
  rintro e u' w3 ⟨rfl, rfl, s3, k3⟩
  refine ⟨_, results_none rfl _ _ _, rfl, s3, ?_, HQ.out _ _ Q2.out k3⟩
  exact ((K1.out.mono (fun _ _ e => e.elim)).trans K2.out).trans (k3.mono (fun _ _ e => .inl e))
set_option maxRecDepth 100000 in
set_option maxHeartbeats 2000000 in
theorem free1_ok (b o : Nat) (T : TypeId) (pre post : List Value) (dn mu en num : Int) (SB MB : Nat) (v0 : Value) (x : Int) (f : FuncId) (cp : Array Value) (S : Nat → Prop) (Q : World → Prop) (w : World)
    (hb1 : w.cell? ⟨SB, 0, none⟩ = some (.pointer (some ⟨b, o, none⟩))) (hb2 : w.cell? ⟨MB, 0, none⟩ = some (.func (.func f) #[] cp)) (hm1 : SB ≠ b) (hm2 : MB ≠ b)
    (h : Slot w b o T pre post (sl 0 dn mu 4294967296 en v0 num)) (hS : ¬ S b) (hSw : ∀ k, S k → k < w.heap.size) (hQ : ∀ w1 w2, Q w1 → Keeps (· = b) w1 w2 → Q w2) 
    (HI : ∀ args w, (callFunc f args).run Tryz.prog w = .ok (.enter f args) w)
    (HM : ∀ w1, Keeps (· = b) w w1 → Calls Tryz.prog f cp w1 fun e w' => e = .returned (.tuple #[.int .u64 x, .int .i64 0]) ∧ Keeps S w1 w' ∧ Q w') :
    Calls Tryz.prog 61 #[.pointer (some ⟨SB, 0, none⟩), .pointer (some ⟨MB, 0, none⟩)] w fun e w' => e = .returned (.tuple #[]) ∧ Slot w' b o T pre post (sl 2 dn mu 0 2 (.int .u64 x) num) ∧ Keeps (fun k => k = b ∨ S k) w w' ∧ Q w' := by
  have HA := Lib.hid (u64_cas b o 0 1 w (h.cell0 (by simp [sl])) (h.frozen _))
  have s1 : Slot (w.setCell ⟨b, o, none⟩ (.int .u64 1)) b o T pre post (sl 1 dn mu 4294967296 en v0 num) := h.put0 (by simp [sl]) _
  have k1 : Keeps (· = b) w (w.setCell ⟨b, o, none⟩ (.int .u64 1)) := Keeps.here _
  obtain ⟨w1, hw1⟩ : ∃ w1, w1 = w.setCell ⟨b, o, none⟩ (.int .u64 1) := ⟨_, rfl⟩
  rw [← hw1] at s1 k1 HA
  have c1 := Keeps.cell k1 hb1 hm1
  have c2 := Keeps.cell k1 hb2 hm2
  have HF := Lib.hid (fill_ok b o T pre post 1 dn mu en num 0 v0 x  f cp S Q w1 s1 hS (fun k hk => by have := hSw k hk; have := k1.size; omega) hQ  HI (fun w2 k2 => HM w2 (k1.trans k2)))
  have K1 := Lib.hid k1
  clear h s1 k1 hw1 hQ HM hSw
  go_enter Tryz.func61, Tryz.ntmps61
  go_wp2_with fail
  refine HA.out.mono ?_
  rintro e w' ⟨rfl, rfl⟩
  go_wp2_with fail
  refine HF.out.mono ?_
  rintro e w2 ⟨rfl, s2, k2, q2⟩
  have S2 := Lib.hid s2
  have K2 := Lib.hid k2
  have Q2 := Lib.hid q2
  clear s2 k2 q2
  go_wp2
  first | go_end0 | refine bodyPost_ret (results_none rfl _ _ _) rfl ?_
  exact ⟨rfl, S2.out, (K1.out.mono (fun _ _ e => .inl e)).trans K2.out, Q2.out⟩
set_option maxRecDepth 100000 in
set_option maxHeartbeats 2000000 in
theorem fill_err (b o : Nat) (T : TypeId) (pre post : List Value) (st dn mu en num y : Int) (v0 : Value) (x : Int) (r : Int) (f : FuncId) (cp : Array Value) (S : Nat → Prop) (Q : World → Prop) (w : World)
    (h : Slot w b o T pre post (sl st dn mu 4294967296 en v0 num)) (hS : ¬ S b) (hSw : ∀ k, S k → k < w.heap.size) (hQ : ∀ w1 w2, Q w1 → Keeps (· = b) w1 w2 → Q w2) (hr : (r == 0) = false)
    (HI : ∀ args w, (callFunc f args).run Tryz.prog w = .ok (.enter f args) w)
    (HM : ∀ w1, Keeps (· = b) w w1 → Calls Tryz.prog f cp w1 fun e w' => e = .returned (.tuple #[.int .u64 x, .int .i64 r]) ∧ Keeps S w1 w' ∧ Q w') :
    Calls Tryz.prog 41 #[.pointer (some ⟨b, o, none⟩), .nilIface, .int .i64 y, .func (.func f) #[] cp] w fun e w' => e = .returned (.tuple #[]) ∧ Slot w' b o T pre post (sl 3 dn mu 0 3 v0 r) ∧ Keeps (fun k => k = b ∨ S k) w w' ∧ Q w' := by
  have hmf : ∀ (fn : Fn) (first cap : Array Value) (w : World), (Instr.makeFunc fn first cap).run Tryz.prog w = .ok (.func fn first cap) w := fun _ _ _ _ => rfl
  have hb := h.lt
  obtain ⟨w1, hw1⟩ : ∃ w1, w1 = ((w.alloc (.cells #[.pointer (some ⟨b, o, none⟩)] 117)).alloc (.cells #[.nilIface] 87)).alloc (.cells #[.int .i64 y] 3) := ⟨_, rfl⟩
  have k1 : Keeps (fun _ => False) w w1 := by rw [hw1]; exact (((Keeps.refl _ w).alloc _).alloc _).alloc _
  have z1 : w1.heap.size = w.heap.size + 3 := by rw [hw1]; simp
  have cS : w1.cell? ⟨w.heap.size, 0, none⟩ = some (.pointer (some ⟨b, o, none⟩)) := by
    have q := (((Blk.new w 117 #[.pointer (some ⟨b, o, none⟩)]).alloc (.cells #[.nilIface] 87)).alloc (.cells #[.int .i64 y] 3)).cell 0
    rw [hw1]; exact q
  have cG : w1.cell? ⟨w.heap.size + 1, 0, none⟩ = some .nilIface := by
    have q := ((Blk.new (w.alloc (.cells #[.pointer (some ⟨b, o, none⟩)] 117)) 87 #[.nilIface]).alloc (.cells #[.int .i64 y] 3)).cell 0
    rw [hw1]; simpa using q
  have cW : w1.cell? ⟨w.heap.size + 2, 0, none⟩ = some (.int .i64 y) := by
    have q := (Blk.new ((w.alloc (.cells #[.pointer (some ⟨b, o, none⟩)] 117)).alloc (.cells #[.nilIface] 87)) 3 #[.int .i64 y]).cell 0
    rw [hw1]; simpa using q
  have s1 := h.keeps k1 (fun z => z)
  have HC := Lib.hid (call_err b o T pre post st dn mu en num v0 x r f cp S Q w1 s1 hS hQ hr HI (fun w2 k2 => HM w2 ((k1.mono (fun _ _ z => z.elim)).trans k2)))
  have HW := Lib.hid hw1
  have K1 := Lib.hid k1
  have CG := Lib.hid cG
  have CW := Lib.hid cW
  have CS := Lib.hid cS
  have Z1 : Hid (w1.heap.size = w.heap.size + 3) := Lib.hid z1
  have HQ : Hid (∀ w1 w2, Q w1 → Keeps (· = b) w1 w2 → Q w2) := Lib.hid hQ
  have HSW : Hid (∀ k, S k → k < w.heap.size) := Lib.hid hSw
  clear h k1 s1 hw1 cG cW z1 hQ HM hSw
  go_enter_defers Tryz.func41, Tryz.ntmps41
  go_wp2_with fail
  rw [← HW.out]
  go_wp2_with fail
  refine HC.out.mono ?_
  rintro e w2 ⟨rfl, s2, k2, q2⟩
  have S2 := Lib.hid s2
  have K2 := Lib.hid k2
  have Q2 := Lib.hid q2
  clear s2 k2 q2
  go_wp2
  have hno : ∀ k, w.heap.size ≤ k → ¬ (k = b ∨ S k) := fun k hk z => by
    rcases z with z | z
    · omega
    · have := HSW.out k z; omega
  refine leaves_cons (f := 65) (args := #[.pointer (some ⟨w.heap.size + 1, 0, none⟩), .pointer (some ⟨w.heap.size + 2, 0, none⟩), .pointer (some ⟨w.heap.size, 0, none⟩)]) (by simp) (by simp [go_sem]) ?_
  refine (fin_nil b o T pre post st dn mu 0 3 r v0 (w.heap.size + 1) (w.heap.size + 2) w.heap.size y .returning w2 S2.out (Keeps.cell K2.out CG.out (hno _ (by omega))) (Keeps.cell K2.out CW.out (hno _ (by omega))) (Keeps.cell K2.out CS.out (hno _ (by omega)))).mono ?_
  rintro e u' w3 ⟨rfl, rfl, s3, k3⟩
  refine ⟨_, results_none rfl _ _ _, rfl, s3, ?_, HQ.out _ _ Q2.out k3⟩
  exact ((K1.out.mono (fun _ _ e => e.elim)).trans K2.out).trans (k3.mono (fun _ _ e => .inl e))
set_option maxRecDepth 100000 in
set_option maxHeartbeats 2000000 in
theorem free1_err (b o : Nat) (T : TypeId) (pre post : List Value) (dn mu en num : Int) (SB MB : Nat) (v0 : Value) (x : Int) (r : Int) (f : FuncId) (cp : Array Value) (S : Nat → Prop) (Q : World → Prop) (w : World)
    (hb1 : w.cell? ⟨SB, 0, none⟩ = some (.pointer (some ⟨b, o, none⟩))) (hb2 : w.cell? ⟨MB, 0, none⟩ = some (.func (.func f) #[] cp)) (hm1 : SB ≠ b) (hm2 : MB ≠ b)
    (h : Slot w b o T pre post (sl 0 dn mu 4294967296 en v0 num)) (hS : ¬ S b) (hSw : ∀ k, S k → k < w.heap.size) (hQ : ∀ w1 w2, Q w1 → Keeps (· = b) w1 w2 → Q w2) (hr : (r == 0) = false)
    (HI : ∀ args w, (callFunc f args).run Tryz.prog w = .ok (.enter f args) w)
    (HM : ∀ w1, Keeps (· = b) w w1 → Calls Tryz.prog f cp w1 fun e w' => e = .returned (.tuple #[.int .u64 x, .int .i64 r]) ∧ Keeps S w1 w' ∧ Q w') :
    Calls Tryz.prog 61 #[.pointer (some ⟨SB, 0, none⟩), .pointer (some ⟨MB, 0, none⟩)] w fun e w' => e = .returned (.tuple #[]) ∧ Slot w' b o T pre post (sl 3 dn mu 0 3 v0 r) ∧ Keeps (fun k => k = b ∨ S k) w w' ∧ Q w' := by
  have HA := Lib.hid (u64_cas b o 0 1 w (h.cell0 (by simp [sl])) (h.frozen _))
  have s1 : Slot (w.setCell ⟨b, o, none⟩ (.int .u64 1)) b o T pre post (sl 1 dn mu 4294967296 en v0 num) := h.put0 (by simp [sl]) _
  have k1 : Keeps (· = b) w (w.setCell ⟨b, o, none⟩ (.int .u64 1)) := Keeps.here _
  obtain ⟨w1, hw1⟩ : ∃ w1, w1 = w.setCell ⟨b, o, none⟩ (.int .u64 1) := ⟨_, rfl⟩
  rw [← hw1] at s1 k1 HA
  have c1 := Keeps.cell k1 hb1 hm1
  have c2 := Keeps.cell k1 hb2 hm2
  have HF := Lib.hid (fill_err b o T pre post 1 dn mu en num 0 v0 x r f cp S Q w1 s1 hS (fun k hk => by have := hSw k hk; have := k1.size; omega) hQ hr HI (fun w2 k2 => HM w2 (k1.trans k2)))
  have K1 := Lib.hid k1
  clear h s1 k1 hw1 hQ HM hSw
  go_enter Tryz.func61, Tryz.ntmps61
  go_wp2_with fail
  refine HA.out.mono ?_
  rintro e w' ⟨rfl, rfl⟩
  go_wp2_with fail
  refine HF.out.mono ?_
  rintro e w2 ⟨rfl, s2, k2, q2⟩
  have S2 := Lib.hid s2
  have K2 := Lib.hid k2
  have Q2 := Lib.hid q2
  clear s2 k2 q2
  go_wp2
  first | go_end0 | refine bodyPost_ret (results_none rfl _ _ _) rfl ?_
  exact ⟨rfl, S2.out, (K1.out.mono (fun _ _ e => .inl e)).trans K2.out, Q2.out⟩
set_option maxRecDepth 100000 in
set_option maxHeartbeats 2000000 in
theorem do_done (b o : Nat) (T : TypeId) (pre post : List Value) (st mu wg en num : Int) (v : Value) (fv : Value) (w : World) (h : Slot w b o T pre post (sl st 1 mu wg en v num)) :
    Calls Tryz.prog 60 #[.pointer (some ⟨b, o + 1, none⟩), fv] w fun e w' => e = .returned (.tuple #[]) ∧ w = w' := by
  have HL := Lib.hid (flag_load1 b (o + 1) w (h.cell (k := 1) (by simp [sl])))
  have hnot := not_run
  clear h
  go_enter Tryz.func60, Tryz.ntmps60
  go_wp2_with fail
  refine HL.out.mono ?_
  rintro e w' ⟨rfl, rfl⟩
  go_wp2
  go_end0
  exact ⟨rfl, rfl⟩
set_option maxRecDepth 100000 in
set_option maxHeartbeats 2000000 in
theorem ans_ok (b o : Nat) (T : TypeId) (pre post : List Value) (st dn mu wg en num : Int) (x : Int) (w : World) (h : Slot w b o T pre post (sl st dn mu wg en (.int .u64 x) num)) :
    Calls Tryz.prog 42 #[.pointer (some ⟨b, o, none⟩), .int .u64 2] w fun e w' => e = .returned (.tuple #[.int .u64 x, .int .i64 0]) ∧ ∃ n, w' = w.drewN n := by
  have h7 : w.cell? ⟨b, o + 7, none⟩ = some (.int .u64 x) := h.cell (k := 7) (by simp [sl])
  clear h
  go_enter Tryz.func42, Tryz.ntmps42
  go_wp2
  try rw [Exit.noGoto_ret]
  go_ret2
  exact ⟨rfl, 0, rfl⟩
set_option maxRecDepth 100000 in
set_option maxHeartbeats 2000000 in
theorem ans_err (b o : Nat) (T : TypeId) (pre post : List Value) (st dn mu wg en r : Int) (v : Value) (w : World) (h : Slot w b o T pre post (sl st dn mu wg en v r)) :
    Calls Tryz.prog 42 #[.pointer (some ⟨b, o, none⟩), .int .u64 3] w fun e w' => e = .returned (.tuple #[.int .u64 0, .int .i64 r]) ∧ ∃ n, w' = w.drewN n := by
  have h8 : w.cell? ⟨b, o + 8, none⟩ = some (.int .i64 r) := h.cell (k := 8) (by simp [sl])
  clear h
  go_enter Tryz.func42, Tryz.ntmps42
  go_wp2
  go_quiet (fail)
  go_wp2
  try rw [Exit.noGoto_ret]
  go_ret2
  exact ⟨rfl, _, rfl⟩
set_option maxRecDepth 100000 in
set_option maxHeartbeats 2000000 in
theorem slow_ok (b o : Nat) (T : TypeId) (pre post : List Value) (en num : Int) (SB MB : Nat) (v0 : Value) (x : Int) (f : FuncId) (cp : Array Value) (S : Nat → Prop) (Q : World → Prop) (w : World)
    (hb1 : w.cell? ⟨SB, 0, none⟩ = some (.pointer (some ⟨b, o, none⟩))) (hb2 : w.cell? ⟨MB, 0, none⟩ = some (.func (.func f) #[] cp)) (hm1 : SB ≠ b) (hm2 : MB ≠ b)
    (h : Slot w b o T pre post (sl 0 0 0 4294967296 en v0 num)) (hS : ¬ S b) (hSw : ∀ k, S k → k < w.heap.size) (hQ : ∀ w1 w2, Q w1 → Keeps (· = b) w1 w2 → Q w2) 
    (HI : ∀ args w, (callFunc f args).run Tryz.prog w = .ok (.enter f args) w)
    (HM : ∀ w1, Keeps (· = b) w w1 → Calls Tryz.prog f cp w1 fun e w' => e = .returned (.tuple #[.int .u64 x, .int .i64 0]) ∧ Keeps S w1 w' ∧ Q w') :
    Calls Tryz.prog 79 #[.pointer (some ⟨b, o + 1, none⟩), .func (.func 61) #[] #[.pointer (some ⟨SB, 0, none⟩), .pointer (some ⟨MB, 0, none⟩)]] w fun e w' => e = .returned (.tuple #[]) ∧ Slot w' b o T pre post (sl 2 1 0 0 2 (.int .u64 x) num) ∧ Keeps (fun k => k = b ∨ S k) w w' ∧ Q w' := by
  have HA := Lib.hid (mu_lock b (o + 2) w (h.cell (k := 2) (by simp [sl])) (h.frozen _))
  have s1 : Slot (w.setCell ⟨b, o + 2, none⟩ (.int .i32 1)) b o T pre post (sl 0 0 1 4294967296 en v0 num) := h.put (k := 2) (by simp [sl]) _
  have k1 : Keeps (· = b) w (w.setCell ⟨b, o + 2, none⟩ (.int .i32 1)) := Keeps.here _
  obtain ⟨w1, hw1⟩ : ∃ w1, w1 = w.setCell ⟨b, o + 2, none⟩ (.int .i32 1) := ⟨_, rfl⟩
  rw [← hw1] at s1 k1 HA
  have c1 := Keeps.cell k1 hb1 hm1
  have c2 := Keeps.cell k1 hb2 hm2
  have HL := Lib.hid (flag_load0 b (o + 1) w1 (s1.cell (k := 1) (by simp [sl])))
  have HF := Lib.hid (free1_ok b o T pre post 0 1 en num SB MB v0 x  f cp S Q w1 c1 c2 hm1 hm2 s1 hS (fun k hk => by have := hSw k hk; have := k1.size; omega) hQ  HI (fun w2 k2 => HM w2 (k1.trans k2)))
  have K1 := Lib.hid k1
  have HQ : Hid (∀ w1 w2, Q w1 → Keeps (· = b) w1 w2 → Q w2) := Lib.hid hQ
  have hnot := not_run
  clear h s1 k1 hw1 hQ HM hSw c1 c2 hb1 hb2
  go_enter_defers Tryz.func79, Tryz.ntmps79
  go_wp2_with fail
  refine HA.out.mono ?_
  rintro e w' ⟨rfl, rfl⟩
  go_wp2_with fail
  refine HL.out.mono ?_
  rintro e w' ⟨rfl, rfl⟩
  go_wp2_with fail
  refine HF.out.mono ?_
  rintro e w2 ⟨rfl, s2, k2, q2⟩
  have S2 := Lib.hid s2
  have K2 := Lib.hid k2
  have Q2 := Lib.hid q2
  clear s2 k2 q2
  go_wp2
  refine leaves_cons (f := 93) (args := #[.pointer (some ⟨b, o + 1, none⟩), .bool true]) (by simp) (by simp [go_sem]) ?_
  refine (flag_store b (o + 1) (.int .u32 0) .returning w2 (S2.out.cell (k := 1) (by simp [sl])) (S2.out.frozen _)).mono ?_
  rintro e u' w3 ⟨rfl, rfl, rfl⟩
  have s3 : Slot (w2.drew.setCell ⟨b, o + 1, none⟩ (.int .u32 1)) b o T pre post (sl 2 1 1 0 2 (.int .u64 x) num) := (S2.out.drewN 1).put (k := 1) (by simp [sl]) _
  have k3 : Keeps (· = b) w2 (w2.drew.setCell ⟨b, o + 1, none⟩ (.int .u32 1)) := (Keeps.refl (· = b) w2).drew.trans (Keeps.here _)
  refine leaves_cons (f := 92) (args := #[.pointer (some ⟨b, o + 2, none⟩)]) (by simp [settle]) (by simp [go_sem]) ?_
  refine (mu_unlock b (o + 2) _ _ (s3.cell (k := 2) (by simp [sl])) (s3.frozen _)).mono ?_
  rintro e u' w4 ⟨rfl, rfl, rfl⟩
  have s4 := s3.put (k := 2) (by simp [sl]) (.int .i32 0)
  have k4 := k3.trans (Keeps.here (b := b) (i := o + 2) (.int .i32 0))
  refine ⟨_, results_none rfl _ _ _, rfl, s4, ?_, HQ.out _ _ Q2.out k4⟩
  exact ((K1.out.mono (fun _ _ e => .inl e)).trans K2.out).trans (k4.mono (fun _ _ e => .inl e))
set_option maxRecDepth 100000 in
set_option maxHeartbeats 2000000 in
theorem do_ok (b o : Nat) (T : TypeId) (pre post : List Value) (en num : Int) (SB MB : Nat) (v0 : Value) (x : Int) (f : FuncId) (cp : Array Value) (S : Nat → Prop) (Q : World → Prop) (w : World)
    (hb1 : w.cell? ⟨SB, 0, none⟩ = some (.pointer (some ⟨b, o, none⟩))) (hb2 : w.cell? ⟨MB, 0, none⟩ = some (.func (.func f) #[] cp)) (hm1 : SB ≠ b) (hm2 : MB ≠ b)
    (h : Slot w b o T pre post (sl 0 0 0 4294967296 en v0 num)) (hS : ¬ S b) (hSw : ∀ k, S k → k < w.heap.size) (hQ : ∀ w1 w2, Q w1 → Keeps (· = b) w1 w2 → Q w2) 
    (HI : ∀ args w, (callFunc f args).run Tryz.prog w = .ok (.enter f args) w)
    (HM : ∀ w1, Keeps (· = b) w w1 → Calls Tryz.prog f cp w1 fun e w' => e = .returned (.tuple #[.int .u64 x, .int .i64 0]) ∧ Keeps S w1 w' ∧ Q w') :
    Calls Tryz.prog 60 #[.pointer (some ⟨b, o + 1, none⟩), .func (.func 61) #[] #[.pointer (some ⟨SB, 0, none⟩), .pointer (some ⟨MB, 0, none⟩)]] w fun e w' => e = .returned (.tuple #[]) ∧ Slot w' b o T pre post (sl 2 1 0 0 2 (.int .u64 x) num) ∧ Keeps (fun k => k = b ∨ S k) w w' ∧ Q w' := by
  have HL := Lib.hid (flag_load0 b (o + 1) w (h.cell (k := 1) (by simp [sl])))
  have HF := Lib.hid (slow_ok b o T pre post en num SB MB v0 x  f cp S Q w hb1 hb2 hm1 hm2 h hS hSw hQ  HI HM)
  have hnot := not_run
  clear h hQ HM hSw hb1 hb2 HI
  go_enter Tryz.func60, Tryz.ntmps60
  go_wp2_with fail
  refine HL.out.mono ?_
  rintro e w' ⟨rfl, rfl⟩
  go_wp2_with fail
  refine HF.out.mono ?_
  rintro e w2 ⟨rfl, s2, k2, q2⟩
  have S2 := Lib.hid s2
  have K2 := Lib.hid k2
  have Q2 := Lib.hid q2
  clear s2 k2 q2
  go_wp2
  go_end0
  exact ⟨rfl, S2.out, K2.out, Q2.out⟩
set_option maxRecDepth 100000 in
set_option maxHeartbeats 2000000 in
theorem slow_err (b o : Nat) (T : TypeId) (pre post : List Value) (en num : Int) (SB MB : Nat) (v0 : Value) (x : Int) (r : Int) (f : FuncId) (cp : Array Value) (S : Nat → Prop) (Q : World → Prop) (w : World)
    (hb1 : w.cell? ⟨SB, 0, none⟩ = some (.pointer (some ⟨b, o, none⟩))) (hb2 : w.cell? ⟨MB, 0, none⟩ = some (.func (.func f) #[] cp)) (hm1 : SB ≠ b) (hm2 : MB ≠ b)
    (h : Slot w b o T pre post (sl 0 0 0 4294967296 en v0 num)) (hS : ¬ S b) (hSw : ∀ k, S k → k < w.heap.size) (hQ : ∀ w1 w2, Q w1 → Keeps (· = b) w1 w2 → Q w2) (hr : (r == 0) = false)
    (HI : ∀ args w, (callFunc f args).run Tryz.prog w = .ok (.enter f args) w)
    (HM : ∀ w1, Keeps (· = b) w w1 → Calls Tryz.prog f cp w1 fun e w' => e = .returned (.tuple #[.int .u64 x, .int .i64 r]) ∧ Keeps S w1 w' ∧ Q w') :
    Calls Tryz.prog 79 #[.pointer (some ⟨b, o + 1, none⟩), .func (.func 61) #[] #[.pointer (some ⟨SB, 0, none⟩), .pointer (some ⟨MB, 0, none⟩)]] w fun e w' => e = .returned (.tuple #[]) ∧ Slot w' b o T pre post (sl 3 1 0 0 3 v0 r) ∧ Keeps (fun k => k = b ∨ S k) w w' ∧ Q w' := by
  have HA := Lib.hid (mu_lock b (o + 2) w (h.cell (k := 2) (by simp [sl])) (h.frozen _))
  have s1 : Slot (w.setCell ⟨b, o + 2, none⟩ (.int .i32 1)) b o T pre post (sl 0 0 1 4294967296 en v0 num) := h.put (k := 2) (by simp [sl]) _
  have k1 : Keeps (· = b) w (w.setCell ⟨b, o + 2, none⟩ (.int .i32 1)) := Keeps.here _
  obtain ⟨w1, hw1⟩ : ∃ w1, w1 = w.setCell ⟨b, o + 2, none⟩ (.int .i32 1) := ⟨_, rfl⟩
  rw [← hw1] at s1 k1 HA
  have c1 := Keeps.cell k1 hb1 hm1
  have c2 := Keeps.cell k1 hb2 hm2
  have HL := Lib.hid (flag_load0 b (o + 1) w1 (s1.cell (k := 1) (by simp [sl])))
  have HF := Lib.hid (free1_err b o T pre post 0 1 en num SB MB v0 x r f cp S Q w1 c1 c2 hm1 hm2 s1 hS (fun k hk => by have := hSw k hk; have := k1.size; omega) hQ hr HI (fun w2 k2 => HM w2 (k1.trans k2)))
  have K1 := Lib.hid k1
  have HQ : Hid (∀ w1 w2, Q w1 → Keeps (· = b) w1 w2 → Q w2) := Lib.hid hQ
  have hnot := not_run
  clear h s1 k1 hw1 hQ HM hSw c1 c2 hb1 hb2
  go_enter_defers Tryz.func79, Tryz.ntmps79
  go_wp2_with fail
  refine HA.out.mono ?_
  rintro e w' ⟨rfl, rfl⟩
  go_wp2_with fail
  refine HL.out.mono ?_
  rintro e w' ⟨rfl, rfl⟩
  go_wp2_with fail
  refine HF.out.mono ?_
  rintro e w2 ⟨rfl, s2, k2, q2⟩
  have S2 := Lib.hid s2
  have K2 := Lib.hid k2
  have Q2 := Lib.hid q2
  clear s2 k2 q2
  go_wp2
  refine leaves_cons (f := 93) (args := #[.pointer (some ⟨b, o + 1, none⟩), .bool true]) (by simp) (by simp [go_sem]) ?_
  refine (flag_store b (o + 1) (.int .u32 0) .returning w2 (S2.out.cell (k := 1) (by simp [sl])) (S2.out.frozen _)).mono ?_
  rintro e u' w3 ⟨rfl, rfl, rfl⟩
  have s3 : Slot (w2.drew.setCell ⟨b, o + 1, none⟩ (.int .u32 1)) b o T pre post (sl 3 1 1 0 3 v0 r) := (S2.out.drewN 1).put (k := 1) (by simp [sl]) _
  have k3 : Keeps (· = b) w2 (w2.drew.setCell ⟨b, o + 1, none⟩ (.int .u32 1)) := (Keeps.refl (· = b) w2).drew.trans (Keeps.here _)
  refine leaves_cons (f := 92) (args := #[.pointer (some ⟨b, o + 2, none⟩)]) (by simp [settle]) (by simp [go_sem]) ?_
  refine (mu_unlock b (o + 2) _ _ (s3.cell (k := 2) (by simp [sl])) (s3.frozen _)).mono ?_
  rintro e u' w4 ⟨rfl, rfl, rfl⟩
  have s4 := s3.put (k := 2) (by simp [sl]) (.int .i32 0)
  have k4 := k3.trans (Keeps.here (b := b) (i := o + 2) (.int .i32 0))
  refine ⟨_, results_none rfl _ _ _, rfl, s4, ?_, HQ.out _ _ Q2.out k4⟩
  exact ((K1.out.mono (fun _ _ e => .inl e)).trans K2.out).trans (k4.mono (fun _ _ e => .inl e))
set_option maxRecDepth 100000 in
set_option maxHeartbeats 2000000 in
theorem do_err (b o : Nat) (T : TypeId) (pre post : List Value) (en num : Int) (SB MB : Nat) (v0 : Value) (x : Int) (r : Int) (f : FuncId) (cp : Array Value) (S : Nat → Prop) (Q : World → Prop) (w : World)
    (hb1 : w.cell? ⟨SB, 0, none⟩ = some (.pointer (some ⟨b, o, none⟩))) (hb2 : w.cell? ⟨MB, 0, none⟩ = some (.func (.func f) #[] cp)) (hm1 : SB ≠ b) (hm2 : MB ≠ b)
    (h : Slot w b o T pre post (sl 0 0 0 4294967296 en v0 num)) (hS : ¬ S b) (hSw : ∀ k, S k → k < w.heap.size) (hQ : ∀ w1 w2, Q w1 → Keeps (· = b) w1 w2 → Q w2) (hr : (r == 0) = false)
    (HI : ∀ args w, (callFunc f args).run Tryz.prog w = .ok (.enter f args) w)
    (HM : ∀ w1, Keeps (· = b) w w1 → Calls Tryz.prog f cp w1 fun e w' => e = .returned (.tuple #[.int .u64 x, .int .i64 r]) ∧ Keeps S w1 w' ∧ Q w') :
    Calls Tryz.prog 60 #[.pointer (some ⟨b, o + 1, none⟩), .func (.func 61) #[] #[.pointer (some ⟨SB, 0, none⟩), .pointer (some ⟨MB, 0, none⟩)]] w fun e w' => e = .returned (.tuple #[]) ∧ Slot w' b o T pre post (sl 3 1 0 0 3 v0 r) ∧ Keeps (fun k => k = b ∨ S k) w w' ∧ Q w' := by
  have HL := Lib.hid (flag_load0 b (o + 1) w (h.cell (k := 1) (by simp [sl])))
  have HF := Lib.hid (slow_err b o T pre post en num SB MB v0 x r f cp S Q w hb1 hb2 hm1 hm2 h hS hSw hQ hr HI HM)
  have hnot := not_run
  clear h hQ HM hSw hb1 hb2 HI
  go_enter Tryz.func60, Tryz.ntmps60
  go_wp2_with fail
  refine HL.out.mono ?_
  rintro e w' ⟨rfl, rfl⟩
  go_wp2_with fail
  refine HF.out.mono ?_
  rintro e w2 ⟨rfl, s2, k2, q2⟩
  have S2 := Lib.hid s2
  have K2 := Lib.hid k2
  have Q2 := Lib.hid q2
  clear s2 k2 q2
  go_wp2
  go_end0
  exact ⟨rfl, S2.out, K2.out, Q2.out⟩
set_option maxRecDepth 100000 in
set_option maxHeartbeats 2000000 in
theorem getfree_ok (b o : Nat) (T : TypeId) (pre post : List Value) (en num : Int) (v0 : Value) (x : Int) (f : FuncId) (cp : Array Value) (S : Nat → Prop) (Q : World → Prop) (w : World)
    (h : Slot w b o T pre post (sl 0 0 0 4294967296 en v0 num)) (hS : ¬ S b) (hSw : ∀ k, S k → k < w.heap.size) (hQ : ∀ w1 w2, Q w1 → Keeps (· = b) w1 w2 → Q w2) 
    (HI : ∀ args w, (callFunc f args).run Tryz.prog w = .ok (.enter f args) w)
    (HM : ∀ w1, Keeps (· = b) w w1 → Calls Tryz.prog f cp w1 fun e w' => e = .returned (.tuple #[.int .u64 x, .int .i64 0]) ∧ Keeps S w1 w' ∧ Q w') :
    Calls Tryz.prog 37 #[.pointer (some ⟨b, o, none⟩), .func (.func f) #[] cp] w fun e w' => e = .returned (.tuple #[.int .u64 x, .int .i64 0]) ∧ Slot w' b o T pre post (sl 2 1 0 0 2 (.int .u64 x) num) ∧ Keeps (fun k => k = b ∨ S k) w w' ∧ Q w' := by
  have hmf : ∀ (fn : Fn) (first cap : Array Value) (w : World), (Instr.makeFunc fn first cap).run Tryz.prog w = .ok (.func fn first cap) w := fun _ _ _ _ => rfl
  have hb := h.lt
  obtain ⟨w1, hw1⟩ : ∃ w1, w1 = (w.alloc (.cells #[.pointer (some ⟨b, o, none⟩)] 117)).alloc (.cells #[.func (.func f) #[] cp] 34) := ⟨_, rfl⟩
  have k1 : Keeps (fun _ => False) w w1 := by rw [hw1]; exact ((Keeps.refl _ w).alloc _).alloc _
  have z1 : w1.heap.size = w.heap.size + 2 := by rw [hw1]; simp
  have cS : w1.cell? ⟨w.heap.size, 0, none⟩ = some (.pointer (some ⟨b, o, none⟩)) := by
    have q := ((Blk.new w 117 #[.pointer (some ⟨b, o, none⟩)]).alloc (.cells #[.func (.func f) #[] cp] 34)).cell 0
    rw [hw1]; exact q
  have cM : w1.cell? ⟨w.heap.size + 1, 0, none⟩ = some (.func (.func f) #[] cp) := by
    rw [hw1]; simp
  have s1 := h.keeps k1 (fun z => z)
  have HD := Lib.hid (do_ok b o T pre post en num w.heap.size (w.heap.size + 1) v0 x  f cp S Q w1 cS cM (by omega) (by omega) s1 hS (fun k hk => by have := hSw k hk; omega) hQ  HI (fun w2 k2 => HM w2 ((k1.mono (fun _ _ z => z.elim)).trans k2)))
  have HW := Lib.hid hw1
  have K1 := Lib.hid k1
  have CS := Lib.hid cS
  have HQ : Hid (∀ w1 w2, Q w1 → Keeps (· = b) w1 w2 → Q w2) := Lib.hid hQ
  have HSW : Hid (∀ k, S k → k < w.heap.size) := Lib.hid hSw
  have c0 := cS
  clear h k1 s1 hw1 cS cM z1 hQ HM hSw HI
  go_enter Tryz.func37, Tryz.ntmps37
  go_wp2_with fail
  rw [← HW.out]
  go_wp2_with fail
  refine HD.out.mono ?_
  rintro e w2 ⟨rfl, s2, k2, q2⟩
  have c2 : w2.cell? ⟨w.heap.size, 0, none⟩ = some (.pointer (some ⟨b, o, none⟩)) := Keeps.cell k2 CS.out (fun z => by
    rcases z with z | z
    · omega
    · have := HSW.out _ z; omega)
  have h6 : w2.cell? ⟨b, o + 6, none⟩ = some (.int .u64 2) := s2.cell (k := 6) (by simp [sl])
  have S2 := Lib.hid s2
  have K2 := Lib.hid k2
  have Q2 := Lib.hid q2
  clear s2 k2 q2 c0
  go_wp2
  go_quiet ((go_at_call 42; exact Calls.quiet_of (ans_ok _ _ _ _ _ _ _ _ _ _ _ _ _ (S2.out.drewN _))))
  go_wp2
  try rw [Exit.noGoto_ret]
  go_ret2
  refine ⟨rfl, S2.out.drewN _, ?_, ?_⟩
  · exact ((K1.out.mono (fun _ _ e => e.elim)).trans K2.out).trans (Keeps.of_drew _ _)
  · exact HQ.out _ _ Q2.out (Keeps.of_drew _ _)
set_option maxRecDepth 100000 in
set_option maxHeartbeats 2000000 in
theorem getfree2_ok (b o : Nat) (T : TypeId) (pre post : List Value) (st mu wg num : Int) (v0 : Value) (x : Int) (fv : Value) (w : World) (hfv : ∃ f cp, fv = .func (.func f) #[] cp)
    (h : Slot w b o T pre post (sl st 1 mu wg 2 (.int .u64 x) num)) :
    Calls Tryz.prog 37 #[.pointer (some ⟨b, o, none⟩), fv] w fun e w' => e = .returned (.tuple #[.int .u64 x, .int .i64 0]) ∧ ∀ S, Keeps S w w' := by
  obtain ⟨f, cp, rfl⟩ := hfv
  have hmf : ∀ (fn : Fn) (first cap : Array Value) (w : World), (Instr.makeFunc fn first cap).run Tryz.prog w = .ok (.func fn first cap) w := fun _ _ _ _ => rfl
  have hb := h.lt
  obtain ⟨w1, hw1⟩ : ∃ w1, w1 = (w.alloc (.cells #[.pointer (some ⟨b, o, none⟩)] 117)).alloc (.cells #[.func (.func f) #[] cp] 34) := ⟨_, rfl⟩
  have k1 : ∀ S, Keeps S w w1 := fun S => by rw [hw1]; exact ((Keeps.refl _ w).alloc _).alloc _
  have cS : w1.cell? ⟨w.heap.size, 0, none⟩ = some (.pointer (some ⟨b, o, none⟩)) := by
    have q := ((Blk.new w 117 #[.pointer (some ⟨b, o, none⟩)]).alloc (.cells #[.func (.func f) #[] cp] 34)).cell 0
    rw [hw1]; exact q
  have s1 := h.keeps (k1 (fun _ => False)) (fun z => z)
  have HD := Lib.hid (do_done b o T pre post st mu wg 2 num (.int .u64 x) (.func (.func 61) #[] #[.pointer (some ⟨w.heap.size, 0, none⟩), .pointer (some ⟨w.heap.size + 1, 0, none⟩)]) w1 s1)
  have h6 : w1.cell? ⟨b, o + 6, none⟩ = some (.int .u64 2) := s1.cell (k := 6) (by simp [sl])
  have HW := Lib.hid hw1
  have K1 : Hid (∀ S, Keeps S w w1) := Lib.hid k1
  have S1 := Lib.hid s1
  clear h k1 s1 hw1
  go_enter Tryz.func37, Tryz.ntmps37
  go_wp2_with fail
  rw [← HW.out]
  go_wp2_with fail
  refine HD.out.mono ?_
  rintro e w2 ⟨rfl, rfl⟩
  go_wp2
  go_quiet ((go_at_call 42; exact Calls.quiet_of (ans_ok _ _ _ _ _ _ _ _ _ _ _ _ _ (S1.out.drewN _))))
  go_wp2
  try rw [Exit.noGoto_ret]
  go_ret2
  exact ⟨rfl, fun S => (K1.out S).trans (Keeps.of_drew _ _)⟩
set_option maxRecDepth 100000 in
set_option maxHeartbeats 2000000 in
theorem get_ok (b o : Nat) (T : TypeId) (pre post : List Value) (en num y : Int) (v0 : Value) (x : Int) (f : FuncId) (cp : Array Value) (S : Nat → Prop) (Q : World → Prop) (w : World)
    (h : Slot w b o T pre post (sl 0 0 0 4294967296 en v0 num)) (hS : ¬ S b) (hSw : ∀ k, S k → k < w.heap.size) (hQ : ∀ w1 w2, Q w1 → Keeps (· = b) w1 w2 → Q w2) 
    (HI : ∀ args w, (callFunc f args).run Tryz.prog w = .ok (.enter f args) w)
    (HM : ∀ w1, Keeps (· = b) w w1 → Calls Tryz.prog f cp w1 fun e w' => e = .returned (.tuple #[.int .u64 x, .int .i64 0]) ∧ Keeps S w1 w' ∧ Q w') :
    Calls Tryz.prog 25 #[.pointer (some ⟨b, o, none⟩), .nilIface, .int .i64 y, .func (.func f) #[] cp] w fun e w' => e = .returned (.tuple #[.int .u64 x, .int .i64 0]) ∧ Slot w' b o T pre post (sl 2 1 0 0 2 (.int .u64 x) num) ∧ Keeps (fun k => k = b ∨ S k) w w' ∧ Q w' := by
  have HG := Lib.hid (getfree_ok b o T pre post en num v0 x  f cp S Q w h hS hSw hQ  HI HM)
  clear h HI HM hQ hSw
  go_enter Tryz.func25, Tryz.ntmps25
  go_wp2_with fail
  refine HG.out.mono ?_
  rintro e w2 ⟨rfl, s2, k2, q2⟩
  have S2 := Lib.hid s2
  have K2 := Lib.hid k2
  have Q2 := Lib.hid q2
  clear s2 k2 q2
  go_wp2
  try rw [Exit.noGoto_ret]
  go_ret2
  exact ⟨rfl, S2.out, K2.out, Q2.out⟩
set_option maxRecDepth 100000 in
set_option maxHeartbeats 2000000 in
theorem get2_ok (b o : Nat) (T : TypeId) (pre post : List Value) (st mu wg num y : Int) (v0 : Value) (x : Int) (fv : Value) (w : World) (hfv : ∃ f cp, fv = .func (.func f) #[] cp)
    (h : Slot w b o T pre post (sl st 1 mu wg 2 (.int .u64 x) num)) :
    Calls Tryz.prog 25 #[.pointer (some ⟨b, o, none⟩), .nilIface, .int .i64 y, fv] w fun e w' => e = .returned (.tuple #[.int .u64 x, .int .i64 0]) ∧ ∀ S, Keeps S w w' := by
  have HG := Lib.hid (getfree2_ok b o T pre post st mu wg num v0 x  fv w hfv h)
  clear h hfv
  go_enter Tryz.func25, Tryz.ntmps25
  go_wp2_with fail
  refine HG.out.mono ?_
  rintro e w2 ⟨rfl, k2⟩
  have K2 : Hid (∀ S, Keeps S w w2) := Lib.hid k2
  clear k2
  go_wp2
  try rw [Exit.noGoto_ret]
  go_ret2
  exact ⟨rfl, K2.out⟩
set_option maxRecDepth 100000 in
set_option maxHeartbeats 2000000 in
theorem getfree_err (b o : Nat) (T : TypeId) (pre post : List Value) (en num : Int) (v0 : Value) (x : Int) (r : Int) (f : FuncId) (cp : Array Value) (S : Nat → Prop) (Q : World → Prop) (w : World)
    (h : Slot w b o T pre post (sl 0 0 0 4294967296 en v0 num)) (hS : ¬ S b) (hSw : ∀ k, S k → k < w.heap.size) (hQ : ∀ w1 w2, Q w1 → Keeps (· = b) w1 w2 → Q w2) (hr : (r == 0) = false)
    (HI : ∀ args w, (callFunc f args).run Tryz.prog w = .ok (.enter f args) w)
    (HM : ∀ w1, Keeps (· = b) w w1 → Calls Tryz.prog f cp w1 fun e w' => e = .returned (.tuple #[.int .u64 x, .int .i64 r]) ∧ Keeps S w1 w' ∧ Q w') :
    Calls Tryz.prog 37 #[.pointer (some ⟨b, o, none⟩), .func (.func f) #[] cp] w fun e w' => e = .returned (.tuple #[.int .u64 0, .int .i64 r]) ∧ Slot w' b o T pre post (sl 3 1 0 0 3 v0 r) ∧ Keeps (fun k => k = b ∨ S k) w w' ∧ Q w' := by
  have hmf : ∀ (fn : Fn) (first cap : Array Value) (w : World), (Instr.makeFunc fn first cap).run Tryz.prog w = .ok (.func fn first cap) w := fun _ _ _ _ => rfl
  have hb := h.lt
  obtain ⟨w1, hw1⟩ : ∃ w1, w1 = (w.alloc (.cells #[.pointer (some ⟨b, o, none⟩)] 117)).alloc (.cells #[.func (.func f) #[] cp] 34) := ⟨_, rfl⟩
  have k1 : Keeps (fun _ => False) w w1 := by rw [hw1]; exact ((Keeps.refl _ w).alloc _).alloc _
  have z1 : w1.heap.size = w.heap.size + 2 := by rw [hw1]; simp
  have cS : w1.cell? ⟨w.heap.size, 0, none⟩ = some (.pointer (some ⟨b, o, none⟩)) := by
    have q := ((Blk.new w 117 #[.pointer (some ⟨b, o, none⟩)]).alloc (.cells #[.func (.func f) #[] cp] 34)).cell 0
    rw [hw1]; exact q
  have cM : w1.cell? ⟨w.heap.size + 1, 0, none⟩ = some (.func (.func f) #[] cp) := by
    rw [hw1]; simp
  have s1 := h.keeps k1 (fun z => z)
  have HD := Lib.hid (do_err b o T pre post en num w.heap.size (w.heap.size + 1) v0 x r f cp S Q w1 cS cM (by omega) (by omega) s1 hS (fun k hk => by have := hSw k hk; omega) hQ hr HI (fun w2 k2 => HM w2 ((k1.mono (fun _ _ z => z.elim)).trans k2)))
  have HW := Lib.hid hw1
  have K1 := Lib.hid k1
  have CS := Lib.hid cS
  have HQ : Hid (∀ w1 w2, Q w1 → Keeps (· = b) w1 w2 → Q w2) := Lib.hid hQ
  have HSW : Hid (∀ k, S k → k < w.heap.size) := Lib.hid hSw
  have c0 := cS
  clear h k1 s1 hw1 cS cM z1 hQ HM hSw HI
  go_enter Tryz.func37, Tryz.ntmps37
  go_wp2_with fail
  rw [← HW.out]
  go_wp2_with fail
  refine HD.out.mono ?_
  rintro e w2 ⟨rfl, s2, k2, q2⟩
  have c2 : w2.cell? ⟨w.heap.size, 0, none⟩ = some (.pointer (some ⟨b, o, none⟩)) := Keeps.cell k2 CS.out (fun z => by
    rcases z with z | z
    · omega
    · have := HSW.out _ z; omega)
  have h6 : w2.cell? ⟨b, o + 6, none⟩ = some (.int .u64 3) := s2.cell (k := 6) (by simp [sl])
  have S2 := Lib.hid s2
  have K2 := Lib.hid k2
  have Q2 := Lib.hid q2
  clear s2 k2 q2 c0
  go_wp2
  go_quiet ((go_at_call 42; exact Calls.quiet_of (ans_err _ _ _ _ _ _ _ _ _ _ _ _ _ (S2.out.drewN _))))
  go_wp2
  try rw [Exit.noGoto_ret]
  go_ret2
  refine ⟨rfl, S2.out.drewN _, ?_, ?_⟩
  · exact ((K1.out.mono (fun _ _ e => e.elim)).trans K2.out).trans (Keeps.of_drew _ _)
  · exact HQ.out _ _ Q2.out (Keeps.of_drew _ _)
set_option maxRecDepth 100000 in
set_option maxHeartbeats 2000000 in
theorem getfree2_err (b o : Nat) (T : TypeId) (pre post : List Value) (st mu wg num : Int) (v0 : Value) (x : Int) (r : Int) (fv : Value) (w : World) (hfv : ∃ f cp, fv = .func (.func f) #[] cp)
    (h : Slot w b o T pre post (sl st 1 mu wg 3 v0 r)) :
    Calls Tryz.prog 37 #[.pointer (some ⟨b, o, none⟩), fv] w fun e w' => e = .returned (.tuple #[.int .u64 0, .int .i64 r]) ∧ ∀ S, Keeps S w w' := by
  obtain ⟨f, cp, rfl⟩ := hfv
  have hmf : ∀ (fn : Fn) (first cap : Array Value) (w : World), (Instr.makeFunc fn first cap).run Tryz.prog w = .ok (.func fn first cap) w := fun _ _ _ _ => rfl
  have hb := h.lt
  obtain ⟨w1, hw1⟩ : ∃ w1, w1 = (w.alloc (.cells #[.pointer (some ⟨b, o, none⟩)] 117)).alloc (.cells #[.func (.func f) #[] cp] 34) := ⟨_, rfl⟩
  have k1 : ∀ S, Keeps S w w1 := fun S => by rw [hw1]; exact ((Keeps.refl _ w).alloc _).alloc _
  have cS : w1.cell? ⟨w.heap.size, 0, none⟩ = some (.pointer (some ⟨b, o, none⟩)) := by
    have q := ((Blk.new w 117 #[.pointer (some ⟨b, o, none⟩)]).alloc (.cells #[.func (.func f) #[] cp] 34)).cell 0
    rw [hw1]; exact q
  have s1 := h.keeps (k1 (fun _ => False)) (fun z => z)
  have HD := Lib.hid (do_done b o T pre post st mu wg 3 r v0 (.func (.func 61) #[] #[.pointer (some ⟨w.heap.size, 0, none⟩), .pointer (some ⟨w.heap.size + 1, 0, none⟩)]) w1 s1)
  have h6 : w1.cell? ⟨b, o + 6, none⟩ = some (.int .u64 3) := s1.cell (k := 6) (by simp [sl])
  have HW := Lib.hid hw1
  have K1 : Hid (∀ S, Keeps S w w1) := Lib.hid k1
  have S1 := Lib.hid s1
  clear h k1 s1 hw1
  go_enter Tryz.func37, Tryz.ntmps37
  go_wp2_with fail
  rw [← HW.out]
  go_wp2_with fail
  refine HD.out.mono ?_
  rintro e w2 ⟨rfl, rfl⟩
  go_wp2
  go_quiet ((go_at_call 42; exact Calls.quiet_of (ans_err _ _ _ _ _ _ _ _ _ _ _ _ _ (S1.out.drewN _))))
  go_wp2
  try rw [Exit.noGoto_ret]
  go_ret2
  exact ⟨rfl, fun S => (K1.out S).trans (Keeps.of_drew _ _)⟩
set_option maxRecDepth 100000 in
set_option maxHeartbeats 2000000 in
theorem get_err (b o : Nat) (T : TypeId) (pre post : List Value) (en num y : Int) (v0 : Value) (x : Int) (r : Int) (f : FuncId) (cp : Array Value) (S : Nat → Prop) (Q : World → Prop) (w : World)
    (h : Slot w b o T pre post (sl 0 0 0 4294967296 en v0 num)) (hS : ¬ S b) (hSw : ∀ k, S k → k < w.heap.size) (hQ : ∀ w1 w2, Q w1 → Keeps (· = b) w1 w2 → Q w2) (hr : (r == 0) = false)
    (HI : ∀ args w, (callFunc f args).run Tryz.prog w = .ok (.enter f args) w)
    (HM : ∀ w1, Keeps (· = b) w w1 → Calls Tryz.prog f cp w1 fun e w' => e = .returned (.tuple #[.int .u64 x, .int .i64 r]) ∧ Keeps S w1 w' ∧ Q w') :
    Calls Tryz.prog 25 #[.pointer (some ⟨b, o, none⟩), .nilIface, .int .i64 y, .func (.func f) #[] cp] w fun e w' => e = .returned (.tuple #[.int .u64 0, .int .i64 r]) ∧ Slot w' b o T pre post (sl 3 1 0 0 3 v0 r) ∧ Keeps (fun k => k = b ∨ S k) w w' ∧ Q w' := by
  have HG := Lib.hid (getfree_err b o T pre post en num v0 x r f cp S Q w h hS hSw hQ hr HI HM)
  clear h HI HM hQ hSw
  go_enter Tryz.func25, Tryz.ntmps25
  go_wp2_with fail
  refine HG.out.mono ?_
  rintro e w2 ⟨rfl, s2, k2, q2⟩
  have S2 := Lib.hid s2
  have K2 := Lib.hid k2
  have Q2 := Lib.hid q2
  clear s2 k2 q2
  go_wp2
  try rw [Exit.noGoto_ret]
  go_ret2
  exact ⟨rfl, S2.out, K2.out, Q2.out⟩
set_option maxRecDepth 100000 in
set_option maxHeartbeats 2000000 in
theorem get2_err (b o : Nat) (T : TypeId) (pre post : List Value) (st mu wg num y : Int) (v0 : Value) (x : Int) (r : Int) (fv : Value) (w : World) (hfv : ∃ f cp, fv = .func (.func f) #[] cp)
    (h : Slot w b o T pre post (sl st 1 mu wg 3 v0 r)) :
    Calls Tryz.prog 25 #[.pointer (some ⟨b, o, none⟩), .nilIface, .int .i64 y, fv] w fun e w' => e = .returned (.tuple #[.int .u64 0, .int .i64 r]) ∧ ∀ S, Keeps S w w' := by
  have HG := Lib.hid (getfree2_err b o T pre post st mu wg num v0 x r fv w hfv h)
  clear h hfv
  go_enter Tryz.func25, Tryz.ntmps25
  go_wp2_with fail
  refine HG.out.mono ?_
  rintro e w2 ⟨rfl, k2⟩
  have K2 : Hid (∀ S, Keeps S w w2) := Lib.hid k2
  clear k2
  go_wp2
  try rw [Exit.noGoto_ret]
  go_ret2
  exact ⟨rfl, K2.out⟩
end Go.Proofs.YthleddflihidcabGreat.onU
