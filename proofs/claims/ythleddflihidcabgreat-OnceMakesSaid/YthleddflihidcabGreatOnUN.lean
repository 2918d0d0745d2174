/-
  once at uint64: asked under notes.
-/
import Derived.Test.YthleddflihidcabGreatOnUO
import Derived.Test.YthleddflihidcabGreatOnTell
import Derived.Deep.QuietTactic
import Derived.BigQuiet
set_option linter.unusedVariables false
set_option linter.unusedSimpArgs false
namespace Go.Proofs.YthleddflihidcabGreat.onU
open Go.RowKit Go.Proofs.YthleddflihidcabGreat.oc Go.Proofs.YthleddflihidcabGreat.mz Go.Proofs.YthleddflihidcabGreat.at_ Go.Proofs.YthleddflihidcabGreat.on
set_option maxRecDepth 100000 in
set_option maxHeartbeats 2000000 in
theorem fin_notes (b o : Nat) (T : TypeId) (pre post : List Value) (st dn mu wg en num : Int) (v : Value) (G W S x N : Nat) (ms : List (Nat × Nat)) (F : Nat → Prop) (u : FrameMode) (w : World) (h : Slot w b o T pre post (sl st dn mu wg en v num))
    (hN : NInv w N ms F) (hb : b < N) (hl : ms.length < 1000000) (hSF : ¬ F S)
    (hG : w.cell? ⟨G, 0, none⟩ = some (.iface 41 (.pointer (some ⟨N, 0, none⟩)))) (hW : w.cell? ⟨W, 0, none⟩ = some (.int .i64 (x : Int))) (hS : w.cell? ⟨S, 0, none⟩ = some (.pointer (some ⟨b, o, none⟩))) :
    CallsD Tryz.prog 65 #[.pointer (some ⟨G, 0, none⟩), .pointer (some ⟨W, 0, none⟩), .pointer (some ⟨S, 0, none⟩)] u w fun e u' w' => u' = u ∧ (e = .returned (.tuple #[]) ∧ Slot w' b o T pre post (sl en dn mu wg en v num) ∧ (∃ F', NInv w' N (ms ++ [(2, x)]) F') ∧ Keeps (fun k => k = b ∨ N ≤ k) w w') := by
  have HT := Lib.hid (tell_notes N 2 x w ms F hN hl)
  have H := Lib.hid h
  have HS := Lib.hid hS
  have HA := Lib.hid hN.above
  clear h hN
  go_enter_d Tryz.func65, Tryz.ntmps65
  go_wp2_with fail
  refine HT.out.mono ?_
  rintro e w1 ⟨rfl, n1, k1⟩
  have hFb : ¬ F b := fun z => by have := (HA.out b z).1; omega
  have s1 := H.out.keeps k1 hFb
  have hE : w1.cell? ⟨b, o + 6, none⟩ = some (.int .u64 en) := s1.cell (k := 6) (by simp [sl])
  have hP : w1.cell? ⟨S, 0, none⟩ = some (.pointer (some ⟨b, o, none⟩)) := Keeps.cell k1 HS.out hSF
  have HST := Lib.hid (u64_store b o st en w1.drew (s1.cell0 (by simp [sl])) (s1.frozen _))
  have hsd : w1.drew.cell? ⟨S, 0, none⟩ = some (.pointer (some ⟨b, o, none⟩)) := hP
  have hed : w1.drew.cell? ⟨b, o + 6, none⟩ = some (.int .u64 en) := hE
  have S1 := Lib.hid s1
  have N1 := Lib.hid n1
  have K1 := Lib.hid k1
  have HB : Hid (b < w.heap.size) := Lib.hid H.out.lt
  clear s1 n1 k1 hG hW hS
  go_wp2_with fail
  go_still_tail 7, (by kernel_rfl)
  go_wp2_with fail
  refine HST.out.mono ?_
  rintro e w' ⟨rfl, rfl⟩
  go_wp2
  go_end0
  have k2 : Keeps (· = b) w1 (w1.drew.setCell ⟨b, o, none⟩ (.int .u64 en)) := (Keeps.refl _ w1).drew.trans (Keeps.here _)
  refine ⟨rfl, ⟨S1.out.blk.drew, S1.out.len⟩ |> fun (q : Slot w1.drew b o T pre post _) => q.put0 (by simp [sl]) _, ⟨_, N1.out.keeps k2 (fun k hk e => ?_)⟩, (K1.out.mono (fun k _ z => .inr (HA.out k z).1)).trans (k2.mono (fun _ _ e => .inl e))⟩
  subst e
  rcases hk with z | z
  · exact hFb z
  · have := HB.out; omega
set_option maxRecDepth 100000 in
set_option maxHeartbeats 2000000 in
theorem filln_ok (b o : Nat) (T : TypeId) (pre post : List Value) (st dn mu en num : Int) (y N : Nat) (ms : List (Nat × Nat)) (F : Nat → Prop) (v0 : Value) (x : Int) (f : FuncId) (cp : Array Value) (S : Nat → Prop) (Q : World → Prop) (w : World)
    (h : Slot w b o T pre post (sl st dn mu 4294967296 en v0 num)) (hN : NInv w N ms F) (hb : b < N) (hl : ms.length < 999990) (hS : ¬ S b) (hSw : ∀ k, S k → k < N) (hQ : ∀ w1 w2, Q w1 → Keeps (fun k => k = b ∨ N ≤ k) w1 w2 → Q w2) 
    (HI : ∀ args w, (callFunc f args).run Tryz.prog w = .ok (.enter f args) w)
    (HM : ∀ w1, Keeps (fun k => k = b ∨ N ≤ k) w w1 → Calls Tryz.prog f cp w1 fun e w' => e = .returned (.tuple #[.int .u64 x, .int .i64 0]) ∧ Keeps S w1 w' ∧ Q w') :
    Calls Tryz.prog 41 #[.pointer (some ⟨b, o, none⟩), .iface 41 (.pointer (some ⟨N, 0, none⟩)), .int .i64 (y : Int), .func (.func f) #[] cp] w fun e w' => e = .returned (.tuple #[]) ∧ Slot w' b o T pre post (sl 2 dn mu 0 2 (.int .u64 x) num) ∧ (∃ F', NInv w' N (ms ++ [(2, y)]) F') ∧ Keeps (fun k => k = b ∨ S k ∨ N ≤ k) w w' ∧ Q w' := by
  have hmf : ∀ (fn : Fn) (first cap : Array Value) (w : World), (Instr.makeFunc fn first cap).run Tryz.prog w = .ok (.func fn first cap) w := fun _ _ _ _ => rfl
  have hbl := h.lt
  have hNl := (hN.above N hN.me).2
  obtain ⟨w1, hw1⟩ : ∃ w1, w1 = ((w.alloc (.cells #[.pointer (some ⟨b, o, none⟩)] 117)).alloc (.cells #[.iface 41 (.pointer (some ⟨N, 0, none⟩))] 87)).alloc (.cells #[.int .i64 (y : Int)] 3) := ⟨_, rfl⟩
  have k1 : Keeps (fun _ => False) w w1 := by rw [hw1]; exact (((Keeps.refl _ w).alloc _).alloc _).alloc _
  have z1 : w1.heap.size = w.heap.size + 3 := by rw [hw1]; simp
  have cS : w1.cell? ⟨w.heap.size, 0, none⟩ = some (.pointer (some ⟨b, o, none⟩)) := by
    have q := (((Blk.new w 117 #[.pointer (some ⟨b, o, none⟩)]).alloc (.cells #[.iface 41 (.pointer (some ⟨N, 0, none⟩))] 87)).alloc (.cells #[.int .i64 (y : Int)] 3)).cell 0
    rw [hw1]; exact q
  have cG : w1.cell? ⟨w.heap.size + 1, 0, none⟩ = some (.iface 41 (.pointer (some ⟨N, 0, none⟩))) := by
    have q := ((Blk.new (w.alloc (.cells #[.pointer (some ⟨b, o, none⟩)] 117)) 87 #[.iface 41 (.pointer (some ⟨N, 0, none⟩))]).alloc (.cells #[.int .i64 (y : Int)] 3)).cell 0
    rw [hw1]; simpa using q
  have cW : w1.cell? ⟨w.heap.size + 2, 0, none⟩ = some (.int .i64 (y : Int)) := by
    have q := (Blk.new ((w.alloc (.cells #[.pointer (some ⟨b, o, none⟩)] 117)).alloc (.cells #[.iface 41 (.pointer (some ⟨N, 0, none⟩))] 87)) 3 #[.int .i64 (y : Int)]).cell 0
    rw [hw1]; simpa using q
  have s1 := h.keeps k1 (fun z => z)
  have n1 := hN.keeps k1 (fun _ _ z => z)
  have HC := Lib.hid (call_ok b o T pre post st dn mu en num v0 x  f cp S Q w1 s1 hS (fun u1 u2 q kk => hQ u1 u2 q (kk.mono (fun _ _ e => .inl e)))  HI (fun w2 k2 => HM w2 ((k1.mono (fun _ _ z => z.elim)).trans (k2.mono (fun _ _ e => .inl e)))))
  have HW := Lib.hid hw1
  have K1 := Lib.hid k1
  have CG := Lib.hid cG
  have CW := Lib.hid cW
  have CS := Lib.hid cS
  have Z1 : Hid (w1.heap.size = w.heap.size + 3 ∧ b < w.heap.size ∧ N < w.heap.size) := Lib.hid ⟨z1, hbl, hNl⟩
  have N1 := Lib.hid n1
  have HF := Lib.hid hN.above
  have HQ : Hid (∀ w1 w2, Q w1 → Keeps (fun k => k = b ∨ N ≤ k) w1 w2 → Q w2) := Lib.hid hQ
  have HSW : Hid (∀ k, S k → k < N) := Lib.hid hSw
  have HL : Hid (ms.length < 999990 ∧ b < N) := Lib.hid ⟨hl, hb⟩
  clear h k1 s1 hw1 cG cW z1 hQ HM hSw hN n1 hl hb hbl hNl
  go_enter_defers Tryz.func41, Tryz.ntmps41
  go_wp2_with fail
  rw [← HW.out]
  go_wp2_with fail
  refine HC.out.mono ?_
  rintro e w2 ⟨rfl, s2, k2, q2⟩
  have S2 := Lib.hid s2
  have K2 := Lib.hid k2
  have Q2 := Lib.hid q2
  clear s2 k2 q2
  go_wp2
  have hz := Z1.out
  have hll := HL.out
  have hno : ∀ k, w.heap.size ≤ k → ¬ (k = b ∨ S k) := fun k hk z => by
    rcases z with z | z
    · omega
    · have := HSW.out k z; omega
  have n2 := N1.out.keeps K2.out (fun k hk z => by
    have a1 := (HF.out k hk).1
    rcases z with z | z
    · omega
    · have := HSW.out k z; omega)
  refine leaves_cons (f := 65) (args := #[.pointer (some ⟨w.heap.size + 1, 0, none⟩), .pointer (some ⟨w.heap.size + 2, 0, none⟩), .pointer (some ⟨w.heap.size, 0, none⟩)]) (by simp) (by simp [go_sem]) ?_
  refine (fin_notes b o T pre post st dn mu 0 2 num (.int .u64 x) (w.heap.size + 1) (w.heap.size + 2) w.heap.size y N ms F .returning w2 S2.out n2 hll.2 (by omega) (fun z => by have := (HF.out _ z).2; omega) (Keeps.cell K2.out CG.out (hno _ (by omega))) (Keeps.cell K2.out CW.out (hno _ (by omega))) (Keeps.cell K2.out CS.out (hno _ (by omega)))).mono ?_
  rintro e u' w3 ⟨rfl, rfl, s3, n3, k3⟩
  refine ⟨_, results_none rfl _ _ _, rfl, s3, n3, ?_, HQ.out _ _ Q2.out k3⟩
  exact ((K1.out.mono (fun _ _ e => e.elim)).trans (K2.out.mono (fun _ _ e => e.elim .inl (fun z => .inr (.inl z))))).trans (k3.mono (fun _ _ e => e.elim .inl (fun z => .inr (.inr z))))
set_option maxRecDepth 100000 in
set_option maxHeartbeats 2000000 in
theorem getn_ok (b o : Nat) (T : TypeId) (pre post : List Value) (dn mu en num : Int) (y N : Nat) (ms : List (Nat × Nat)) (F : Nat → Prop) (v0 : Value) (x : Int) (f : FuncId) (cp : Array Value) (S : Nat → Prop) (Q : World → Prop) (w : World)
    (h : Slot w b o T pre post (sl 0 dn mu 4294967296 en v0 num)) (hN : NInv w N ms F) (hb : b < N) (hl : ms.length < 999980) (hS : ¬ S b) (hSw : ∀ k, S k → k < N) (hQ : ∀ w1 w2, Q w1 → Keeps (fun k => k = b ∨ N ≤ k) w1 w2 → Q w2) 
    (HI : ∀ args w, (callFunc f args).run Tryz.prog w = .ok (.enter f args) w)
    (HM : ∀ w1, Keeps (fun k => k = b ∨ N ≤ k) w w1 → Calls Tryz.prog f cp w1 fun e w' => e = .returned (.tuple #[.int .u64 x, .int .i64 0]) ∧ Keeps S w1 w' ∧ Q w') :
    Calls Tryz.prog 25 #[.pointer (some ⟨b, o, none⟩), .iface 41 (.pointer (some ⟨N, 0, none⟩)), .int .i64 (y : Int), .func (.func f) #[] cp] w fun e w' => e = .returned (.tuple #[.int .u64 x, .int .i64 0]) ∧ Slot w' b o T pre post (sl 2 dn mu 0 2 (.int .u64 x) num) ∧ (∃ F', NInv w' N (ms ++ [(1, y)] ++ [(5, y)] ++ [(2, y)]) F') ∧ Keeps (fun k => k = b ∨ S k ∨ N ≤ k) w w' ∧ Q w' := by
  have HT := Lib.hid (tell_notes N 1 y w ms F hN (by omega))
  have HA := Lib.hid hN.above
  have H := Lib.hid h
  have HQ : Hid (∀ w1 w2, Q w1 → Keeps (fun k => k = b ∨ N ≤ k) w1 w2 → Q w2) := Lib.hid hQ
  have HSW : Hid (∀ k, S k → k < N) := Lib.hid hSw
  have HMM : Hid (∀ w1, Keeps (fun k => k = b ∨ N ≤ k) w w1 → Calls Tryz.prog f cp w1 fun e w' => e = .returned (.tuple #[.int .u64 x, .int .i64 0]) ∧ Keeps S w1 w' ∧ Q w') := Lib.hid HM
  have HL : Hid (ms.length < 999980 ∧ b < N) := Lib.hid ⟨hl, hb⟩
  have HII : Hid (∀ args w, (callFunc f args).run Tryz.prog w = .ok (.enter f args) w) := Lib.hid HI
  clear h hN hQ hSw HM hl hb HI
  go_enter Tryz.func25, Tryz.ntmps25
  go_wp2_with fail
  refine wp_loop_rounds 1 ?_
  rw [rounds_succ]
  go_wp2_with fail
  refine HT.out.mono ?_
  rintro e w1 ⟨rfl, n1, k1⟩
  have hll := HL.out
  have hFb : ¬ F b := fun z => by have := (HA.out b z).1; omega
  have hbw := H.out.lt
  have s1 := H.out.keeps k1 hFb
  have hFb1 : ¬ mz.Grown w w1 F b := fun z => by
    rcases z with z | z
    · exact hFb z
    · omega
  have HLD := Lib.hid (u64_load b o 0 w1 (s1.cell0 (by simp [sl])))
  have HT2 := Lib.hid (tell_notes N 5 y w1 (ms ++ [(1, y)]) (mz.Grown w w1 F) n1 (by simp; omega))
  have HA1 := Lib.hid n1.above
  have S1 := Lib.hid s1
  have K1 := Lib.hid k1
  have HB1 : Hid (¬ mz.Grown w w1 F b) := Lib.hid hFb1
  have HBW : Hid (b < w.heap.size) := Lib.hid hbw
  clear n1 k1 s1 hFb hFb1 hbw hll
  go_wp2_with fail
  refine HLD.out.mono ?_
  rintro e w' ⟨rfl, rfl⟩
  go_wp2_with fail
  refine HT2.out.mono ?_
  rintro e w2 ⟨rfl, n2, k2⟩
  have s2 := S1.out.keeps k2 HB1.out
  have HCAS := Lib.hid (u64_cas b o 0 1 w2 (s2.cell0 (by simp [sl])) (s2.frozen _))
  obtain ⟨w3, hw3⟩ : ∃ w3, w3 = w2.setCell ⟨b, o, none⟩ (.int .u64 1) := ⟨_, rfl⟩
  have s3 : Slot w3 b o T pre post (sl 1 dn mu 4294967296 en v0 num) := by rw [hw3]; exact s2.put0 (by simp [sl]) _
  have k3 : Keeps (· = b) w2 w3 := by rw [hw3]; exact Keeps.here _
  rw [← hw3] at HCAS
  have n3 := n2.keeps k3 (fun k hk e => by
    have := HL.out
    have := (n2.above k hk).1
    omega)
  have kk : Keeps (fun k => k = b ∨ N ≤ k) w w3 := ((K1.out.mono (fun k _ z => .inr (HA.out k z).1)).trans (k2.mono (fun k _ z => .inr (HA1.out k z).1))).trans (k3.mono (fun _ _ e => .inl e))
  have HFL := Lib.hid (filln_ok b o T pre post 1 dn mu en num y N _ _ v0 x  f cp S Q w3 s3 n3 HL.out.2 (by have := HL.out.1; simp; omega) hS HSW.out HQ.out  HII.out (fun u ku => HMM.out u (kk.trans ku)))
  have KK := Lib.hid kk
  clear n2 k2 s2 hw3 s3 k3 n3 kk
  go_wp2_with fail
  refine HCAS.out.mono ?_
  rintro e w' ⟨rfl, rfl⟩
  go_wp2_with fail
  refine HFL.out.mono ?_
  rintro e w4 ⟨rfl, s4, n4, k4, q4⟩
  have h6 : w4.cell? ⟨b, o + 6, none⟩ = some (.int .u64 2) := s4.cell (k := 6) (by simp [sl])
  have HANS := Lib.hid (ans_ok b o T pre post _ _ _ _ _ _ _ w4 s4)
  have S4 := Lib.hid s4
  have N4 := Lib.hid n4
  have K4 := Lib.hid k4
  have Q4 := Lib.hid q4
  clear s4 n4 k4 q4
  go_wp2_with fail
  refine HANS.out.mono ?_
  rintro e w5 ⟨rfl, n, rfl⟩
  go_wp2
  try rw [Exit.noGoto_ret]
  go_ret2
  obtain ⟨F', hF'⟩ := N4.out
  refine ⟨rfl, S4.out.drewN n, ⟨F', hF'.keeps (Keeps.of_drew (S := fun _ => False) _ _) (fun _ _ z => z)⟩, ?_, HQ.out _ _ Q4.out (Keeps.of_drew _ _)⟩
  exact ((KK.out.mono (fun _ _ z => z.elim .inl (fun q => .inr (.inr q)))).trans K4.out).trans (Keeps.of_drew _ _)
set_option maxRecDepth 100000 in
set_option maxHeartbeats 2000000 in
theorem getn2_ok (b o : Nat) (T : TypeId) (pre post : List Value) (dn mu wg num : Int) (y N : Nat) (ms : List (Nat × Nat)) (F : Nat → Prop) (v0 : Value) (x : Int) (fv : Value) (w : World)
    (h : Slot w b o T pre post (sl 2 dn mu wg 2 (.int .u64 x) num)) (hN : NInv w N ms F) (hb : b < N) (hl : ms.length < 999980) :
    Calls Tryz.prog 25 #[.pointer (some ⟨b, o, none⟩), .iface 41 (.pointer (some ⟨N, 0, none⟩)), .int .i64 (y : Int), fv] w fun e w' => e = .returned (.tuple #[.int .u64 x, .int .i64 0]) ∧ Slot w' b o T pre post (sl 2 dn mu wg 2 (.int .u64 x) num) ∧ (∃ F', NInv w' N (ms ++ [(1, y)]) F') ∧ Keeps (fun k => N ≤ k) w w' := by
  have HT := Lib.hid (tell_notes N 1 y w ms F hN (by omega))
  have HA := Lib.hid hN.above
  have H := Lib.hid h
  have HB : Hid (b < N) := Lib.hid hb
  clear h hN hb hl
  go_enter Tryz.func25, Tryz.ntmps25
  go_wp2_with fail
  refine wp_loop_rounds 1 ?_
  rw [rounds_succ]
  go_wp2_with fail
  refine HT.out.mono ?_
  rintro e w1 ⟨rfl, n1, k1⟩
  have hFb : ¬ F b := fun z => by have := (HA.out b z).1; have := HB.out; omega
  have s1 := H.out.keeps k1 hFb
  have HLD := Lib.hid (u64_load b o 2 w1 (s1.cell0 (by simp [sl])))
  have HANS := Lib.hid (ans_ok b o T pre post _ _ _ _ _ _ _ w1 s1)
  have S1 := Lib.hid s1
  have K1 := Lib.hid k1
  have N1 := Lib.hid n1
  clear n1 k1 s1 hFb
  go_wp2_with fail
  refine HLD.out.mono ?_
  rintro e w' ⟨rfl, rfl⟩
  go_wp2_with fail
  refine HANS.out.mono ?_
  rintro e w5 ⟨rfl, n, rfl⟩
  go_wp2
  try rw [Exit.noGoto_ret]
  go_ret2
  exact ⟨rfl, S1.out.drewN n, ⟨_, N1.out.keeps (Keeps.of_drew (S := fun _ => False) _ _) (fun _ _ z => z)⟩, (K1.out.mono (fun k _ z => (HA.out k z).1)).trans (Keeps.of_drew _ _)⟩
set_option maxRecDepth 100000 in
set_option maxHeartbeats 2000000 in
theorem ogetn_ok (C : Nat) (dn mu en num : Int) (N : Nat) (ms : List (Nat × Nat)) (F : Nat → Prop) (v0 : Value) (x : Int) (f : FuncId) (cp : Array Value) (S : Nat → Prop) (Q : World → Prop) (w : World)
    (h : Once_ w C (.func (.func f) #[] cp) (sl 0 dn mu 4294967296 en v0 num)) (hN : NInv w N ms F) (hb : C < N) (hl : ms.length < 999980) (hS : ¬ S C) (hSw : ∀ k, S k → k < N) (hQ : ∀ w1 w2, Q w1 → Keeps (fun k => k = C ∨ N ≤ k) w1 w2 → Q w2) 
    (HI : ∀ args w, (callFunc f args).run Tryz.prog w = .ok (.enter f args) w)
    (HM : ∀ w1, Keeps (fun k => k = C ∨ N ≤ k) w w1 → Calls Tryz.prog f cp w1 fun e w' => e = .returned (.tuple #[.int .u64 x, .int .i64 0]) ∧ Keeps S w1 w' ∧ Q w') :
    Calls Tryz.prog 13 #[.pointer (some ⟨C, 0, none⟩), .iface 41 (.pointer (some ⟨N, 0, none⟩))] w fun e w' => e = .returned (.tuple #[.int .u64 x, .int .i64 0]) ∧ Once_ w' C (.func (.func f) #[] cp) (sl 2 dn mu 0 2 (.int .u64 x) num) ∧ (∃ F', NInv w' N (ms ++ [(1, 0)] ++ [(5, 0)] ++ [(2, 0)]) F') ∧ Keeps (fun k => k = C ∨ S k ∨ N ≤ k) w w' ∧ Q w' := by
  have HN := Lib.hid (none_ C _ _ w h)
  have c1 : w.drew.cell? ⟨C, 1, none⟩ = some (.func (.func f) #[] cp) := by show w.cell? _ = _; rw [h.blk.cell]; rfl
  have c1' : w.cell? ⟨C, 1, none⟩ = some (.func (.func f) #[] cp) := c1
  have kd : Keeps (fun k => k = C ∨ N ≤ k) w w.drew := (Keeps.refl _ w).drew
  have HG := Lib.hid (getn_ok C 2 _ _ _ dn mu en num 0 N ms F v0 x  f cp S Q w.drew (h.drewN 1) (hN.keeps (S := fun _ => False) ((Keeps.refl _ w).drew) (fun _ _ z => z)) hb hl hS hSw hQ  HI (fun w2 k2 => HM w2 (kd.trans k2)))
  have KD : Hid (∀ S, Keeps S w w.drew) := Lib.hid (fun S => (Keeps.refl S w).drew)
  clear h HI HM hQ hSw kd hN
  go_enter Tryz.func13, Tryz.ntmps13
  go_wp2_with fail
  refine HN.out.mono ?_
  rintro e w' ⟨rfl, rfl⟩
  go_wp2_with fail
  go_region_held3 (fun w' => w'.cell? ⟨C, 1, none⟩ = some (.func (.func f) #[] cp)) (first | exact c1 | exact c2) ((first | (go_at_call 25; refine HG.out.mono ?_; rintro e w2 ⟨rfl, s2, n2, k2, q2⟩; have c2 : w2.cell? ⟨C, 1, none⟩ = some (.func (.func f) #[] cp) := (by rw [s2.blk.cell]; rfl); have S2 := Lib.hid s2; have N2 := Lib.hid n2; have K2 := Lib.hid k2; have Q2 := Lib.hid q2; clear s2 n2 k2 q2)))
  go_wp2
  try rw [Exit.noGoto_ret]
  go_ret2
  exact ⟨rfl, S2.out, N2.out, (KD.out _).trans K2.out, Q2.out⟩
set_option maxRecDepth 100000 in
set_option maxHeartbeats 2000000 in
theorem ogetn2_ok (C : Nat) (dn mu wg num : Int) (N : Nat) (ms : List (Nat × Nat)) (F : Nat → Prop) (v0 : Value) (x : Int) (f : FuncId) (cp : Array Value) (w : World)
    (h : Once_ w C (.func (.func f) #[] cp) (sl 2 dn mu wg 2 (.int .u64 x) num)) (hN : NInv w N ms F) (hb : C < N) (hl : ms.length < 999980) :
    Calls Tryz.prog 13 #[.pointer (some ⟨C, 0, none⟩), .iface 41 (.pointer (some ⟨N, 0, none⟩))] w fun e w' => e = .returned (.tuple #[.int .u64 x, .int .i64 0]) ∧ Once_ w' C (.func (.func f) #[] cp) (sl 2 dn mu wg 2 (.int .u64 x) num) ∧ (∃ F', NInv w' N (ms ++ [(1, 0)]) F') ∧ Keeps (fun k => N ≤ k) w w' := by
  have HN := Lib.hid (none_ C _ _ w h)
  have c1 : w.drew.cell? ⟨C, 1, none⟩ = some (.func (.func f) #[] cp) := by show w.cell? _ = _; rw [h.blk.cell]; rfl
  have c1' : w.cell? ⟨C, 1, none⟩ = some (.func (.func f) #[] cp) := c1
  have HG := Lib.hid (getn2_ok C 2 _ _ _ dn mu wg num 0 N ms F v0 x  (.func (.func f) #[] cp) w.drew (h.drewN 1) (hN.keeps (S := fun _ => False) ((Keeps.refl _ w).drew) (fun _ _ z => z)) hb hl)
  have KD : Hid (∀ S, Keeps S w w.drew) := Lib.hid (fun S => (Keeps.refl S w).drew)
  clear h hN
  go_enter Tryz.func13, Tryz.ntmps13
  go_wp2_with fail
  refine HN.out.mono ?_
  rintro e w' ⟨rfl, rfl⟩
  go_wp2_with fail
  go_region_held3 (fun w' => w'.cell? ⟨C, 1, none⟩ = some (.func (.func f) #[] cp)) (first | exact c1 | exact c2) ((first | (go_at_call 25; refine HG.out.mono ?_; rintro e w2 ⟨rfl, s2, n2, k2⟩; have c2 : w2.cell? ⟨C, 1, none⟩ = some (.func (.func f) #[] cp) := (by rw [s2.blk.cell]; rfl); have S2 := Lib.hid s2; have N2 := Lib.hid n2; have K2 := Lib.hid k2; clear s2 n2 k2)))
  go_wp2
  try rw [Exit.noGoto_ret]
  go_ret2
  exact ⟨rfl, S2.out, N2.out, (KD.out _).trans K2.out⟩
set_option maxRecDepth 100000 in
set_option maxHeartbeats 2000000 in
theorem filln_err (b o : Nat) (T : TypeId) (pre post : List Value) (st dn mu en num : Int) (y N : Nat) (ms : List (Nat × Nat)) (F : Nat → Prop) (v0 : Value) (x : Int) (r : Int) (f : FuncId) (cp : Array Value) (S : Nat → Prop) (Q : World → Prop) (w : World)
    (h : Slot w b o T pre post (sl st dn mu 4294967296 en v0 num)) (hN : NInv w N ms F) (hb : b < N) (hl : ms.length < 999990) (hS : ¬ S b) (hSw : ∀ k, S k → k < N) (hQ : ∀ w1 w2, Q w1 → Keeps (fun k => k = b ∨ N ≤ k) w1 w2 → Q w2) (hr : (r == 0) = false)
    (HI : ∀ args w, (callFunc f args).run Tryz.prog w = .ok (.enter f args) w)
    (HM : ∀ w1, Keeps (fun k => k = b ∨ N ≤ k) w w1 → Calls Tryz.prog f cp w1 fun e w' => e = .returned (.tuple #[.int .u64 x, .int .i64 r]) ∧ Keeps S w1 w' ∧ Q w') :
    Calls Tryz.prog 41 #[.pointer (some ⟨b, o, none⟩), .iface 41 (.pointer (some ⟨N, 0, none⟩)), .int .i64 (y : Int), .func (.func f) #[] cp] w fun e w' => e = .returned (.tuple #[]) ∧ Slot w' b o T pre post (sl 3 dn mu 0 3 v0 r) ∧ (∃ F', NInv w' N (ms ++ [(2, y)]) F') ∧ Keeps (fun k => k = b ∨ S k ∨ N ≤ k) w w' ∧ Q w' := by
  have hmf : ∀ (fn : Fn) (first cap : Array Value) (w : World), (Instr.makeFunc fn first cap).run Tryz.prog w = .ok (.func fn first cap) w := fun _ _ _ _ => rfl
  have hbl := h.lt
  have hNl := (hN.above N hN.me).2
  obtain ⟨w1, hw1⟩ : ∃ w1, w1 = ((w.alloc (.cells #[.pointer (some ⟨b, o, none⟩)] 117)).alloc (.cells #[.iface 41 (.pointer (some ⟨N, 0, none⟩))] 87)).alloc (.cells #[.int .i64 (y : Int)] 3) := ⟨_, rfl⟩
  have k1 : Keeps (fun _ => False) w w1 := by rw [hw1]; exact (((Keeps.refl _ w).alloc _).alloc _).alloc _
  have z1 : w1.heap.size = w.heap.size + 3 := by rw [hw1]; simp
  have cS : w1.cell? ⟨w.heap.size, 0, none⟩ = some (.pointer (some ⟨b, o, none⟩)) := by
    have q := (((Blk.new w 117 #[.pointer (some ⟨b, o, none⟩)]).alloc (.cells #[.iface 41 (.pointer (some ⟨N, 0, none⟩))] 87)).alloc (.cells #[.int .i64 (y : Int)] 3)).cell 0
    rw [hw1]; exact q
  have cG : w1.cell? ⟨w.heap.size + 1, 0, none⟩ = some (.iface 41 (.pointer (some ⟨N, 0, none⟩))) := by
    have q := ((Blk.new (w.alloc (.cells #[.pointer (some ⟨b, o, none⟩)] 117)) 87 #[.iface 41 (.pointer (some ⟨N, 0, none⟩))]).alloc (.cells #[.int .i64 (y : Int)] 3)).cell 0
    rw [hw1]; simpa using q
  have cW : w1.cell? ⟨w.heap.size + 2, 0, none⟩ = some (.int .i64 (y : Int)) := by
    have q := (Blk.new ((w.alloc (.cells #[.pointer (some ⟨b, o, none⟩)] 117)).alloc (.cells #[.iface 41 (.pointer (some ⟨N, 0, none⟩))] 87)) 3 #[.int .i64 (y : Int)]).cell 0
    rw [hw1]; simpa using q
  have s1 := h.keeps k1 (fun z => z)
  have n1 := hN.keeps k1 (fun _ _ z => z)
  have HC := Lib.hid (call_err b o T pre post st dn mu en num v0 x r f cp S Q w1 s1 hS (fun u1 u2 q kk => hQ u1 u2 q (kk.mono (fun _ _ e => .inl e))) hr HI (fun w2 k2 => HM w2 ((k1.mono (fun _ _ z => z.elim)).trans (k2.mono (fun _ _ e => .inl e)))))
  have HW := Lib.hid hw1
  have K1 := Lib.hid k1
  have CG := Lib.hid cG
  have CW := Lib.hid cW
  have CS := Lib.hid cS
  have Z1 : Hid (w1.heap.size = w.heap.size + 3 ∧ b < w.heap.size ∧ N < w.heap.size) := Lib.hid ⟨z1, hbl, hNl⟩
  have N1 := Lib.hid n1
  have HF := Lib.hid hN.above
  have HQ : Hid (∀ w1 w2, Q w1 → Keeps (fun k => k = b ∨ N ≤ k) w1 w2 → Q w2) := Lib.hid hQ
  have HSW : Hid (∀ k, S k → k < N) := Lib.hid hSw
  have HL : Hid (ms.length < 999990 ∧ b < N) := Lib.hid ⟨hl, hb⟩
  clear h k1 s1 hw1 cG cW z1 hQ HM hSw hN n1 hl hb hbl hNl
  go_enter_defers Tryz.func41, Tryz.ntmps41
  go_wp2_with fail
  rw [← HW.out]
  go_wp2_with fail
  refine HC.out.mono ?_
  rintro e w2 ⟨rfl, s2, k2, q2⟩
  have S2 := Lib.hid s2
  have K2 := Lib.hid k2
  have Q2 := Lib.hid q2
  clear s2 k2 q2
  go_wp2
  have hz := Z1.out
  have hll := HL.out
  have hno : ∀ k, w.heap.size ≤ k → ¬ (k = b ∨ S k) := fun k hk z => by
    rcases z with z | z
    · omega
    · have := HSW.out k z; omega
  have n2 := N1.out.keeps K2.out (fun k hk z => by
    have a1 := (HF.out k hk).1
    rcases z with z | z
    · omega
    · have := HSW.out k z; omega)
  refine leaves_cons (f := 65) (args := #[.pointer (some ⟨w.heap.size + 1, 0, none⟩), .pointer (some ⟨w.heap.size + 2, 0, none⟩), .pointer (some ⟨w.heap.size, 0, none⟩)]) (by simp) (by simp [go_sem]) ?_
  refine (fin_notes b o T pre post st dn mu 0 3 r v0 (w.heap.size + 1) (w.heap.size + 2) w.heap.size y N ms F .returning w2 S2.out n2 hll.2 (by omega) (fun z => by have := (HF.out _ z).2; omega) (Keeps.cell K2.out CG.out (hno _ (by omega))) (Keeps.cell K2.out CW.out (hno _ (by omega))) (Keeps.cell K2.out CS.out (hno _ (by omega)))).mono ?_
  rintro e u' w3 ⟨rfl, rfl, s3, n3, k3⟩
  refine ⟨_, results_none rfl _ _ _, rfl, s3, n3, ?_, HQ.out _ _ Q2.out k3⟩
  exact ((K1.out.mono (fun _ _ e => e.elim)).trans (K2.out.mono (fun _ _ e => e.elim .inl (fun z => .inr (.inl z))))).trans (k3.mono (fun _ _ e => e.elim .inl (fun z => .inr (.inr z))))
set_option maxRecDepth 100000 in
set_option maxHeartbeats 2000000 in
theorem getn_err (b o : Nat) (T : TypeId) (pre post : List Value) (dn mu en num : Int) (y N : Nat) (ms : List (Nat × Nat)) (F : Nat → Prop) (v0 : Value) (x : Int) (r : Int) (f : FuncId) (cp : Array Value) (S : Nat → Prop) (Q : World → Prop) (w : World)
    (h : Slot w b o T pre post (sl 0 dn mu 4294967296 en v0 num)) (hN : NInv w N ms F) (hb : b < N) (hl : ms.length < 999980) (hS : ¬ S b) (hSw : ∀ k, S k → k < N) (hQ : ∀ w1 w2, Q w1 → Keeps (fun k => k = b ∨ N ≤ k) w1 w2 → Q w2) (hr : (r == 0) = false)
    (HI : ∀ args w, (callFunc f args).run Tryz.prog w = .ok (.enter f args) w)
    (HM : ∀ w1, Keeps (fun k => k = b ∨ N ≤ k) w w1 → Calls Tryz.prog f cp w1 fun e w' => e = .returned (.tuple #[.int .u64 x, .int .i64 r]) ∧ Keeps S w1 w' ∧ Q w') :
    Calls Tryz.prog 25 #[.pointer (some ⟨b, o, none⟩), .iface 41 (.pointer (some ⟨N, 0, none⟩)), .int .i64 (y : Int), .func (.func f) #[] cp] w fun e w' => e = .returned (.tuple #[.int .u64 0, .int .i64 r]) ∧ Slot w' b o T pre post (sl 3 dn mu 0 3 v0 r) ∧ (∃ F', NInv w' N (ms ++ [(1, y)] ++ [(5, y)] ++ [(2, y)]) F') ∧ Keeps (fun k => k = b ∨ S k ∨ N ≤ k) w w' ∧ Q w' := by
  have HT := Lib.hid (tell_notes N 1 y w ms F hN (by omega))
  have HA := Lib.hid hN.above
  have H := Lib.hid h
  have HQ : Hid (∀ w1 w2, Q w1 → Keeps (fun k => k = b ∨ N ≤ k) w1 w2 → Q w2) := Lib.hid hQ
  have HSW : Hid (∀ k, S k → k < N) := Lib.hid hSw
  have HMM : Hid (∀ w1, Keeps (fun k => k = b ∨ N ≤ k) w w1 → Calls Tryz.prog f cp w1 fun e w' => e = .returned (.tuple #[.int .u64 x, .int .i64 r]) ∧ Keeps S w1 w' ∧ Q w') := Lib.hid HM
  have HL : Hid (ms.length < 999980 ∧ b < N) := Lib.hid ⟨hl, hb⟩
  have HII : Hid (∀ args w, (callFunc f args).run Tryz.prog w = .ok (.enter f args) w) := Lib.hid HI
  clear h hN hQ hSw HM hl hb HI
  go_enter Tryz.func25, Tryz.ntmps25
  go_wp2_with fail
  refine wp_loop_rounds 1 ?_
  rw [rounds_succ]
  go_wp2_with fail
  refine HT.out.mono ?_
  rintro e w1 ⟨rfl, n1, k1⟩
  have hll := HL.out
  have hFb : ¬ F b := fun z => by have := (HA.out b z).1; omega
  have hbw := H.out.lt
  have s1 := H.out.keeps k1 hFb
  have hFb1 : ¬ mz.Grown w w1 F b := fun z => by
    rcases z with z | z
    · exact hFb z
    · omega
  have HLD := Lib.hid (u64_load b o 0 w1 (s1.cell0 (by simp [sl])))
  have HT2 := Lib.hid (tell_notes N 5 y w1 (ms ++ [(1, y)]) (mz.Grown w w1 F) n1 (by simp; omega))
  have HA1 := Lib.hid n1.above
  have S1 := Lib.hid s1
  have K1 := Lib.hid k1
  have HB1 : Hid (¬ mz.Grown w w1 F b) := Lib.hid hFb1
  have HBW : Hid (b < w.heap.size) := Lib.hid hbw
  clear n1 k1 s1 hFb hFb1 hbw hll
  go_wp2_with fail
  refine HLD.out.mono ?_
  rintro e w' ⟨rfl, rfl⟩
  go_wp2_with fail
  refine HT2.out.mono ?_
  rintro e w2 ⟨rfl, n2, k2⟩
  have s2 := S1.out.keeps k2 HB1.out
  have HCAS := Lib.hid (u64_cas b o 0 1 w2 (s2.cell0 (by simp [sl])) (s2.frozen _))
  obtain ⟨w3, hw3⟩ : ∃ w3, w3 = w2.setCell ⟨b, o, none⟩ (.int .u64 1) := ⟨_, rfl⟩
  have s3 : Slot w3 b o T pre post (sl 1 dn mu 4294967296 en v0 num) := by rw [hw3]; exact s2.put0 (by simp [sl]) _
  have k3 : Keeps (· = b) w2 w3 := by rw [hw3]; exact Keeps.here _
  rw [← hw3] at HCAS
  have n3 := n2.keeps k3 (fun k hk e => by
    have := HL.out
    have := (n2.above k hk).1
    omega)
  have kk : Keeps (fun k => k = b ∨ N ≤ k) w w3 := ((K1.out.mono (fun k _ z => .inr (HA.out k z).1)).trans (k2.mono (fun k _ z => .inr (HA1.out k z).1))).trans (k3.mono (fun _ _ e => .inl e))
  have HFL := Lib.hid (filln_err b o T pre post 1 dn mu en num y N _ _ v0 x r f cp S Q w3 s3 n3 HL.out.2 (by have := HL.out.1; simp; omega) hS HSW.out HQ.out hr HII.out (fun u ku => HMM.out u (kk.trans ku)))
  have KK := Lib.hid kk
  clear n2 k2 s2 hw3 s3 k3 n3 kk
  go_wp2_with fail
  refine HCAS.out.mono ?_
  rintro e w' ⟨rfl, rfl⟩
  go_wp2_with fail
  refine HFL.out.mono ?_
  rintro e w4 ⟨rfl, s4, n4, k4, q4⟩
  have h6 : w4.cell? ⟨b, o + 6, none⟩ = some (.int .u64 3) := s4.cell (k := 6) (by simp [sl])
  have HANS := Lib.hid (ans_err b o T pre post _ _ _ _ _ _ _ w4 s4)
  have S4 := Lib.hid s4
  have N4 := Lib.hid n4
  have K4 := Lib.hid k4
  have Q4 := Lib.hid q4
  clear s4 n4 k4 q4
  go_wp2_with fail
  refine HANS.out.mono ?_
  rintro e w5 ⟨rfl, n, rfl⟩
  go_wp2
  try rw [Exit.noGoto_ret]
  go_ret2
  obtain ⟨F', hF'⟩ := N4.out
  refine ⟨rfl, S4.out.drewN n, ⟨F', hF'.keeps (Keeps.of_drew (S := fun _ => False) _ _) (fun _ _ z => z)⟩, ?_, HQ.out _ _ Q4.out (Keeps.of_drew _ _)⟩
  exact ((KK.out.mono (fun _ _ z => z.elim .inl (fun q => .inr (.inr q)))).trans K4.out).trans (Keeps.of_drew _ _)
set_option maxRecDepth 100000 in
set_option maxHeartbeats 2000000 in
theorem getn2_err (b o : Nat) (T : TypeId) (pre post : List Value) (dn mu wg num : Int) (y N : Nat) (ms : List (Nat × Nat)) (F : Nat → Prop) (v0 : Value) (x : Int) (r : Int) (fv : Value) (w : World)
    (h : Slot w b o T pre post (sl 3 dn mu wg 3 v0 r)) (hN : NInv w N ms F) (hb : b < N) (hl : ms.length < 999980) :
    Calls Tryz.prog 25 #[.pointer (some ⟨b, o, none⟩), .iface 41 (.pointer (some ⟨N, 0, none⟩)), .int .i64 (y : Int), fv] w fun e w' => e = .returned (.tuple #[.int .u64 0, .int .i64 r]) ∧ Slot w' b o T pre post (sl 3 dn mu wg 3 v0 r) ∧ (∃ F', NInv w' N (ms ++ [(1, y)]) F') ∧ Keeps (fun k => N ≤ k) w w' := by
  have HT := Lib.hid (tell_notes N 1 y w ms F hN (by omega))
  have HA := Lib.hid hN.above
  have H := Lib.hid h
  have HB : Hid (b < N) := Lib.hid hb
  clear h hN hb hl
  go_enter Tryz.func25, Tryz.ntmps25
  go_wp2_with fail
  refine wp_loop_rounds 1 ?_
  rw [rounds_succ]
  go_wp2_with fail
  refine HT.out.mono ?_
  rintro e w1 ⟨rfl, n1, k1⟩
  have hFb : ¬ F b := fun z => by have := (HA.out b z).1; have := HB.out; omega
  have s1 := H.out.keeps k1 hFb
  have HLD := Lib.hid (u64_load b o 3 w1 (s1.cell0 (by simp [sl])))
  have HANS := Lib.hid (ans_err b o T pre post _ _ _ _ _ _ _ w1 s1)
  have S1 := Lib.hid s1
  have K1 := Lib.hid k1
  have N1 := Lib.hid n1
  clear n1 k1 s1 hFb
  go_wp2_with fail
  refine HLD.out.mono ?_
  rintro e w' ⟨rfl, rfl⟩
  go_wp2_with fail
  refine HANS.out.mono ?_
  rintro e w5 ⟨rfl, n, rfl⟩
  go_wp2
  try rw [Exit.noGoto_ret]
  go_ret2
  exact ⟨rfl, S1.out.drewN n, ⟨_, N1.out.keeps (Keeps.of_drew (S := fun _ => False) _ _) (fun _ _ z => z)⟩, (K1.out.mono (fun k _ z => (HA.out k z).1)).trans (Keeps.of_drew _ _)⟩
set_option maxRecDepth 100000 in
set_option maxHeartbeats 2000000 in
theorem ogetn_err (C : Nat) (dn mu en num : Int) (N : Nat) (ms : List (Nat × Nat)) (F : Nat → Prop) (v0 : Value) (x : Int) (r : Int) (f : FuncId) (cp : Array Value) (S : Nat → Prop) (Q : World → Prop) (w : World)
    (h : Once_ w C (.func (.func f) #[] cp) (sl 0 dn mu 4294967296 en v0 num)) (hN : NInv w N ms F) (hb : C < N) (hl : ms.length < 999980) (hS : ¬ S C) (hSw : ∀ k, S k → k < N) (hQ : ∀ w1 w2, Q w1 → Keeps (fun k => k = C ∨ N ≤ k) w1 w2 → Q w2) (hr : (r == 0) = false)
    (HI : ∀ args w, (callFunc f args).run Tryz.prog w = .ok (.enter f args) w)
    (HM : ∀ w1, Keeps (fun k => k = C ∨ N ≤ k) w w1 → Calls Tryz.prog f cp w1 fun e w' => e = .returned (.tuple #[.int .u64 x, .int .i64 r]) ∧ Keeps S w1 w' ∧ Q w') :
    Calls Tryz.prog 13 #[.pointer (some ⟨C, 0, none⟩), .iface 41 (.pointer (some ⟨N, 0, none⟩))] w fun e w' => e = .returned (.tuple #[.int .u64 0, .int .i64 r]) ∧ Once_ w' C (.func (.func f) #[] cp) (sl 3 dn mu 0 3 v0 r) ∧ (∃ F', NInv w' N (ms ++ [(1, 0)] ++ [(5, 0)] ++ [(2, 0)]) F') ∧ Keeps (fun k => k = C ∨ S k ∨ N ≤ k) w w' ∧ Q w' := by
  have HN := Lib.hid (none_ C _ _ w h)
  have c1 : w.drew.cell? ⟨C, 1, none⟩ = some (.func (.func f) #[] cp) := by show w.cell? _ = _; rw [h.blk.cell]; rfl
  have c1' : w.cell? ⟨C, 1, none⟩ = some (.func (.func f) #[] cp) := c1
  have kd : Keeps (fun k => k = C ∨ N ≤ k) w w.drew := (Keeps.refl _ w).drew
  have HG := Lib.hid (getn_err C 2 _ _ _ dn mu en num 0 N ms F v0 x r f cp S Q w.drew (h.drewN 1) (hN.keeps (S := fun _ => False) ((Keeps.refl _ w).drew) (fun _ _ z => z)) hb hl hS hSw hQ hr HI (fun w2 k2 => HM w2 (kd.trans k2)))
  have KD : Hid (∀ S, Keeps S w w.drew) := Lib.hid (fun S => (Keeps.refl S w).drew)
  clear h HI HM hQ hSw kd hN
  go_enter Tryz.func13, Tryz.ntmps13
  go_wp2_with fail
  refine HN.out.mono ?_
  rintro e w' ⟨rfl, rfl⟩
  go_wp2_with fail
  go_region_held3 (fun w' => w'.cell? ⟨C, 1, none⟩ = some (.func (.func f) #[] cp)) (first | exact c1 | exact c2) ((first | (go_at_call 25; refine HG.out.mono ?_; rintro e w2 ⟨rfl, s2, n2, k2, q2⟩; have c2 : w2.cell? ⟨C, 1, none⟩ = some (.func (.func f) #[] cp) := (by rw [s2.blk.cell]; rfl); have S2 := Lib.hid s2; have N2 := Lib.hid n2; have K2 := Lib.hid k2; have Q2 := Lib.hid q2; clear s2 n2 k2 q2)))
  go_wp2
  try rw [Exit.noGoto_ret]
  go_ret2
  exact ⟨rfl, S2.out, N2.out, (KD.out _).trans K2.out, Q2.out⟩
set_option maxRecDepth 100000 in
set_option maxHeartbeats 2000000 in
theorem ogetn2_err (C : Nat) (dn mu wg num : Int) (N : Nat) (ms : List (Nat × Nat)) (F : Nat → Prop) (v0 : Value) (x : Int) (r : Int) (f : FuncId) (cp : Array Value) (w : World)
    (h : Once_ w C (.func (.func f) #[] cp) (sl 3 dn mu wg 3 v0 r)) (hN : NInv w N ms F) (hb : C < N) (hl : ms.length < 999980) :
    Calls Tryz.prog 13 #[.pointer (some ⟨C, 0, none⟩), .iface 41 (.pointer (some ⟨N, 0, none⟩))] w fun e w' => e = .returned (.tuple #[.int .u64 0, .int .i64 r]) ∧ Once_ w' C (.func (.func f) #[] cp) (sl 3 dn mu wg 3 v0 r) ∧ (∃ F', NInv w' N (ms ++ [(1, 0)]) F') ∧ Keeps (fun k => N ≤ k) w w' := by
  have HN := Lib.hid (none_ C _ _ w h)
  have c1 : w.drew.cell? ⟨C, 1, none⟩ = some (.func (.func f) #[] cp) := by show w.cell? _ = _; rw [h.blk.cell]; rfl
  have c1' : w.cell? ⟨C, 1, none⟩ = some (.func (.func f) #[] cp) := c1
  have HG := Lib.hid (getn2_err C 2 _ _ _ dn mu wg num 0 N ms F v0 x r (.func (.func f) #[] cp) w.drew (h.drewN 1) (hN.keeps (S := fun _ => False) ((Keeps.refl _ w).drew) (fun _ _ z => z)) hb hl)
  have KD : Hid (∀ S, Keeps S w w.drew) := Lib.hid (fun S => (Keeps.refl S w).drew)
  clear h hN
  go_enter Tryz.func13, Tryz.ntmps13
  go_wp2_with fail
  refine HN.out.mono ?_
  rintro e w' ⟨rfl, rfl⟩
  go_wp2_with fail
  go_region_held3 (fun w' => w'.cell? ⟨C, 1, none⟩ = some (.func (.func f) #[] cp)) (first | exact c1 | exact c2) ((first | (go_at_call 25; refine HG.out.mono ?_; rintro e w2 ⟨rfl, s2, n2, k2⟩; have c2 : w2.cell? ⟨C, 1, none⟩ = some (.func (.func f) #[] cp) := (by rw [s2.blk.cell]; rfl); have S2 := Lib.hid s2; have N2 := Lib.hid n2; have K2 := Lib.hid k2; clear s2 n2 k2)))
  go_wp2
  try rw [Exit.noGoto_ret]
  go_ret2
  exact ⟨rfl, S2.out, N2.out, (KD.out _).trans K2.out⟩
end Go.Proofs.YthleddflihidcabGreat.onU
