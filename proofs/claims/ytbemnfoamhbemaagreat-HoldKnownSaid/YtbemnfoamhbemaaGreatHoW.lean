/-
  hold at string: what is taken off a shelf of one.
-/
import Derived.Test.YtbemnfoamhbemaaGreatHoV
set_option linter.unusedVariables false
namespace Go.Proofs.YtbemnfoamhbemaaGreat.hoS
open Go.RowKit Go.Proofs.YtbemnfoamhbemaaGreat.oc Go.Proofs.YtbemnfoamhbemaaGreat.mz Go.Proofs.YtbemnfoamhbemaaGreat.at_ Go.Proofs.YtbemnfoamhbemaaGreat.gt Go.Proofs.YtbemnfoamhbemaaGreat.gw Go.Proofs.YtbemnfoamhbemaaGreat.ep Go.Proofs.YtbemnfoamhbemaaGreat.ho
theorem u64_info : (Tryz.prog.info? 42).map (fun i => (i.zero, i.size, i.bytes)) = some (some (.int .u64 0), 1, 8) := by kernel_rfl
set_option maxRecDepth 100000 in
set_option maxHeartbeats 1000000 in
theorem free_no (H E D K c e x m : Nat) (w : World) (hH : Blk w H 119 (cellsH H E D 0 (.slice (some ⟨K, 0, none⟩) 1 c))) (h : One w K c e x) (hKH : ¬ K = H) (hx : x < 1000000) (hr : ripe x m = false) :
    Calls Tryz.prog 51 #[.pointer (some ⟨H, 3, none⟩), .int .u64 (m : Int)] w fun r w' => r = .returned (.slice none 0 0) ∧ Blk w' H 119 (cellsH H E D 0 (.slice (some ⟨K, 0, none⟩) 1 c)) ∧ Keeps (· = H) w w' := by
  have hmf : ∀ (fn : Fn) (first cap : Array Value) (w : World), (Instr.makeFunc fn first cap).run Tryz.prog w = .ok (.func fn first cap) w := fun _ _ _ _ => rfl
  obtain ⟨wA, hwA, kA, bA⟩ := enter_blk w #[.int .u64 (m : Int)] 42
  have hHA := Blk.keeps hH (kA (fun _ => False)) (fun z => z)
  have HA := Lib.hid (mu_lock H 3 wA (by rw [hHA.cell]; rfl) (hHA.frozen _))
  have b1 : Blk (wA.setCell ⟨H, 3, none⟩ (.int .i32 1)) H 119 (cellsH H E D 1 (.slice (some ⟨K, 0, none⟩) 1 c)) := hHA.put 3 _
  have k1 : Keeps (· = H) wA (wA.setCell ⟨H, 3, none⟩ (.int .i32 1)) := Keeps.here _
  obtain ⟨w1, hw1⟩ : ∃ w1, w1 = wA.setCell ⟨H, 3, none⟩ (.int .i32 1) := ⟨_, rfl⟩
  rw [← hw1] at b1 k1 HA
  have hBH : ¬ w.heap.size = H := fun z => by have := hH.lt; omega
  have cB : w1.cell? ⟨w.heap.size, 0, none⟩ = some (.int .u64 (m : Int)) := Keeps.cell k1 (by rw [bA.cell]; rfl) hBH
  have o1 := (h.keeps (kA (fun _ => False)) (fun z => z)).keeps k1 hKH
  have c5 : w1.cell? ⟨H, 5, none⟩ = some (.slice (some ⟨K, 0, none⟩) 1 c) := by rw [b1.cell]; rfl
  have q0 := o1.cell0
  have q1 := o1.cell1
  obtain ⟨w2, hw2, k2, b2⟩ := enter_blk w1 #[.pointer (some ⟨e, 0, none⟩), .int .u64 (x : Int)] 206
  have cB2 := Keeps.cell (k2 (fun _ => False)) cB (fun z => z)
  have HR := Lib.hid (ripe_ w.heap.size e x m w2 cB2 hx)
  rw [hr] at HR
  have HRX := Lib.hid (show x < 1000000 ∧ ripe x m = false from ⟨hx, hr⟩)
  have HWA := Lib.hid hwA
  have HW2 := Lib.hid hw2
  have K2 := Lib.hid (((kA (· = H)).trans k1).trans (k2 _))
  have B2 := Lib.hid (Blk.keeps b1 (k2 (fun _ => False)) (fun z => z))
  have O2 := Lib.hid (o1.keeps (k2 (fun _ => False)) (fun z => z))
  have CB := Lib.hid cB2
  have q2 : w2.cell? ⟨w1.heap.size, 0, none⟩ = some (.pointer (some ⟨e, 0, none⟩)) := by rw [b2.cell]; rfl
  clear hH h hHA hwA kA bA b1 k1 hw1 o1 cB cB2 hw2 k2 b2 hr hx
  go_enter_defers Tryz.func51, Tryz.ntmps51
  go_wp2_with fail
  rw [← HWA.out]
  refine HA.out.mono ?_
  rintro r w' ⟨rfl, e1⟩
  subst e1
  go_wp2_with fail
  refine wp_loop_rounds 2 ?_
  rw [rounds_succ]
  go_wp2_with fail
  rw [← HW2.out]
  refine HR.out.mono ?_
  rintro r w3 ⟨rfl, k3⟩
  have b3 := Blk.keeps B2.out (k3 (fun _ => False)) (fun z => z)
  have o3 := O2.out.keeps (k3 (fun _ => False)) (fun z => z)
  have cB3 := Keeps.cell (k3 (fun _ => False)) CB.out (fun z => z)
  have HD := Lib.hid (delete_no w.heap.size K c e x m w3 o3 cB3 HRX.out.1 HRX.out.2)
  have c53 : w3.cell? ⟨H, 5, none⟩ = some (.slice (some ⟨K, 0, none⟩) 1 c) := by rw [b3.cell]; rfl
  have K3 := Lib.hid (K2.out.trans (k3 _))
  have B3 := Lib.hid b3
  clear k3 b3 o3 cB3 c5 q0 q1
  go_wp2_with fail
  rw [rounds_succ]
  go_wp2_with fail
  refine HD.out.mono ?_
  rintro r w4 ⟨rfl, k4⟩
  have b4 := Blk.keeps B3.out (k4 (fun _ => False)) (fun z => z)
  have c54 : w4.cell? ⟨H, 5, none⟩ = some (.slice (some ⟨K, 0, none⟩) 1 c) := by rw [b4.cell]; rfl
  have f54 := b4.frozen 5
  have K4 := Lib.hid (K3.out.trans (k4 _))
  have B4 := Lib.hid b4
  clear k4 b4 c53
  go_wp2
  refine leaves_cons (f := 86) (args := #[.pointer (some ⟨H, 3, none⟩)]) (by simp) (by simp [go_sem]) ?_
  have b5 : Blk (w4.setCell ⟨H, 5, none⟩ (.slice (some ⟨K, 0, none⟩) 1 c)) H 119 (cellsH H E D 1 (.slice (some ⟨K, 0, none⟩) 1 c)) := B4.out.put 5 _
  refine (mu_unlock H 3 _ _ (by rw [b5.cell]; rfl) (b5.frozen _)).mono ?_
  rintro r u' w6 ⟨rfl, rfl, rfl⟩
  have b6 := b5.put 3 (.int .i32 0)
  have k6 := (Keeps.here (w := w4) (b := H) (i := 5) (.slice (some ⟨K, 0, none⟩) 1 c)).trans (Keeps.here (b := H) (i := 3) (.int .i32 0))
  exact ⟨_, results_tmp rfl _ _ _, rfl, b6, K4.out.trans k6⟩
set_option maxRecDepth 100000 in
set_option maxHeartbeats 1000000 in
theorem free_yes (H E D K c e x m n : Nat) (v : Value) (w : World) (hH : Blk w H 119 (cellsH H E D 0 (.slice (some ⟨K, 0, none⟩) 1 c))) (h : One w K c e x) (hKH : ¬ K = H) (he : Blk w e 122 [v, .int .u64 (n : Int)]) (heH : ¬ e = H) (hx : x < 1000000) (hr : ripe x m = true) :
    Calls Tryz.prog 51 #[.pointer (some ⟨H, 3, none⟩), .int .u64 (m : Int)] w fun r w' => ∃ R c', r = .returned (.slice (some ⟨R, 0, none⟩) 1 c') ∧ w'.cell? ⟨R, 0, none⟩ = some (.int .u64 (n : Int)) ∧ Blk w' H 119 (cellsH H E D 0 (.slice (some ⟨K, 0, none⟩) 0 c)) ∧ Keeps (fun k => k = H ∨ k = K) w w' := by
  have hmf : ∀ (fn : Fn) (first cap : Array Value) (w : World), (Instr.makeFunc fn first cap).run Tryz.prog w = .ok (.func fn first cap) w := fun _ _ _ _ => rfl
  have HHL := Lib.hid hH.lt
  have HKL := Lib.hid h.lt
  obtain ⟨wA, hwA, kA, bA⟩ := enter_blk w #[.int .u64 (m : Int)] 42
  have hHA := Blk.keeps hH (kA (fun _ => False)) (fun z => z)
  have HA := Lib.hid (mu_lock H 3 wA (by rw [hHA.cell]; rfl) (hHA.frozen _))
  have b1 : Blk (wA.setCell ⟨H, 3, none⟩ (.int .i32 1)) H 119 (cellsH H E D 1 (.slice (some ⟨K, 0, none⟩) 1 c)) := hHA.put 3 _
  have k1 : Keeps (· = H) wA (wA.setCell ⟨H, 3, none⟩ (.int .i32 1)) := Keeps.here _
  obtain ⟨w1, hw1⟩ : ∃ w1, w1 = wA.setCell ⟨H, 3, none⟩ (.int .i32 1) := ⟨_, rfl⟩
  rw [← hw1] at b1 k1 HA
  have hBH : ¬ w.heap.size = H := fun z => by have := hH.lt; omega
  have cB : w1.cell? ⟨w.heap.size, 0, none⟩ = some (.int .u64 (m : Int)) := Keeps.cell k1 (by rw [bA.cell]; rfl) hBH
  have o1 := (h.keeps (kA (fun _ => False)) (fun z => z)).keeps k1 hKH
  have c5 : w1.cell? ⟨H, 5, none⟩ = some (.slice (some ⟨K, 0, none⟩) 1 c) := by rw [b1.cell]; rfl
  have q0 := o1.cell0
  have q1 := o1.cell1
  obtain ⟨w2, hw2, k2, b2⟩ := enter_blk w1 #[.pointer (some ⟨e, 0, none⟩), .int .u64 (x : Int)] 206
  have cB2 := Keeps.cell (k2 (fun _ => False)) cB (fun z => z)
  have HR := Lib.hid (ripe_ w.heap.size e x m w2 cB2 hx)
  rw [hr] at HR
  have HRX := Lib.hid (show x < 1000000 ∧ ripe x m = true from ⟨hx, hr⟩)
  have HWA := Lib.hid hwA
  have HW2 := Lib.hid hw2
  have K2 := Lib.hid (((kA (· = H)).trans k1).trans (k2 _))
  have B2 := Lib.hid (Blk.keeps b1 (k2 (fun _ => False)) (fun z => z))
  have O2 := Lib.hid (o1.keeps (k2 (fun _ => False)) (fun z => z))
  have CB := Lib.hid cB2
  have E2 := Lib.hid (Keeps.cell (k2 (fun _ => False)) (Keeps.cell k1 (Keeps.cell (kA (fun _ => False)) (show w.cell? ⟨e, 1, none⟩ = some (.int .u64 (n : Int)) by rw [he.cell]; rfl) (fun z => z)) heH) (fun z => z))
  obtain ⟨i0, hi0, hz0, hz1, hz2⟩ := info_parts u64_info
  have q2 : w2.cell? ⟨w1.heap.size, 0, none⟩ = some (.pointer (some ⟨e, 0, none⟩)) := by rw [b2.cell]; rfl
  clear hH h he hHA hwA kA bA b1 k1 hw1 o1 cB cB2 hw2 k2 b2 hr hx
  go_enter_defers Tryz.func51, Tryz.ntmps51
  go_wp2_with fail
  rw [← HWA.out]
  refine HA.out.mono ?_
  rintro r w' ⟨rfl, e1⟩
  subst e1
  go_wp2_with fail
  refine wp_loop_rounds 2 ?_
  rw [rounds_succ]
  go_wp2_with fail
  rw [← HW2.out]
  refine HR.out.mono ?_
  rintro r w3 ⟨rfl, k3⟩
  have b3 := Blk.keeps B2.out (k3 (fun _ => False)) (fun z => z)
  have o3 := O2.out.keeps (k3 (fun _ => False)) (fun z => z)
  have cB3 := Keeps.cell (k3 (fun _ => False)) CB.out (fun z => z)
  have e3 := Keeps.cell (k3 (fun _ => False)) E2.out (fun z => z)
  have p3 := Keeps.cell (k3 (fun _ => False)) q2 (fun z => z)
  have K3 := Lib.hid (K2.out.trans (k3 _))
  have B3 := Lib.hid b3
  have O3 := Lib.hid o3
  have C3 := Lib.hid cB3
  have sz3 := K3.out.size
  have SZ := Lib.hid sz3
  have hs4 : ∀ (j : Nat) (u : Value), [Value.int .u64 (n : Int)][j]? = some u → (w3.alloc (.cells #[.int .u64 (n : Int)] 42)).cell? ((⟨w3.heap.size, 0, none⟩ : Addr).add j) = some u := fun j u hu => by
    rw [Addr.add_lit]
    rcases j with _ | j
    · simp only [List.getElem?_cons_zero, Option.some.injEq] at hu; subst hu
      exact (Blk.new w3 42 #[.int .u64 (n : Int)]).cell 0
    · simp at hu
  have HS := Lib.hid hs4
  have ho4 : (w3.alloc (.cells #[.int .u64 (n : Int)] 42)).ownsRow (w3.heap.size + 1) 42 1 (.slice none 0 0) 0 [] := World.ownsRow_nil _ _ _ _
  have HO := Lib.hid ho4
  have hz4 : w3.heap.size + 1 ≤ (w3.alloc (.cells #[.int .u64 (n : Int)] 42)).heap.size := size_alloc w3 _
  have HZ := Lib.hid hz4
  have n1 : 0 + 1 ≤ maxLen := by unfold maxLen; omega
  have n2 : (0 + 1) * 8 ≤ 140737488355328 := by omega
  have hone : ∀ u ∈ [Value.int .u64 (n : Int)], u.oneCell' = true := by intro u hu; simp only [List.mem_singleton] at hu; subst hu; rfl
  have H1 := Lib.hid hone
  clear k3 b3 o3 cB3 c5 q0 q1 q2 sz3 hs4 ho4 hz4 hone
  go_wp2_with ((at_builtin; refine wpList_apps rfl _ _ 51 rfl (w3.heap.size + 1) 42 i0 _ 1 8 Tryz.underlying51 hi0 hz0 hz1 hz2 rfl (by decide) (.slice none 0 0) 0 [] rfl HO.out ⟨w3.heap.size, 0, none⟩ 1 1 [.int .u64 (n : Int)] rfl rfl HS.out H1.out n1 n2 HZ.out ?_; intro v2 w9 hown2 hg2 hat2; have HO2 := Lib.hid hown2; have HG2 := Lib.hid hg2; clear hown2 hg2 hat2))
  have ho : w9.ownsRow (w3.heap.size + 1) 42 1 v2 1 [.int .u64 (n : Int)] := by have := HO2.out; simpa using this
  rcases ho.2 with ⟨_, h⟩ | ⟨R, c', cur, rfl, hb, hg, h1, h2, h3, h4⟩
  · omega
  have k9 : ∀ S, Keeps S w3 w9 := fun S => ((Keeps.refl S w3).alloc _).trans ⟨HG2.out.size, fun b hb _ => HG2.out.block b hb (fun e => by simp [Value.ownBlock] at e), HG2.out.os, HG2.out.tape, HG2.out.output⟩
  have r9 : w9.cell? ⟨R, 0, none⟩ = some (.int .u64 (n : Int)) := ho.cells (g := R) rfl 0 _ rfl
  have b9 := Blk.keeps B3.out (k9 (fun _ => False)) (fun z => z)
  have o9 := O3.out.keeps (k9 (fun _ => False)) (fun z => z)
  have HD := Lib.hid (delete_yes w.heap.size K c e x m w9 o9 (Keeps.cell (k9 (fun _ => False)) C3.out (fun z => z)) HRX.out.1 HRX.out.2)
  have c59 : w9.cell? ⟨H, 5, none⟩ = some (.slice (some ⟨K, 0, none⟩) 1 c) := by rw [b9.cell]; rfl
  have K9 := Lib.hid (K3.out.trans (k9 _))
  have B9 := Lib.hid b9
  have R9 := Lib.hid r9
  have RB := Lib.hid (show w.heap.size + 1 ≤ R by have := SZ.out; omega)
  clear ho h1 h2 h3 h4 hb hg k9 r9 b9 o9 e3 p3
  rw [rounds_succ]
  go_wp2_with fail
  refine HD.out.mono ?_
  rintro r w4 ⟨rfl, k4⟩
  have b4 := Blk.keeps B9.out k4 (fun z => hKH z.symm)
  have c54 : w4.cell? ⟨H, 5, none⟩ = some (.slice (some ⟨K, 0, none⟩) 1 c) := by rw [b4.cell]; rfl
  have f54 := b4.frozen 5
  have hRK : ¬ R = K := fun z => by
    have h1 := HKL.out
    have h2 := RB.out
    omega
  have r4 := Keeps.cell k4 R9.out hRK
  have K4 := Lib.hid ((K9.out.mono (fun _ _ z => (.inl z : _ ∨ _ = K))).trans (k4.mono (fun _ _ z => .inr z)))
  have B4 := Lib.hid b4
  have R4 := Lib.hid r4
  clear k4 b4 c59 r4
  go_wp2
  refine leaves_cons (f := 86) (args := #[.pointer (some ⟨H, 3, none⟩)]) (by simp) (by simp [go_sem]) ?_
  have b5 : Blk (w4.setCell ⟨H, 5, none⟩ (.slice (some ⟨K, 0, none⟩) 0 c)) H 119 (cellsH H E D 1 (.slice (some ⟨K, 0, none⟩) 0 c)) := B4.out.put 5 _
  refine (mu_unlock H 3 _ _ (by rw [b5.cell]; rfl) (b5.frozen _)).mono ?_
  rintro r u' w6 ⟨rfl, rfl, rfl⟩
  have b6 := b5.put 3 (.int .i32 0)
  have k6 := (Keeps.here (w := w4) (b := H) (i := 5) (.slice (some ⟨K, 0, none⟩) 0 c)).trans (Keeps.here (b := H) (i := 3) (.int .i32 0))
  refine ⟨_, results_tmp rfl _ _ _, R, c', rfl, Keeps.cell k6 R4.out (fun z => ?_), b6, K4.out.trans (k6.mono (fun _ _ z => .inl z))⟩
  have h1 := HHL.out
  have h2 := RB.out
  omega
end Go.Proofs.YtbemnfoamhbemaaGreat.hoS
