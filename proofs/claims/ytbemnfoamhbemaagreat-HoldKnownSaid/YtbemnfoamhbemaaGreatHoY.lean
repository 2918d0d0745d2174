/-
  hold at string, under no gate: Put onto an empty shelf, Free of a shelf of one, New.
-/
import Derived.Test.YtbemnfoamhbemaaGreatHoX
set_option linter.unusedVariables false
namespace Go.Proofs.YtbemnfoamhbemaaGreat.hoS
open Go.RowKit Go.Proofs.YtbemnfoamhbemaaGreat.oc Go.Proofs.YtbemnfoamhbemaaGreat.mz Go.Proofs.YtbemnfoamhbemaaGreat.at_ Go.Proofs.YtbemnfoamhbemaaGreat.gt Go.Proofs.YtbemnfoamhbemaaGreat.gw Go.Proofs.YtbemnfoamhbemaaGreat.ep Go.Proofs.YtbemnfoamhbemaaGreat.ho
/-- a hold that keeps one: entry e, swapped out in epoch x -/
structure Hd1 (w : World) (H E D : Nat) (s : ByteArray) (n K c e x : Nat) (s0 : ByteArray) (n0 : Nat) (ws : List Nat) : Prop where
  hd : Hd w H E D s n (.slice (some ⟨K, 0, none⟩) 1 c) ws
  one : One w K c e x
  old : Blk w e 122 [.string s0, .int .u64 (n0 : Int)]
  hKH : ¬ K = H
  hKD : ¬ K = D
  hEK : ¬ E = K
  heH : ¬ e = H
  heD : ¬ e = D
section
variable {w w' : World} {H E D n K c e x n0 : Nat} {s s0 : ByteArray} {ws ws' : List Nat}
theorem Hd1.dom (h : Hd1 w H E D s n K c e x s0 n0 ws) (k : Keeps (· = D) w w') (p : Ep w' D 2 ws') : Hd1 w' H E D s n K c e x s0 n0 ws' :=
  ⟨h.hd.dom k p, h.one.keeps k h.hKD, Blk.keeps h.old k h.heD, h.hKH, h.hKD, h.hEK, h.heH, h.heD⟩
theorem Hd1.keeps {S : Nat → Prop} (h : Hd1 w H E D s n K c e x s0 n0 ws) (k : Keeps S w w') (hS : ∀ b, ¬ S b) : Hd1 w' H E D s n K c e x s0 n0 ws :=
  ⟨h.hd.keeps k (hS _) (hS _) (hS _), h.one.keeps k (hS _), Blk.keeps h.old k (hS _), h.hKH, h.hKD, h.hEK, h.heH, h.heD⟩
end
section
variable (H E D n : Nat) (s : ByteArray) (ws : List Nat) (w : World)
set_option maxRecDepth 100000 in
set_option maxHeartbeats 1000000 in
theorem swap_ (m : Nat) (hm : m = n + 1) (hn : n < 1000000) (s' : ByteArray) (h : Hd w H E D s n (.slice none 0 0) ws) :
    Calls Tryz.prog 50 #[.pointer (some ⟨H, 0, none⟩), .nilIface, .pointer (some ⟨E, 0, none⟩), .string s'] w fun r w' => r = .returned (.bool true) ∧ ∃ E' K c, Hd1 w' H E' D s' m K c E (ws[0]?.getD 0) s n ws ∧ w.heap.size ≤ K ∧ Keeps (fun b => b = H ∨ b = D) w w' := by
  have e1 : w.cell? ⟨E, 1, none⟩ = some (.int .u64 (n : Int)) := by rw [h.ent.cell]; rfl
  have hq : IntKind.u64.wrap ((n : Int) + 1) = (m : Int) := by rw [wrap_u64]; omega
  obtain ⟨wB, hwB, kB, bB⟩ := enter_blk w #[.string s', .int .u64 (m : Int)] 122
  have hB := h.keeps (kB (fun _ => False)) (fun z => z) (fun z => z) (fun z => z)
  have HT := Lib.hid (tell_nil 5 0 wB)
  have HC := Lib.hid (p_cas H 1 E w.heap.size _ _ _ _ wB (by rw [hB.blk.cell]; rfl) (hB.blk.frozen _) hB.ent bB)
  have b1 : Blk (wB.setCell ⟨H, 1, none⟩ (.pointer (some ⟨w.heap.size, 0, none⟩))) H 119 (cellsH H w.heap.size D 0 (.slice none 0 0)) := hB.blk.put 1 _
  have k1 : Keeps (· = H) wB (wB.setCell ⟨H, 1, none⟩ (.pointer (some ⟨w.heap.size, 0, none⟩))) := Keeps.here _
  obtain ⟨w1, hw1⟩ : ∃ w1, w1 = wB.setCell ⟨H, 1, none⟩ (.pointer (some ⟨w.heap.size, 0, none⟩)) := ⟨_, rfl⟩
  rw [← hw1] at b1 k1 HC
  have hH := h.blk.lt
  have hD := h.ep.lt
  have hE := h.ent.lt
  have h1 : Hd w1 H w.heap.size D s' m (.slice none 0 0) ws := ⟨b1, Blk.keeps bB k1 (by omega), hB.ep.keeps k1 h.hD, by omega, h.hD, by omega⟩
  have o1 : Blk w1 E 122 [.string s, .int .u64 (n : Int)] := Blk.keeps hB.ent k1 h.hE
  have HN := Lib.hid (Now_ D 2 0 ws .nilIface [] _ w1 (nil_st h1.ep) (by simp))
  have c2 : w1.cell? ⟨H, 2, none⟩ = some (.pointer (some ⟨D, 0, none⟩)) := by rw [b1.cell]; rfl
  have HWB := Lib.hid hwB
  have K1 := Lib.hid ((kB _).trans k1)
  have H1 := Lib.hid h1
  have O1 := Lib.hid o1
  have HX := Lib.hid (show ¬ E = H ∧ ¬ E = D ∧ H < w.heap.size ∧ D < w.heap.size ∧ E < w.heap.size from ⟨h.hE, h.hED, hH, hD, hE⟩)
  have hnot : ∀ (x : Bool) (w : World), (Op.unary .not (.bool x)).run Tryz.prog w = .ok (.bool (!x)) w := fun _ _ => rfl
  clear h hm hn hwB kB bB hB b1 k1 hw1 hH hD hE h1 o1
  go_enter Tryz.func50, Tryz.ntmps50
  go_wp2_with fail
  rw [← HWB.out]
  refine HT.out.mono ?_
  rintro r w' ⟨rfl, rfl⟩
  go_wp2_with fail
  refine HC.out.mono ?_
  rintro r w' ⟨rfl, e9⟩
  subst e9
  go_wp2_with fail
  refine HN.out.mono ?_
  rintro r w2 ⟨rfl, l2⟩
  have l2 := left_nil l2
  have h2 := H1.out.dom l2.2 l2.1
  have o2 := Blk.keeps O1.out l2.2 HX.out.2.1
  have HK := Lib.hid (keep_nil H w.heap.size D E (ws[0]?.getD 0) _ n w2 h2.blk o2 HX.out.1)
  have H2 := Lib.hid h2
  have O2 := Lib.hid o2
  have K2 := Lib.hid (show Keeps (fun b => b = H ∨ b = D) w w2 from (K1.out.mono (fun _ _ z => .inl z)).trans (l2.2.mono (fun _ _ z => .inr z)))
  clear l2 h2 o2 c2 e1
  go_wp2_with fail
  refine HK.out.mono ?_
  rintro r w3 ⟨rfl, K, c, b3, o3, hK, k3⟩
  have hx := HX.out
  have s2 := K2.out.size
  have e2 : w.heap.size < w2.heap.size := H2.out.ent.lt
  have r3 : Hd1 w3 H w.heap.size D s' m K c E (ws[0]?.getD 0) s n ws := ⟨⟨b3, Blk.keeps H2.out.ent k3 H2.out.hE, H2.out.ep.keeps k3 H2.out.hD, H2.out.hE, H2.out.hD, H2.out.hED⟩, o3, Blk.keeps O2.out k3 hx.1, by omega, by omega, by omega, hx.1, hx.2.1⟩
  have R3 := Lib.hid r3
  have K3 := Lib.hid (K2.out.trans (k3.mono (fun _ _ z => .inl z)))
  have HKK := Lib.hid (show w.heap.size ≤ K by omega)
  clear b3 o3 hK k3 hx s2 e2 r3
  go_wp2
  try rw [Exit.noGoto_ret]
  go_ret
  exact ⟨rfl, _, K, c, R3.out, HKK.out, K3.out⟩
set_option maxRecDepth 100000 in
set_option maxHeartbeats 1000000 in
theorem put_ (m : Nat) (hm : m = n + 1) (hn : n < 1000000) (s' : ByteArray) (h : Hd w H E D s n (.slice none 0 0) ws) :
    Calls Tryz.prog 15 #[.pointer (some ⟨H, 0, none⟩), .nilIface, .string s'] w fun r w' => r = .returned (.tuple #[.int .u64 (m : Int), .int .i64 0]) ∧ ∃ E' K c, Hd1 w' H E' D s' m K c E (ws[0]?.getD 0) s n ws ∧ w.heap.size ≤ K ∧ Keeps (fun b => b = H ∨ b = D) w w' := by
  have HN := Lib.hid (none_ H E D n s _ ws w h)
  have HL := Lib.hid (load_ H E D n s _ ws w h)
  have HS := Lib.hid (swap_ H E D n s ws w m hm hn s' h)
  have hq : IntKind.u64.wrap ((n : Int) + 1) = (m : Int) := by rw [wrap_u64]; omega
  clear h hm hn
  go_enter Tryz.func15, Tryz.ntmps15
  go_wp2_with fail
  refine HN.out.mono ?_
  rintro r w' ⟨rfl, rfl⟩
  go_wp2_with fail
  refine wp_loop_rounds 1 ?_
  rw [rounds_succ]
  go_wp2_with fail
  refine HL.out.mono ?_
  rintro r w' ⟨rfl, rfl⟩
  go_wp2_with fail
  refine HS.out.mono ?_
  rintro r w3 ⟨rfl, E', K, c, r3, hK, k3⟩
  have e1 : w3.cell? ⟨E, 1, none⟩ = some (.int .u64 (n : Int)) := by rw [r3.old.cell]; rfl
  have R3 := Lib.hid r3
  have K3 := Lib.hid k3
  have HKK := Lib.hid hK
  clear r3 k3 hK
  go_wp2
  try rw [Exit.noGoto_ret]
  go_ret2
  exact ⟨rfl, E', K, c, R3.out, HKK.out, K3.out⟩
set_option maxRecDepth 100000 in
set_option maxHeartbeats 1000000 in
theorem hfree_no (K c e x n0 : Nat) (s0 : ByteArray) (ws' : List Nat) (h : Hd1 w H E D s n K c e x s0 n0 ws) (hx : x < 1000000) (hr : ripe x (ws'[0]?.getD 0) = false)
    (HM : Calls Tryz.prog 38 #[.pointer (some ⟨D, 0, none⟩), .nilIface] w fun r w' => (∃ u, r = .returned u) ∧ Ep w' D 2 ws' ∧ Keeps (· = D) w w') :
    Calls Tryz.prog 16 #[.pointer (some ⟨H, 0, none⟩), .nilIface] w fun r w' => r = .returned (.tuple #[.slice none 0 0, .int .i64 0]) ∧ Hd1 w' H E D s n K c e x s0 n0 ws' ∧ Keeps (fun b => b = H ∨ b = D) w w' := by
  have HN := Lib.hid (none_ H E D n s _ ws w h.hd)
  have c2 : w.cell? ⟨H, 2, none⟩ = some (.pointer (some ⟨D, 0, none⟩)) := by rw [h.hd.blk.cell]; rfl
  have HH := Lib.hid h
  have HM := Lib.hid HM
  have HX := Lib.hid (show x < 1000000 ∧ ripe x (ws'[0]?.getD 0) = false from ⟨hx, hr⟩)
  clear h hx hr
  go_enter Tryz.func16, Tryz.ntmps16
  go_wp2_with fail
  refine HN.out.mono ?_
  rintro r w' ⟨rfl, rfl⟩
  go_wp2_with fail
  refine HM.out.mono ?_
  rintro r w1 ⟨⟨u, rfl⟩, e1, k1⟩
  have h1 := HH.out.dom k1 e1
  have HW := Lib.hid (Now_ D 2 0 ws' .nilIface [] _ w1 (nil_st h1.hd.ep) (by simp))
  have c21 : w1.cell? ⟨H, 2, none⟩ = some (.pointer (some ⟨D, 0, none⟩)) := by rw [h1.hd.blk.cell]; rfl
  have H1 := Lib.hid h1
  have K1 := Lib.hid k1
  clear e1 k1 h1 c2
  go_wp2_with fail
  refine HW.out.mono ?_
  rintro r w2 ⟨rfl, l2⟩
  have l2 := left_nil l2
  have h2 := H1.out.dom l2.2 l2.1
  have HF := Lib.hid (free_no H E D K c e x (ws'[0]?.getD 0) w2 h2.hd.blk h2.one h2.hKH HX.out.1 HX.out.2)
  have H2 := Lib.hid h2
  have K2 := Lib.hid (show Keeps (fun b => b = H ∨ b = D) w w2 from (K1.out.trans l2.2).mono (fun _ _ z => .inr z))
  clear l2 h2 c21
  go_wp2_with fail
  refine HF.out.mono ?_
  rintro r w3 ⟨rfl, b3, k3⟩
  have h2 := H2.out
  have r3 : Hd1 w3 H E D s n K c e x s0 n0 ws' := ⟨⟨b3, Blk.keeps h2.hd.ent k3 h2.hd.hE, h2.hd.ep.keeps k3 h2.hd.hD, h2.hd.hE, h2.hd.hD, h2.hd.hED⟩, h2.one.keeps k3 h2.hKH, Blk.keeps h2.old k3 h2.heH, h2.hKH, h2.hKD, h2.hEK, h2.heH, h2.heD⟩
  have R3 := Lib.hid r3
  have K3 := Lib.hid (K2.out.trans (k3.mono (fun _ _ z => .inl z)))
  clear h2 b3 k3 r3
  go_wp2
  try rw [Exit.noGoto_ret]
  go_ret2
  exact ⟨rfl, R3.out, K3.out⟩
set_option maxRecDepth 100000 in
set_option maxHeartbeats 1000000 in
theorem hfree_yes (K c e x n0 : Nat) (s0 : ByteArray) (ws' : List Nat) (h : Hd1 w H E D s n K c e x s0 n0 ws) (hx : x < 1000000) (hr : ripe x (ws'[0]?.getD 0) = true)
    (HM : Calls Tryz.prog 38 #[.pointer (some ⟨D, 0, none⟩), .nilIface] w fun r w' => (∃ u, r = .returned u) ∧ Ep w' D 2 ws' ∧ Keeps (· = D) w w') :
    Calls Tryz.prog 16 #[.pointer (some ⟨H, 0, none⟩), .nilIface] w fun r w' => ∃ R c', r = .returned (.tuple #[.slice (some ⟨R, 0, none⟩) 1 c', .int .i64 0]) ∧ w'.cell? ⟨R, 0, none⟩ = some (.int .u64 (n0 : Int)) ∧ Hd w' H E D s n (.slice (some ⟨K, 0, none⟩) 0 c) ws' ∧ Keeps (fun b => b = H ∨ b = D ∨ b = K) w w' := by
  have HN := Lib.hid (none_ H E D n s _ ws w h.hd)
  have c2 : w.cell? ⟨H, 2, none⟩ = some (.pointer (some ⟨D, 0, none⟩)) := by rw [h.hd.blk.cell]; rfl
  have HH := Lib.hid h
  have HM := Lib.hid HM
  have HX := Lib.hid (show x < 1000000 ∧ ripe x (ws'[0]?.getD 0) = true from ⟨hx, hr⟩)
  clear h hx hr
  go_enter Tryz.func16, Tryz.ntmps16
  go_wp2_with fail
  refine HN.out.mono ?_
  rintro r w' ⟨rfl, rfl⟩
  go_wp2_with fail
  refine HM.out.mono ?_
  rintro r w1 ⟨⟨u, rfl⟩, e1, k1⟩
  have h1 := HH.out.dom k1 e1
  have HW := Lib.hid (Now_ D 2 0 ws' .nilIface [] _ w1 (nil_st h1.hd.ep) (by simp))
  have c21 : w1.cell? ⟨H, 2, none⟩ = some (.pointer (some ⟨D, 0, none⟩)) := by rw [h1.hd.blk.cell]; rfl
  have H1 := Lib.hid h1
  have K1 := Lib.hid k1
  clear e1 k1 h1 c2
  go_wp2_with fail
  refine HW.out.mono ?_
  rintro r w2 ⟨rfl, l2⟩
  have l2 := left_nil l2
  have h2 := H1.out.dom l2.2 l2.1
  have HF := Lib.hid (free_yes H E D K c e x (ws'[0]?.getD 0) n0 _ w2 h2.hd.blk h2.one h2.hKH h2.old h2.heH HX.out.1 HX.out.2)
  have H2 := Lib.hid h2
  have K2 := Lib.hid (show Keeps (fun b => b = H ∨ b = D ∨ b = K) w w2 from (K1.out.trans l2.2).mono (fun _ _ z => .inr (.inl z)))
  clear l2 h2 c21
  go_wp2_with fail
  refine HF.out.mono ?_
  rintro r w3 ⟨R, c', rfl, r3, b3, k3⟩
  have h2 := H2.out
  have d3 : Hd w3 H E D s n (.slice (some ⟨K, 0, none⟩) 0 c) ws' := ⟨b3, Blk.keeps h2.hd.ent k3 (fun z => z.elim h2.hd.hE h2.hEK), h2.hd.ep.keeps k3 (fun z => z.elim h2.hd.hD (fun z => h2.hKD z.symm)), h2.hd.hE, h2.hd.hD, h2.hd.hED⟩
  have D3 := Lib.hid d3
  have R3 := Lib.hid r3
  have K3 := Lib.hid (K2.out.trans (k3.mono (fun _ _ z => z.elim .inl (fun z => .inr (.inr z)))))
  clear h2 b3 k3 r3 d3
  go_wp2
  try rw [Exit.noGoto_ret]
  go_ret2
  exact ⟨R, c', rfl, R3.out, D3.out, K3.out⟩
end
set_option maxRecDepth 100000 in
set_option maxHeartbeats 1000000 in
theorem hnew_ok (s : ByteArray) (w : World) :
    Calls Tryz.prog 13 #[.string s, .int .i64 2] w fun r w' => ∃ H E D, r = .returned (.tuple #[.pointer (some ⟨H, 0, none⟩), .int .i64 0]) ∧ Hd w' H E D s 1 (.slice none 0 0) (startW 2) ∧ (w.heap.size ≤ H ∧ w.heap.size ≤ D) ∧ ∀ S, Keeps S w w' := by
  have HN := Lib.hid (new_ok 2 w (by omega) (by omega))
  go_enter Tryz.func13, Tryz.ntmps13
  go_wp2_with fail
  refine HN.out.mono ?_
  rintro r w1 ⟨D, rfl, p1, hD, k1⟩
  obtain ⟨w3, hw3, k3, b3⟩ := enter_blk w1 #[.pointer (some ⟨w1.heap.size, 0, none⟩), .pointer none, .pointer (some ⟨D, 0, none⟩), .int .i32 0, .int .u32 0, .slice none 0 0] 119
  obtain ⟨w4, hw4, k4, b4⟩ := enter_blk w3 #[.string s, .int .u64 1] 122
  have z3 : w3.heap.size = w1.heap.size + 1 := by rw [hw3]; simp
  rw [z3] at b4
  have b34 := Blk.keeps b3 (k4 (fun _ => False)) (fun z => z)
  have HS := Lib.hid (p_store w1.heap.size 1 (w1.heap.size + 1) _ _ _ w4 (by rw [b34.cell]; rfl) (b34.frozen _) b4)
  have KK := Lib.hid (fun S => (((k1 S).trans (k3 S)).trans (k4 S)))
  have P4 := Lib.hid ((p1.keeps (k3 (fun _ => False)) (fun z => z)).keeps (k4 (fun _ => False)) (fun z => z))
  have B34 := Lib.hid b34
  have B4 := Lib.hid b4
  have HX := Lib.hid (show (w.heap.size ≤ w1.heap.size ∧ D < w1.heap.size) ∧ w.heap.size ≤ D from ⟨⟨(k1 (fun _ => False)).size, p1.lt⟩, hD⟩)
  have e4 : w4 = (w1.alloc (.cells #[.pointer (some ⟨w1.heap.size, 0, none⟩), .pointer none, .pointer (some ⟨D, 0, none⟩), .int .i32 0, .int .u32 0, .slice none 0 0] 119)).alloc (.cells #[.string s, .int .u64 1] 122) := by rw [hw4, hw3]
  have HW := Lib.hid e4
  clear p1 hD k1 hw3 k3 b3 hw4 k4 b4 z3 b34 e4
  go_wp2_with fail
  rw [← HW.out]
  refine HS.out.mono ?_
  rintro r w' ⟨rfl, e5⟩
  have b5 := B34.out.put 1 (.pointer (some ⟨w1.heap.size + 1, 0, none⟩))
  have k5 := Keeps.here (w := w4) (b := w1.heap.size) (i := 1) (.pointer (some ⟨w1.heap.size + 1, 0, none⟩))
  have hx := HX.out
  have r5 : Hd w' w1.heap.size (w1.heap.size + 1) D s 1 (.slice none 0 0) (startW 2) := by
    rw [← e5]
    exact ⟨b5, Blk.keeps B4.out k5 (by omega), P4.out.keeps k5 (by omega), by omega, by omega, by omega⟩
  have R5 := Lib.hid r5
  have K5 : Hid (∀ S, Keeps S w w') := Lib.hid (fun S => by rw [← e5]; exact Keeps.glue (KK.out S) k5 (fun x hx z => by omega))
  clear b5 k5 hx r5 e5
  go_wp2
  try rw [Exit.noGoto_ret]
  go_ret2
  exact ⟨_, _, _, rfl, R5.out, ⟨HX.out.1.1, HX.out.2⟩, K5.out⟩
set_option maxRecDepth 100000 in
set_option maxHeartbeats 1000000 in
theorem hnew_arg (s : ByteArray) (x : Int) (hx : x < 1 ∨ 16 < x) (w : World) :
    Calls Tryz.prog 13 #[.string s, .int .i64 x] w fun r w' => r = .returned (.tuple #[.pointer none, .int .i64 2]) ∧ w = w' := by
  have HN := Lib.hid (new_arg w x hx)
  clear hx
  go_enter Tryz.func13, Tryz.ntmps13
  go_wp2_with fail
  refine HN.out.mono ?_
  rintro r w1 ⟨rfl, rfl⟩
  go_wp2
  try rw [Exit.noGoto_ret]
  go_ret2
  exact ⟨rfl, rfl⟩
end Go.Proofs.YtbemnfoamhbemaaGreat.hoS
