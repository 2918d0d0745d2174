/-
  packet: the fronts.
-/
import Derived.Test.YtidengmcbppcoaaPkF
set_option linter.unusedVariables false
set_option linter.unusedSimpArgs false
namespace Go.Proofs.Ytidengmcbppcoaa.pk
open Go.RowKit Go.Proofs.Ytidengmcbppcoaa.oc Go.Proofs.Ytidengmcbppcoaa.mz Go.Proofs.Ytidengmcbppcoaa.pf Go.Proofs.Ytidengmcbppcoaa.wh Go.Proofs.Ytidengmcbppcoaa.qk Go.Proofs.Ytidengmcbppcoaa.bys
def word6 (h : Hd) : Nat := (1536 + h.cls) * 1048576 + h.id
def six (h : Hd) (k : Nat) : List Nat := be 4 (word6 h) ++ be 2 (k % 65536) ++ [h.pr, h.ttl] ++ h.src.B ++ h.dst.B
def four0 (h : Hd) (k : Nat) : List Nat := [69, h.cls] ++ be 2 ((20 + k) % 65536) ++ be 2 (h.id % 65536) ++ [64, 0, h.ttl, h.pr, 0, 0] ++ h.src.B.take 4 ++ h.dst.B.take 4
def front (h : Hd) (k : Nat) : List Nat := if h.src.v6 then six h k else fillp (four0 h k) 10 (csum (four0 h k))
theorem or_low (m y k : Nat) (hy : y < 2 ^ k) : (m * 2 ^ k) ||| y = m * 2 ^ k + y := by
  rw [Nat.mul_comm, Nat.two_pow_add_eq_or_of_lt hy]
theorem own_apart {w wi : World} {g n c : Nat} {l : List Nat} (h : By w wi (.slice (some ⟨g, 0, none⟩) n c) l) {X : Nat} (hX : wi.heap.size ≤ X ∨ X < g) : ¬ (Value.slice (some ⟨g, 0, none⟩) n c).ownBlock = some X := fun e => by
  have e2 : g = X := by simpa [Value.ownBlock] using e
  have := (h.own.lt X e).2
  omega
theorem ne_app {v v' : Value} {g n : Nat} (a4 : v'.ownBlock = v.ownBlock ∨ v'.ownBlock = some n) (hne : ¬ v.ownBlock = some g) (hlt : g < n) : ¬ v'.ownBlock = some g := by
  rcases a4 with e | e
  · rw [e]; exact hne
  · rw [e]; intro z; injection z with z; omega
/-- a header's addresses as bytes -/
theorem src_rd {w : World} {g : Nat} {h : Hd} {v : Value} (hw : h.Wf) (hb : Blk w g 29 (hcs h v)) : Rd w (g + 1) (some ⟨g, 1, none⟩) (by_ h.src.B) := fun j v hj => ⟨g, 1, rfl, by omega, by
  have hl : j < (b8s h.src.B).length := (List.getElem?_eq_some_iff.1 hj).1
  rw [hb.cell, Nat.add_comm 1 j]
  unfold hcs
  rw [List.getElem?_append_left (by unfold adc; simp; omega), adc, List.getElem?_cons_succ]; exact hj⟩
theorem dst_rd {w : World} {g : Nat} {h : Hd} {v : Value} (hw : h.Wf) (hb : Blk w g 29 (hcs h v)) : Rd w (g + 1) (some ⟨g, 18, none⟩) (by_ h.dst.B) := fun j v hj => ⟨g, 18, rfl, by omega, by
  have hl : j < (b8s h.dst.B).length := (List.getElem?_eq_some_iff.1 hj).1
  rw [hb.cell]
  unfold hcs
  rw [List.getElem?_append_right (by rw [adc_len hw.s]; omega), adc_len hw.s, show 18 + j - 17 = j + 1 from by omega, List.getElem?_append_left (by unfold adc; simp; omega), adc, List.getElem?_cons_succ]; exact hj⟩
section
variable (w : World)
set_option maxRecDepth 100000 in
set_option maxHeartbeats 1000000 in
theorem six_ (h : Hd) (v : Value) (hw : h.Wf) (hi : h.id ≤ 1048575) (k : Nat) (hk : k ≤ 140737488000000) : Calls Try.prog 56 #[hvv h v, .int .i64 (k : Int)] w fun e w' => ∃ u, e = .returned u ∧ By w w' u (six h k) := by
  obtain ⟨w1, hw1, k1, b1, s1⟩ := box1 w (hcs h v) 29
  have f1 := HF.of_blk hw b1
  have x38 := f1.cls
  have x39 := f1.id
  rw [hw1] at x38 x39
  have hc8 := hw.c
  have hr := or_low 6 h.cls 8 hc8
  obtain ⟨c1, hc1⟩ : ∃ c1, c1 = 1536 + h.cls := ⟨_, rfl⟩
  obtain ⟨c2, hc2⟩ : ∃ c2, c2 = c1 * 1048576 := ⟨_, rfl⟩
  obtain ⟨c3, hc3⟩ : ∃ c3, c3 = c2 + h.id := ⟨_, rfl⟩
  have e0 : bits .or .u32 1536 (h.cls : Int) = (c1 : Int) := by
    have := u32_or_nat 1536 h.cls (by omega) (by omega)
    rw [show (1536 : Nat) ||| h.cls = c1 from by rw [hc1]; exact hr] at this
    exact this
  have c1b : c1 < 1792 := by omega
  have c2b : c2 + 1048576 ≤ 4294967296 := by omega
  have e1 : IntKind.u32.wrap ((c1 : Int) * 2 ^ 20) = (c2 : Int) := by rw [IntKind.wrap_u32, show ((2 : Int) ^ 20) = 1048576 from rfl]; omega
  have e1b : IntKind.u32.wrap ((c1 : Int) * 1048576) = (c2 : Int) := by rw [IntKind.wrap_u32]; omega
  have e2 : bits .or .u32 (c2 : Int) (h.id : Int) = (c3 : Int) := by
    have := u32_or_nat c2 h.id (by omega) (by omega)
    rw [show c2 ||| h.id = c3 from by
      have h2 := or_low c1 h.id 20 (by omega)
      rw [show (2 : Nat) ^ 20 = 1048576 from rfl] at h2
      rw [hc3, hc2]; exact h2] at this
    exact this
  have c3b : c3 < 4294967296 := by omega
  have e00 : (h.cls : Int) % 4294967296 = (h.cls : Int) := by omega
  have e1c : (c1 : Int) * 1048576 % 4294967296 = (c2 : Int) := by omega
  have HW6 : Hid (word6 h = c3) := Lib.hid (by unfold word6; omega)
  have HP1 := Lib.hid (put32_any none [] 0 0 0 c3 w1 rfl (by omega) c3b Rd.nil_ (by omega))
  obtain ⟨q, hq⟩ : ∃ q, q = k % 65536 := ⟨_, rfl⟩
  have hq9 : q < 65536 := by omega
  have e3 : IntKind.u16.wrap (k : Int) = (q : Int) := by rw [IntKind.wrap_u16]; omega
  have e3b : (k : Int) % 65536 = (q : Int) := by omega
  have HFF := Lib.hid f1
  have HWF := Lib.hid hw
  have K1 := Lib.hid k1
  have HW := Lib.hid hw1
  have HS1 := Lib.hid s1
  have HBK := Lib.hid b1
  have HQ := Lib.hid hq
  unfold hvv
  clear hw1 k1 b1 s1 f1 hw hr hc1 hc2 hc3 hq hc8
  generalize hC : hcs h v = C at HW x38 x39 HBK ⊢
  go_enter Try.func56, Try.ntmps56
  go_wp2_with fail
  --@A
  try rw [← HW.out]
  refine HP1.out.mono ?_
  rintro e w2 ⟨rfl, b2, l2⟩
  have K2 : Hid (∀ S, Keeps S w1 w2) := Lib.hid (fun S => keeps_of_below l2 S)
  have HP2 := Lib.hid (put16_any (some ⟨w1.heap.size, 0, none⟩) ([] ++ be 4 c3) 4 4 _ q w2 (by simp [be_length]) (by omega) hq9 b2.rd b2.lt)
  clear b2 l2 x38 x39 HP1 e0 e1 e1b e2 e00 e1c
  go_wp2_with fail
  refine HP2.out.mono ?_
  rintro e w3 ⟨rfl, b3, l3⟩
  have K3 : Hid (∀ S, Keeps S w1 w3) := Lib.hid (fun S => (K2.out S).trans (keeps_of_below l3 S))
  have F3 := HFF.out.keeps HWF.out (K3.out (fun _ => False)) (fun z => z)
  have y34 := F3.pr
  have y37 := F3.ttl
  have Y3 : Hid (By w w3 (.slice (some ⟨w2.heap.size, 0, none⟩) 6 6) ([] ++ be 4 c3 ++ be 2 q)) := Lib.hid (By.of_blk b3 (by simp [be_length]) ((K1.out (fun _ => False)).trans (K2.out _)).size (by omega) (fun S => (K1.out S).trans (K3.out S)))
  have HB3 : Hid (([] ++ be 4 c3 ++ be 2 q).length = 6) := Lib.hid (by simp [be_length])
  have HBX : Hid (∀ wq, Keeps (fun b => ¬ b = w.heap.size) w1 wq → Rd wq (w.heap.size + 1) (some ⟨w.heap.size, 1, none⟩) (by_ h.src.B) ∧ Rd wq (w.heap.size + 1) (some ⟨w.heap.size, 18, none⟩) (by_ h.dst.B)) := Lib.hid (fun wq kq => by
    have hbx : Blk wq w.heap.size 29 (hcs h v) := by rw [hC]; exact Blk.keeps HBK.out kq (fun z => z rfl)
    exact ⟨src_rd HWF.out hbx, dst_rd HWF.out hbx⟩)
  have HX3 := Lib.hid (own_apart Y3.out (X := w.heap.size) (show w3.heap.size ≤ w.heap.size ∨ w.heap.size < w2.heap.size from .inr (by have := (K2.out (fun _ => False)).size; have := HS1.out; omega)))
  clear b3 l3 HP2 F3
  go_wp2_with (first
    | (at_builtin; refine By.wpList_append2 rfl _ _ rfl (Y3.out.alloc _) rfl (some ⟨w3.heap.size, 0, none⟩) 2 2 _ [h.pr, h.ttl] rfl rfl (lit_rd w3 [h.pr, h.ttl] _ rfl) (by rw [HB3.out]; omega) ?_; intro v4 w4 y4 k4 a4; have Y4 := Lib.hid y4; have N4 := Lib.hid (ne_app a4 HX3.out (by have := (K3.out (fun _ => False)).size; have := HS1.out; simp; omega)); have K4 : Hid (Keeps (fun b => ¬ b = w.heap.size) w1 w4) := Lib.hid (((K3.out _).alloc _).trans (k4.mono (fun x _ e z => HX3.out (by rw [e, z])))); clear y4 k4 a4)
    | (at_builtin; refine By.wpList_append2 rfl _ _ rfl Y4.out rfl (some ⟨w.heap.size, 1, none⟩) 16 16 _ h.src.B rfl HWF.out.s.len (HBX.out _ K4.out).1 (by rw [List.length_append, HB3.out]; simp) ?_; intro v5 w5 y5 k5 a5; have Y5 := Lib.hid y5; have N5 := Lib.hid (ne_app a5 N4.out (by have := K4.out.size; have := HS1.out; omega)); have K5 : Hid (Keeps (fun b => ¬ b = w.heap.size) w1 w5) := Lib.hid (K4.out.trans (k5.mono (fun x _ e z => N4.out (by rw [e, z])))); clear y5 k5 a5)
    | (at_builtin; refine By.wpList_append2 rfl _ _ rfl Y5.out rfl (some ⟨w.heap.size, 18, none⟩) 16 16 _ h.dst.B rfl HWF.out.d.len (HBX.out _ K5.out).2 (by rw [List.length_append, List.length_append, HB3.out, HWF.out.s.len]; simp) ?_; intro v6 w6 y6 k6 a6; have Y6 := Lib.hid y6; clear y6 k6 a6))
  --@B
  try rw [Exit.noGoto_ret]
  go_ret
  exact ⟨_, rfl, by have := Y6.out; unfold six; rw [HW6.out, ← HQ.out]; simpa using this⟩
set_option maxRecDepth 100000 in
set_option maxHeartbeats 1000000 in
theorem front_six (h : Hd) (v : Value) (hw : h.Wf) (hi : h.id ≤ 1048575) (h6 : h.src.v6 = true) (k : Nat) (hk : k ≤ 140737488000000) : Calls Try.prog 38 #[hvv h v, .int .i64 (k : Int)] w fun e w' => ∃ u, e = .returned u ∧ By w w' u (front h k) := by
  obtain ⟨w1, hw1, k1, b1, s1⟩ := box1 w (hcs h v) 29
  have x0 := (HF.of_blk hw b1).v6s
  rw [hw1, h6] at x0
  have HSZ := Lib.hid (hd_sz hw v)
  have HRG := Lib.hid (Blk.range b1)
  have H6 := fun w => Lib.hid (six_ w h v hw hi k hk)
  rw [show front h k = six h k from by unfold front; rw [if_pos h6]]
  have K1 := Lib.hid k1
  have HW := Lib.hid hw1
  unfold hvv at H6 ⊢
  clear hw1 k1 b1 s1 hw h6 hi
  generalize hC : hcs h v = C at *
  go_enter Try.func38, Try.ntmps38
  go_wp2_with (first | ((try with_reducible rw [← HW.out]); refine wpList_load_mid rfl 29 _ rfl w.heap.size 0 rfl C _ HRG.out Try.underlying29 rfl HSZ.out ?_))
  refine (H6 _).out.mono ?_
  rintro e w2 ⟨u, rfl, y⟩
  have HY := Lib.hid (y.base K1.out)
  clear y
  go_wp2
  try rw [Exit.noGoto_ret]
  go_ret
  exact ⟨_, rfl, HY.out⟩
theorem four0_len (h : Hd) (hw : h.Wf) (k : Nat) : (four0 h k).length = 20 := by simp [four0, be_length, hw.s.len, hw.d.len]
theorem four0_small (h : Hd) (hw : h.Wf) (k : Nat) : Small (four0 h k) := by
  have a : Small [69, h.cls] := fun x hx => by simp at hx; have := hw.c; omega
  have b : Small [64, 0, h.ttl, h.pr, 0, 0] := fun x hx => by simp at hx; have := hw.t; have := hw.p; omega
  exact ((((a.append (be_small _ _)).append (be_small _ _)).append b).append (Small.take hw.s.sm _)).append (Small.take hw.d.sm _)
theorem four0_z (h : Hd) (k : Nat) : (four0 h k)[10]? = some 0 ∧ (four0 h k)[11]? = some 0 := by
  unfold four0
  rw [show be 2 ((20 + k) % 65536) = [(20 + k) % 65536 / 256 % 256, (20 + k) % 65536 % 256] from by simp [be], show be 2 (h.id % 65536) = [h.id % 65536 / 256 % 256, h.id % 65536 % 256] from by simp [be]]
  exact ⟨rfl, rfl⟩
set_option maxRecDepth 100000 in
set_option maxHeartbeats 1500000 in
theorem front_four (h : Hd) (v : Value) (hw : h.Wf) (h4 : h.src.v6 = false) (k : Nat) (hk : k ≤ 140737488000000) : Calls Try.prog 38 #[hvv h v, .int .i64 (k : Int)] w fun e w' => ∃ u, e = .returned u ∧ By w w' u (front h k) := by
  obtain ⟨w1, hw1, k1, b1, s1⟩ := box1 w (hcs h v) 29
  have f1 := HF.of_blk hw b1
  have x0 := f1.v6s
  have x38 := f1.cls
  rw [hw1] at x0 x38
  rw [h4] at x0
  rw [show front h k = fillp (four0 h k) 10 (csum (four0 h k)) from by unfold front; rw [if_neg (by rw [h4]; simp)]]
  obtain ⟨w2, hw2⟩ : ∃ w2, w2 = w1.alloc (.cells #[.int .u8 69, .int .u8 (h.cls : Int)] 5) := ⟨_, rfl⟩
  have r2 : Rd w2 (w1.heap.size + 1) (some ⟨w1.heap.size, 0, none⟩) (by_ [69, h.cls]) := by rw [hw2]; exact lit_rd w1 [69, h.cls] _ rfl
  have k2 : ∀ S, Keeps S w1 w2 := fun S => by rw [hw2]; exact (Keeps.refl S w1).alloc _
  have s2 : w2.heap.size = w1.heap.size + 1 := by rw [hw2]; simp
  obtain ⟨t, ht⟩ : ∃ t, t = 20 + k := ⟨_, rfl⟩
  obtain ⟨q, hq⟩ : ∃ q, q = t % 65536 := ⟨_, rfl⟩
  have hq9 : q < 65536 := by omega
  have e1 : IntKind.i64.wrap ((20 : Int) + (k : Int)) = (t : Int) := by rw [wi64 (by omega) (by omega)]; omega
  have e2 : IntKind.u16.wrap (t : Int) = (q : Int) := by rw [IntKind.wrap_u16]; omega
  have e3 : (t : Int) % 65536 = (q : Int) := by omega
  obtain ⟨i, hi⟩ : ∃ i, i = h.id % 65536 := ⟨_, rfl⟩
  have hi9 : i < 65536 := by omega
  have e4 : IntKind.u16.wrap (h.id : Int) = (i : Int) := by rw [IntKind.wrap_u16]; omega
  have e5 : (h.id : Int) % 65536 = (i : Int) := by omega
  have HP1 := Lib.hid (put16_any (some ⟨w1.heap.size, 0, none⟩) [69, h.cls] 2 2 _ q w2 rfl (by omega) hq9 r2 (by omega))
  have x39 := (f1.keeps hw (k2 (fun _ => False)) (fun z => z)).id
  have HF4 : Hid (four0 h k = [69, h.cls] ++ be 2 q ++ be 2 i ++ [64, 0, h.ttl, h.pr, 0, 0] ++ h.src.B.take 4 ++ h.dst.B.take 4) := Lib.hid (by unfold four0; rw [hq, hi, ht])
  have HFL := Lib.hid (And.intro (four0_len h hw k) (And.intro (four0_small h hw k) (four0_z h k)))
  have HFF := Lib.hid f1
  have HWF := Lib.hid hw
  have K1 := Lib.hid k1
  have K2 := Lib.hid k2
  have HW := Lib.hid hw1
  have HW2 := Lib.hid hw2
  have HS1 := Lib.hid (And.intro s1 s2)
  have HBK := Lib.hid b1
  unfold hvv
  clear hw1 k1 b1 s1 s2 f1 hw h4 hw2 r2 k2 hq ht hi
  generalize hC : hcs h v = C at HW x0 x38 HBK ⊢
  generalize four0 h k = L at *
  rw [HW.out] at HW2
  go_enter Try.func38, Try.ntmps38
  go_wp2_with fail
  --@A
  try rw [← HW2.out]
  rw [show w.heap.size + 1 = w1.heap.size from by rw [HS1.out.1]]
  refine HP1.out.mono ?_
  rintro e w3 ⟨rfl, b3, l3⟩
  have K3 : Hid (∀ S, Keeps S w1 w3) := Lib.hid (fun S => (K2.out S).trans (keeps_of_below l3 S))
  have x39b := (HFF.out.keeps HWF.out (K3.out (fun _ => False)) (fun z => z)).id
  have HP2 := Lib.hid (put16_any (some ⟨w2.heap.size, 0, none⟩) ([69, h.cls] ++ be 2 q) 4 4 _ i w3 (by simp [be_length]) (by omega) hi9 b3.rd b3.lt)
  clear b3 l3 x0 x38 x39 HP1 e1 e2 e3
  go_wp2_with fail
  refine HP2.out.mono ?_
  rintro e w4 ⟨rfl, b4, l4⟩
  have K4 : Hid (∀ S, Keeps S w1 w4) := Lib.hid (fun S => (K3.out S).trans (keeps_of_below l4 S))
  have F4 := HFF.out.keeps HWF.out (K4.out (fun _ => False)) (fun z => z)
  have y34 := F4.pr
  have y37 := F4.ttl
  have Y4 : Hid (By w w4 (.slice (some ⟨w3.heap.size, 0, none⟩) 6 6) ([69, h.cls] ++ be 2 q ++ be 2 i)) := Lib.hid (By.of_blk b4 (by simp [be_length]) ((K1.out (fun _ => False)).trans (K3.out _)).size (by omega) (fun S => (K1.out S).trans (K4.out S)))
  have HB4 : Hid (([69, h.cls] ++ be 2 q ++ be 2 i).length = 6) := Lib.hid (by simp [be_length])
  have HBX : Hid (∀ wq, Keeps (fun b => ¬ b = w.heap.size) w1 wq → Rd wq (w.heap.size + 1) (some ⟨w.heap.size, 1, none⟩) (by_ (h.src.B.take 4)) ∧ Rd wq (w.heap.size + 1) (some ⟨w.heap.size, 18, none⟩) (by_ (h.dst.B.take 4))) := Lib.hid (fun wq kq => by
    have hbx : Blk wq w.heap.size 29 (hcs h v) := by rw [hC]; exact Blk.keeps HBK.out kq (fun z => z rfl)
    exact ⟨rd_take (src_rd HWF.out hbx) 4, rd_take (dst_rd HWF.out hbx) 4⟩)
  have HX4 := Lib.hid (own_apart Y4.out (X := w.heap.size) (show w4.heap.size ≤ w.heap.size ∨ w.heap.size < w3.heap.size from .inr (by have := (K3.out (fun _ => False)).size; have := HS1.out.1; omega)))
  have HT4 : Hid ((h.src.B.take 4).length = 4 ∧ (h.dst.B.take 4).length = 4) := Lib.hid ⟨by rw [List.length_take, HWF.out.s.len]; rfl, by rw [List.length_take, HWF.out.d.len]; rfl⟩
  clear b4 l4 HP2 F4 x39b e4 e5
  go_wp2_with (first
    | (at_builtin; refine By.wpList_append2 rfl _ _ rfl (Y4.out.alloc _) rfl (some ⟨w4.heap.size, 0, none⟩) 6 6 _ [64, 0, h.ttl, h.pr, 0, 0] rfl rfl (lit_rd w4 [64, 0, h.ttl, h.pr, 0, 0] _ rfl) (by rw [HB4.out]; omega) ?_; intro v5 w5 y5 k5 a5; have Y5 := Lib.hid y5; have N5 := Lib.hid (ne_app a5 HX4.out (by have := (K4.out (fun _ => False)).size; have := HS1.out.1; simp; omega)); have K5 : Hid (Keeps (fun b => ¬ b = w.heap.size) w1 w5) := Lib.hid (((K4.out _).alloc _).trans (k5.mono (fun x _ e z => HX4.out (by rw [e, z])))); clear y5 k5 a5)
    | (at_builtin; refine By.wpList_append2 rfl _ _ rfl Y5.out rfl (some ⟨w.heap.size, 1, none⟩) 4 16 _ (h.src.B.take 4) rfl HT4.out.1 (HBX.out _ K5.out).1 (by rw [List.length_append, HB4.out]; simp) ?_; intro v6 w6 y6 k6 a6; have Y6 := Lib.hid y6; have N6 := Lib.hid (ne_app a6 N5.out (by have := K5.out.size; have := HS1.out.1; omega)); have K6 : Hid (Keeps (fun b => ¬ b = w.heap.size) w1 w6) := Lib.hid (K5.out.trans (k6.mono (fun x _ e z => N5.out (by rw [e, z])))); clear y6 k6 a6)
    | (at_builtin; refine By.wpList_append2 rfl _ _ rfl Y6.out rfl (some ⟨w.heap.size, 18, none⟩) 4 16 _ (h.dst.B.take 4) rfl HT4.out.2 (HBX.out _ K6.out).2 (by rw [List.length_append, List.length_append, HB4.out, HT4.out.1]; simp) ?_; intro v7 w7 y7 k7 a7; rw [← HF4.out] at y7; obtain ⟨g7, c7, rfl, _, _⟩ := y7.form (by rw [HFL.out.1]; omega); rw [HFL.out.1]; have Y7 := Lib.hid y7; clear y7 k7 a7))
  --@B
  have Y7b : Hid (By w w7 (.slice (some ⟨g7, 0, none⟩) 20 c7) L) := Lib.hid (by have := Y7.out; rw [HFL.out.1] at this; exact this)
  obtain ⟨w8, hw8⟩ : ∃ w8, w8 = w7.alloc (.cells #[.slice (some ⟨g7, 0, none⟩) 20 c7] 27) := ⟨_, rfl⟩
  have Y8 : Hid (By w w8 (.slice (some ⟨g7, 0, none⟩) 20 c7) L) := Lib.hid (by rw [hw8]; exact Y7b.out.alloc _)
  have hpt : Pt w8 w8.heap.size (some ⟨w7.heap.size, 0, none⟩) [L] := by
    have hb8 : Blk w8 w7.heap.size 27 [.slice (some ⟨g7, 0, none⟩) 20 c7] := by rw [hw8]; exact Blk.new w7 27 #[.slice (some ⟨g7, 0, none⟩) 20 c7]
    refine pt_row (t := 27) hb8 hb8.lt ?_
    intro j x hj
    rcases j with _ | j
    · simp only [List.getElem?_cons_zero, Option.some.injEq] at hj
      subst hj
      refine ⟨some ⟨g7, 0, none⟩, c7, by rw [HFL.out.1]; rfl, fun i v hv => ?_⟩
      obtain ⟨x, hx, rfl⟩ : ∃ x : Nat, L[i]? = some x ∧ v = .int .u8 (x : Int) := by
        rw [by_, List.getElem?_map] at hv
        obtain ⟨x, hx, e⟩ := Option.map_eq_some_iff.1 hv
        exact ⟨x, hx, e.symm⟩
      exact ⟨g7, 0, rfl, (Y8.out.own.lt g7 rfl).2, by rw [Nat.zero_add]; exact Y8.out.cell hx⟩
    · simp at hj
  have F9 := Lib.hid (sum_any (some ⟨w7.heap.size, 0, none⟩) [L] 1 1 _ w8 rfl (by omega) (by rw [show ([L] : List (List Nat)).flatten = L from by simp, HFL.out.1]; omega) (fun x hx => by rw [List.mem_singleton.1 hx]; exact HFL.out.2.1) hpt)
  rw [show ([L] : List (List Nat)).flatten = L from by simp] at F9
  have F10 := Lib.hid (fill_ w8 w g7 20 c7 L 10 (csum L) Y8.out HFL.out.1 (by omega) (by omega) (by omega) (by have := csum_le L; omega) HFL.out.2.2.1 HFL.out.2.2.2)
  have HW8 := Lib.hid hw8
  clear hpt hw8 y34 y37
  go_wp2_with fail
  try rw [← HW8.out]
  refine F9.out.mono ?_
  rintro e w9 ⟨rfl, rfl⟩
  go_wp2_with fail
  refine F10.out.mono ?_
  rintro e w10 ⟨rfl, y10, k10⟩
  have Y10 := Lib.hid y10
  clear y10 k10
  go_wp2
  try rw [Exit.noGoto_ret]
  go_ret
  exact ⟨_, rfl, Y10.out⟩
theorem front_ (h : Hd) (v : Value) (hw : h.Wf) (hi : h.id ≤ 1048575) (k : Nat) (hk : k ≤ 140737488000000) : Calls Try.prog 38 #[hvv h v, .int .i64 (k : Int)] w fun e w' => ∃ u, e = .returned u ∧ By w w' u (front h k) := by
  cases h6 : h.src.v6
  · exact front_four w h v hw h6 k hk
  · exact front_six w h v hw hi h6 k hk
end
end Go.Proofs.Ytidengmcbppcoaa.pk
