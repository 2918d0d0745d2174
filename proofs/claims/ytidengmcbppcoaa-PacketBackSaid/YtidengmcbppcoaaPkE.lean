/-
  packet: the middle; the sum's place filled.
-/
import Derived.Test.YtidengmcbppcoaaPkD
set_option linter.unusedVariables false
set_option linter.unusedSimpArgs false
namespace Go.Proofs.Ytidengmcbppcoaa.pk
open Go.RowKit Go.Proofs.Ytidengmcbppcoaa.oc Go.Proofs.Ytidengmcbppcoaa.mz Go.Proofs.Ytidengmcbppcoaa.pf Go.Proofs.Ytidengmcbppcoaa.wh Go.Proofs.Ytidengmcbppcoaa.qk Go.Proofs.Ytidengmcbppcoaa.bys
theorem lit_rd (w : World) (l : List Nat) (vs : List Value) (hv : vs = by_ l) : Rd (w.alloc (.cells vs.toArray 5)) (w.heap.size + 1) (some ⟨w.heap.size, 0, none⟩) (by_ l) := by
  subst hv
  have := (Blk.new w 5 (by_ l).toArray).rd
  simpa using this
theorem wu16 (x : Nat) : IntKind.u16.wrap (x : Int) = ((x % 65536 : Nat) : Int) := by rw [IntKind.wrap_u16]; omega
section
variable (w : World)
set_option maxRecDepth 100000 in
set_option maxHeartbeats 4000000 in
theorem middle_none (h : Hd) (A : Option Addr) (n c : Nat) (hw : h.Wf) (hl : h.dat.length = n) (hn : n ≤ 140737488355328) (h6 : h.pr ≠ 6) (h7 : h.pr ≠ 17) : Calls Try.prog 34 #[hvv h (.slice A n c)] w fun e w' => ∃ v, e = .returned v ∧ By w w' v (mid h) := by
  obtain ⟨w1, hw1, k1, b1, s1⟩ := box1 w (hcs h (.slice A n c)) 29
  have HM := fun w => Lib.hid (pmids_ w h.pr)
  rw [midsN h6 h7] at HM
  rw [midN h6 h7]
  have f1 := HF.of_blk hw b1
  have x34 := f1.pr
  rw [hw1] at x34
  have HFF := Lib.hid f1
  have hsp := hw.sl
  have hdp := hw.dl
  have hsq := hw.q
  have hfl := hw.f
  have HWF := Lib.hid hw
  have K1 := Lib.hid k1
  have HW := Lib.hid hw1
  unfold hvv
  clear hw1 k1 b1 s1 f1 hw h6 h7
  generalize hC : hcs h (.slice A n c) = C at HW x34 ⊢
  go_enter Try.func34, Try.ntmps34
  go_wp2_with (go_at_call 41; refine (HM _).out.mono ?_; rintro e w9 ⟨rfl, rfl⟩)
  try rw [Exit.noGoto_ret]
  go_ret
  exact ⟨_, rfl, By.nil_ (fun S => by have := K1.out S; rw [HW.out] at this; exact this)⟩
set_option maxRecDepth 100000 in
set_option maxHeartbeats 4000000 in
theorem middle_udp (h : Hd) (A : Option Addr) (n c : Nat) (hw : h.Wf) (hl : h.dat.length = n) (hn : n ≤ 140737488355328) (h7 : h.pr = 17) : Calls Try.prog 34 #[hvv h (.slice A n c)] w fun e w' => ∃ v, e = .returned v ∧ By w w' v (mid h) := by
  obtain ⟨w1, hw1, k1, b1, s1⟩ := box1 w (hcs h (.slice A n c)) 29
  have HM := fun w => Lib.hid (pmids_ w h.pr)
  rw [mid17 h7, hl]
  rw [h7] at HM
  rw [mids17] at HM
  have f1 := HF.of_blk hw b1
  have x34 := f1.pr
  rw [h7] at x34
  rw [hw1] at x34
  have HFF := Lib.hid f1
  have hsp := hw.sl
  have hdp := hw.dl
  have hsq := hw.q
  have hfl := hw.f
  have HWF := Lib.hid hw
  have K1 := Lib.hid k1
  have HW := Lib.hid hw1
  unfold hvv
  clear hw1 k1 b1 s1 f1 hw
  generalize hC : hcs h (.slice A n c) = C at HW x34 ⊢
  have HP1 := Lib.hid (put16_any none [] 0 0 0 h.sp w1 rfl (by omega) hsp Rd.nil_ (by omega))
  have x35 := HFF.out.sp
  have x34b := HFF.out.pr
  rw [h7] at x34b
  go_enter Try.func34, Try.ntmps34
  go_wp2_with ((go_at_call 41; refine (HM _).out.mono ?_; rintro e w9 ⟨rfl, rfl⟩); try rw [← HW.out])
  refine HP1.out.mono ?_
  rintro e w2 ⟨rfl, b2, l2⟩
  have K2 : Hid (∀ S, Keeps S w1 w2) := Lib.hid (fun S => keeps_of_below l2 S)
  have F2 := Lib.hid (HFF.out.keeps HWF.out (K2.out (fun _ => False)) (fun z => z))
  have x36 := F2.out.dp
  have HP2 := Lib.hid (put16_any (some ⟨w1.heap.size, 0, none⟩) ([] ++ be 2 h.sp) 2 2 _ h.dp w2 (by simp [be_length]) (by omega) hdp b2.rd b2.lt)
  clear b2 l2 x34 x35 x34b HP1
  go_wp2_with fail
  refine HP2.out.mono ?_
  rintro e w3 ⟨rfl, b3, l3⟩
  have K3 : Hid (∀ S, Keeps S w1 w3) := Lib.hid (fun S => (K2.out S).trans (keeps_of_below l3 S))
  have F3 := Lib.hid (F2.out.keeps HWF.out (keeps_of_below l3 (fun _ => False)) (fun z => z))
  have y34 := F3.out.pr
  rw [h7] at y34
  have y41 := F3.out.seq
  have y42 := F3.out.dat
  clear l3 x36 HP2
  obtain ⟨t, ht⟩ : ∃ t, t = 8 + n := ⟨_, rfl⟩
  have e1 : IntKind.i64.wrap ((8 : Int) + (n : Int)) = (t : Int) := by rw [wi64 (by omega) (by omega)]; omega
  have e1b : (8 : Int) + (n : Int) = (t : Int) := by omega
  have t9 : t ≤ 140737488355336 := by omega
  have e2 := wu16 t
  have e3 : (t : Int) % 65536 = ((t % 65536 : Nat) : Int) := by omega
  have hq : t % 65536 < 65536 := Nat.mod_lt _ (by omega)
  obtain ⟨q, hqq⟩ : ∃ q, q = t % 65536 := ⟨_, rfl⟩
  have HQQ : Hid (q = (8 + n) % 65536) := Lib.hid (by rw [hqq, ht])
  rw [← hqq] at e2 e3 hq
  have HP4 := Lib.hid (put16_any (some ⟨w2.heap.size, 0, none⟩) ([] ++ be 2 h.sp ++ be 2 h.dp) 4 4 _ q w3 (by simp [be_length]) (by omega) hq b3.rd b3.lt)
  clear ht hqq hq b3 h7
  go_wp2_with fail
  refine HP4.out.mono ?_
  rintro e w4 ⟨rfl, b4, l4⟩
  have K4 : Hid (∀ S, Keeps S w w4) := Lib.hid (fun S => ((K1.out S).trans (K3.out S)).trans (keeps_of_below l4 S))
  have HS4 : Hid (w.heap.size ≤ w3.heap.size) := Lib.hid (((K1.out (fun _ => False)).trans (K3.out _)).size)
  have Y4 : Hid (By w w4 (.slice (some ⟨w3.heap.size, 0, none⟩) 6 6) ([] ++ be 2 h.sp ++ be 2 h.dp ++ be 2 q)) := Lib.hid (By.of_blk b4 (by simp [be_length]) HS4.out (by omega) K4.out)
  clear b4 l4 e1 e1b e2 e3 y34 y41 y42
  go_wp2_with (at_builtin; refine By.wpList_append rfl _ _ rfl (Y4.out.alloc _) rfl (some ⟨w4.heap.size, 0, none⟩) 2 2 _ [0, 0] rfl rfl (lit_rd w4 [0, 0] _ rfl) (by simp [be_length]) ?_; intro v5 w5 y5 k5; have Y5 := Lib.hid y5; clear y5 k5)
  try rw [Exit.noGoto_ret]
  go_ret
  exact ⟨_, rfl, by have := Y5.out; rw [HQQ.out] at this; simpa using this⟩
set_option maxRecDepth 100000 in
set_option maxHeartbeats 4000000 in
theorem middle_tcp (h : Hd) (A : Option Addr) (n c : Nat) (hw : h.Wf) (hl : h.dat.length = n) (hn : n ≤ 140737488355328) (h6 : h.pr = 6) : Calls Try.prog 34 #[hvv h (.slice A n c)] w fun e w' => ∃ v, e = .returned v ∧ By w w' v (mid h) := by
  obtain ⟨w1, hw1, k1, b1, s1⟩ := box1 w (hcs h (.slice A n c)) 29
  have HM := fun w => Lib.hid (pmids_ w h.pr)
  rw [mid6 h6]
  rw [h6] at HM
  rw [mids6] at HM
  have f1 := HF.of_blk hw b1
  have x34 := f1.pr
  rw [h6] at x34
  rw [hw1] at x34
  have HFF := Lib.hid f1
  have hsp := hw.sl
  have hdp := hw.dl
  have hsq := hw.q
  have hfl := hw.f
  have HWF := Lib.hid hw
  have K1 := Lib.hid k1
  have HW := Lib.hid hw1
  unfold hvv
  clear hw1 k1 b1 s1 f1 hw
  generalize hC : hcs h (.slice A n c) = C at HW x34 ⊢
  have HP1 := Lib.hid (put16_any none [] 0 0 0 h.sp w1 rfl (by omega) hsp Rd.nil_ (by omega))
  have x35 := HFF.out.sp
  have x34b := HFF.out.pr
  rw [h6] at x34b
  go_enter Try.func34, Try.ntmps34
  go_wp2_with ((go_at_call 41; refine (HM _).out.mono ?_; rintro e w9 ⟨rfl, rfl⟩); try rw [← HW.out])
  refine HP1.out.mono ?_
  rintro e w2 ⟨rfl, b2, l2⟩
  have K2 : Hid (∀ S, Keeps S w1 w2) := Lib.hid (fun S => keeps_of_below l2 S)
  have F2 := Lib.hid (HFF.out.keeps HWF.out (K2.out (fun _ => False)) (fun z => z))
  have x36 := F2.out.dp
  have HP2 := Lib.hid (put16_any (some ⟨w1.heap.size, 0, none⟩) ([] ++ be 2 h.sp) 2 2 _ h.dp w2 (by simp [be_length]) (by omega) hdp b2.rd b2.lt)
  clear b2 l2 x34 x35 x34b HP1
  go_wp2_with fail
  refine HP2.out.mono ?_
  rintro e w3 ⟨rfl, b3, l3⟩
  have K3 : Hid (∀ S, Keeps S w1 w3) := Lib.hid (fun S => (K2.out S).trans (keeps_of_below l3 S))
  have F3 := Lib.hid (F2.out.keeps HWF.out (keeps_of_below l3 (fun _ => False)) (fun z => z))
  have y34 := F3.out.pr
  rw [h6] at y34
  have y41 := F3.out.seq
  have y42 := F3.out.dat
  clear l3 x36 HP2
  have HP4 := Lib.hid (put32_any (some ⟨w2.heap.size, 0, none⟩) ([] ++ be 2 h.sp ++ be 2 h.dp) 4 4 _ h.seq w3 (by simp [be_length]) (by omega) hsq b3.rd b3.lt)
  clear b3 h6
  go_wp2_with fail
  refine HP4.out.mono ?_
  rintro e w4 ⟨rfl, b4, l4⟩
  have K4 : Hid (∀ S, Keeps S w w4) := Lib.hid (fun S => ((K1.out S).trans (K3.out S)).trans (keeps_of_below l4 S))
  have F4 := Lib.hid (F3.out.keeps HWF.out (keeps_of_below l4 (fun _ => False)) (fun z => z))
  have z40 := F4.out.fl
  have HS4 : Hid (w.heap.size ≤ w3.heap.size) := Lib.hid (((K1.out (fun _ => False)).trans (K3.out _)).size)
  have Y4 : Hid (By w w4 (.slice (some ⟨w3.heap.size, 0, none⟩) 8 8) ([] ++ be 2 h.sp ++ be 2 h.dp ++ be 4 h.seq)) := Lib.hid (By.of_blk b4 (by simp [be_length]) HS4.out (by omega) K4.out)
  have HB5 : Hid (([] ++ be 2 h.sp ++ be 2 h.dp ++ be 4 h.seq).length = 8) := Lib.hid (by simp [be_length])
  clear b4 l4 y34 y41 y42
  go_wp2_with (first
    | (at_builtin; refine By.wpList_append rfl _ _ rfl (Y4.out.alloc _) rfl (some ⟨w4.heap.size, 0, none⟩) 8 8 _ [0, 0, 0, 0, 80, h.fl, 255, 255] rfl rfl (lit_rd w4 [0, 0, 0, 0, 80, h.fl, 255, 255] _ rfl) (by rw [HB5.out]; omega) ?_; intro v5 w5 y5 k5; have Y5 := Lib.hid y5; clear y5 k5)
    | (at_builtin; refine By.wpList_append rfl _ _ rfl (Y5.out.alloc _) rfl (some ⟨w5.heap.size, 0, none⟩) 4 4 _ [0, 0, 0, 0] rfl rfl (lit_rd w5 [0, 0, 0, 0] _ rfl) (by rw [List.length_append, HB5.out]; simp) ?_; intro v6 w6 y6 k6; have Y6 := Lib.hid y6; clear y6 k6))
  try rw [Exit.noGoto_ret]
  go_ret
  exact ⟨_, rfl, by have := Y6.out; simpa using this⟩
theorem middle_ (h : Hd) (A : Option Addr) (n c : Nat) (hw : h.Wf) (hl : h.dat.length = n) (hn : n ≤ 140737488355328) : Calls Try.prog 34 #[hvv h (.slice A n c)] w fun e w' => ∃ v, e = .returned v ∧ By w w' v (mid h) := by
  rcases p_cases h.pr with e | e | ⟨h6, h7⟩
  · exact middle_tcp w h A n c hw hl hn e
  · exact middle_udp w h A n c hw hl hn e
  · exact middle_none w h A n c hw hl hn h6 h7
/-- the sum in its place -/
def fillp (l : List Nat) (at_ s : Nat) : List Nat := (l.set at_ (s / 256)).set (at_ + 1) (s % 256)
theorem or_zero : ∀ v : Fin 256, bits .or .u8 0 ((v.val : Nat) : Int) = ((v.val : Nat) : Int) := by decide +kernel
set_option maxRecDepth 100000 in
set_option maxHeartbeats 2000000 in
theorem fill_ (w0 : World) (g n c : Nat) (l : List Nat) (p s : Nat) (hy : By w0 w (.slice (some ⟨g, 0, none⟩) n c) l) (hl : l.length = n) (hp : p + 1 < n) (hp9 : p ≤ 1000) (hn9 : n ≤ 140737488355328) (hs : s < 65536) (x0 : l[p]? = some 0) (x1 : l[p + 1]? = some 0) :
    Calls Try.prog 36 #[.slice (some ⟨g, 0, none⟩) n c, .int .i64 (p : Int), .int .u16 (s : Int)] w fun e w' => e = .returned (.tuple #[]) ∧ By w0 w' (.slice (some ⟨g, 0, none⟩) n c) (fillp l p s) ∧ Keeps (· = g) w w' := by
  have c0 := hy.cell x0
  have c1 := hy.cell x1
  have f0 := hy.frozen p
  obtain ⟨a, ha⟩ : ∃ a, a = s / 256 := ⟨_, rfl⟩
  obtain ⟨b, hb⟩ : ∃ b, b = s % 256 := ⟨_, rfl⟩
  have ha8 : a < 256 := by omega
  have hb8 : b < 256 := by omega
  have y1 := hy.set (i := p) (by omega) a
  have y2 := y1.set (i := p + 1) (by rw [List.length_set]; omega) b
  have f1 := y1.frozen (p + 1)
  have c1' : (w.setCell ⟨g, p, none⟩ (.int .u8 (a : Int))).cell? ⟨g, p + 1, none⟩ = some (.int .u8 ((0 : Nat) : Int)) := y1.cell (by rw [List.getElem?_set_ne (by omega)]; exact x1)
  have o0 := or_zero ⟨a, ha8⟩
  have o1 := or_zero ⟨b, hb8⟩
  simp only at o0 o1
  have e1 : (s : Int) / 2 ^ 8 = (a : Int) := by rw [show ((2 : Int) ^ 8) = 256 from rfl]; omega
  have e2 : (s : Int) % 256 = (b : Int) := by omega
  have e3 : (s : Int) / 256 = (a : Int) := by omega
  have e4 : IntKind.u8.wrap (s : Int) = (b : Int) := by rw [IntKind.wrap_u8]; omega
  have HY : Hid (By w0 _ _ _) := Lib.hid y2
  have HK : Hid (Keeps (· = g) w ((w.setCell ⟨g, p, none⟩ (.int .u8 (a : Int))).setCell ⟨g, p + 1, none⟩ (.int .u8 (b : Int)))) := Lib.hid (((Keeps.refl (· = g) w).setCell (p := ⟨g, p, none⟩) (.inl rfl) _).setCell (p := ⟨g, p + 1, none⟩) (.inl rfl) _)
  have hp1 : (p : Int) < (n : Int) := by omega
  have hp2 : (p : Int) + 1 < (n : Int) := by omega
  have hp0 : (0 : Int) ≤ (p : Int) := by omega
  rw [show fillp l p s = (l.set p a).set (p + 1) b from by rw [ha, hb]; rfl]
  clear y1 y2 hy ha hb x0 x1 hl
  go_enter Try.func36, Try.ntmps36
  go_wp2
  try rw [Exit.noGoto_ret]
  go_end0
  exact ⟨rfl, HY.out, HK.out⟩
end
end Go.Proofs.Ytidengmcbppcoaa.pk
