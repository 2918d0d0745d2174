/-
  packet.sumOf.
-/
import Derived.Test.YtidengmcbppcoaaPkE
import Derived.Test.YtidengmcbppcoaaOcSum
import Derived.Test.YtidengmcbppcoaaOcCut
set_option linter.unusedVariables false
set_option linter.unusedSimpArgs false
namespace Go.Proofs.Ytidengmcbppcoaa.pk
open Go.RowKit Go.Proofs.Ytidengmcbppcoaa.oc Go.Proofs.Ytidengmcbppcoaa.mz Go.Proofs.Ytidengmcbppcoaa.pf Go.Proofs.Ytidengmcbppcoaa.wh Go.Proofs.Ytidengmcbppcoaa.qk Go.Proofs.Ytidengmcbppcoaa.bys
/-- what the sum of TCP or UDP is of -/
def psum (h : Hd) (l : List Nat) : List Nat := h.src.B ++ h.dst.B ++ (be 4 (l.length % 4294967296) ++ be 4 h.pr) ++ l.take (sat h.pr) ++ l.drop (sat h.pr + 2)
def sumv (h : Hd) (l : List Nat) : Nat := if csum (psum h l) = 0 ∧ h.pr = 17 then 65535 else csum (psum h l)
theorem pt_row {W : World} {B g : Nat} {t : TypeId} {ps : List (List Nat)} {cs : List Value} (hb : Blk W g t cs) (hg : g < B)
    (h : ∀ (k : Nat) (bs : List Nat), ps[k]? = some bs → ∃ A c, cs[k]? = some (Value.slice A bs.length c) ∧ Rd W B A (by_ bs)) : Pt W B (some ⟨g, 0, none⟩) ps := by
  intro k bs hk
  obtain ⟨A, c, h1, h2⟩ := h k bs hk
  exact ⟨g, 0, A, c, rfl, hg, by rw [Nat.zero_add, hb.cell]; exact h1, h2⟩

section
variable (w : World)
set_option maxRecDepth 100000 in
set_option maxHeartbeats 4000000 in
theorem sumof_tcpz (h : Hd) (A : Option Addr) (n c : Nat) (hw : h.Wf) (R : Option Addr) (m cr B : Nat) (l : List Nat) (hl : l.length = m) (hm : 18 ≤ m) (hm9 : m ≤ 140737488000000) (hmc : m ≤ cr) (hs : Small l) (hr : Rd w B R (by_ l)) (hB : B ≤ w.heap.size) (hp : h.pr = 6) (hz : csum (psum h l) = 0) :
    Calls Try.prog 37 #[hvv h (.slice A n c), .slice R m cr] w fun e w' => e = .returned (.int .u16 (sumv h l : Nat)) ∧ ∀ S, Keeps S w w' := by
  obtain ⟨w1, hw1, k1, b1, s1⟩ := box1 w (hcs h (.slice A n c)) 29
  have HPV := Lib.hid hp
  have HM := fun w => Lib.hid (psat_ w h.pr)
  rw [hp] at HM
  obtain ⟨aa, haa⟩ : ∃ aa, aa = 16 := ⟨_, rfl⟩
  obtain ⟨ee, hee⟩ : ∃ ee, ee = aa + 2 := ⟨_, rfl⟩
  have HAE := Lib.hid (And.intro haa hee)
  rw [show sat 6 = aa from by rw [haa]; rfl] at HM
  have a9 : aa ≤ 16 := by omega
  have em : ee ≤ m := by omega
  have am : aa ≤ m := by omega
  have ea3 : IntKind.i64.wrap ((aa : Int) + 2) = (ee : Int) := by rw [wi64 (by omega) (by omega)]; omega
  have hsv : sumv h l = 0 := by
    unfold sumv
    rw [if_neg (fun z => by have := z.2; omega)]; exact hz
  rw [hsv]
  obtain ⟨sv, hsve⟩ : ∃ sv, sv = csum (psum h l) := ⟨_, rfl⟩
  try rw [← hsve]
  have HSVE := Lib.hid hsve
  clear hsve
  have f1 := HF.of_blk hw b1
  have x34 := f1.pr
  rw [hp] at x34
  have x34a := x34
  rw [hw1] at x34
  have hr1 := rd_old hr (k1 (fun _ => False))
  obtain ⟨q, hq⟩ : ∃ q, q = m % 4294967296 := ⟨_, rfl⟩
  have hq9 : q < 4294967296 := by omega
  have e1 : IntKind.u32.wrap (m : Int) = (q : Int) := by rw [IntKind.wrap_u32]; omega
  have e2 : (m : Int) % 4294967296 = (q : Int) := by omega
  have HP1 := Lib.hid (put32_any none [] 0 0 0 q w1 rfl (by omega) hq9 Rd.nil_ (by omega))
  have HFF := Lib.hid f1
  have HWF := Lib.hid hw
  have K1 := Lib.hid k1
  have HW := Lib.hid hw1
  have HS1 := Lib.hid s1
  have HR1 := Lib.hid hr1
  have HBK := Lib.hid b1
  have HPS : Hid (psum h l = ([h.src.B, h.dst.B, [] ++ be 4 q ++ be 4 6, l.take aa, l.drop ee] : List (List Nat)).flatten) := Lib.hid (by
    unfold psum
    rw [hp, hl, ← hq, show sat 6 = aa from by rw [haa]; rfl, ← hee]
    simp)
  have HLS := Lib.hid (And.intro hl (And.intro hm hs))
  have HHB := Lib.hid hB
  have HSL1 := Lib.hid hw.s.len
  have HSL2 := Lib.hid hw.d.len
  have HZ := Lib.hid hz
  unfold hvv
  clear hw1 k1 b1 s1 f1 hw hr1 hr hq hsv hs hl hB hz hp haa hee
  generalize hC : hcs h (.slice A n c) = C at HW x34 HBK ⊢
  go_enter Try.func37, Try.ntmps37
  go_wp2_with ((go_at_call 35; refine (HM _).out.mono ?_; rintro e w9 ⟨rfl, rfl⟩); try rw [← HW.out])
  refine HP1.out.mono ?_
  rintro e w2 ⟨rfl, b2, l2⟩
  have K2 : Hid (∀ S, Keeps S w1 w2) := Lib.hid (fun S => keeps_of_below l2 S)
  have x34b := (HFF.out.keeps HWF.out (K2.out (fun _ => False)) (fun z => z)).pr
  rw [show h.pr = 6 from by have := HPV.out; exact this] at x34b
  have HP2 := Lib.hid (put32_any (some ⟨w1.heap.size, 0, none⟩) ([] ++ be 4 q) 4 4 _ 6 w2 (by simp [be_length]) (by omega) (by omega) b2.rd b2.lt)
  clear b2 l2 x34 x34a HP1
  go_wp2_with fail
  refine HP2.out.mono ?_
  rintro e w3 ⟨rfl, b3, l3⟩
  have K3 : Hid (∀ S, Keeps S w1 w3) := Lib.hid (fun S => (K2.out S).trans (keeps_of_below l3 S))
  clear l3 x34b HP2
  have s1 : ∀ u, (Instr.slice 27 (.slice R m cr) none (some (.int .i64 (aa : Int))) none).run Try.prog u = .ok (.slice R aa cr) u := fun u => cut_h R m cr aa (by omega) u
  have s2 : ∀ u, (Instr.slice 27 (.slice R m cr) (some (.int .i64 (ee : Int))) none none).run Try.prog u = .ok (.slice (cutA R cr ee) (m - ee) (cr - ee)) u := fun u => cut_l R m cr ee (by omega) u
  have s2b : ∀ u, (Instr.slice 27 (.slice R m cr) (some (.int .i64 ((aa : Int) + 2))) none none).run Try.prog u = .ok (.slice (cutA R cr ee) (m - ee) (cr - ee)) u := fun u => by rw [show ((aa : Int) + 2) = (ee : Int) from by have := HAE.out; omega]; exact s2 u
  obtain ⟨w4, hw4⟩ : ∃ w4, w4 = (w3.alloc (.cells #[.slice (some ⟨w.heap.size, 1, none⟩) 16 16, .slice (some ⟨w.heap.size, 18, none⟩) 16 16, .slice (some ⟨w2.heap.size, 0, none⟩) 8 8, .slice R aa cr, .slice (cutA R cr ee) (m - ee) (cr - ee)] 27)).drew := ⟨_, rfl⟩
  have k4 : ∀ S, Keeps S w3 w4 := fun S => by rw [hw4]; exact ((Keeps.refl S w3).alloc _).drew
  have K4 : Hid (∀ S, Keeps S w1 w4) := Lib.hid (fun S => (K3.out S).trans (k4 S))
  have hpt : Pt w4 w4.heap.size (some ⟨w3.heap.size, 0, none⟩) [h.src.B, h.dst.B, [] ++ be 4 q ++ be 4 6, l.take aa, l.drop ee] := by
    have hb4 : Blk w4 w3.heap.size 27 [.slice (some ⟨w.heap.size, 1, none⟩) 16 16, .slice (some ⟨w.heap.size, 18, none⟩) 16 16, .slice (some ⟨w2.heap.size, 0, none⟩) 8 8, .slice R aa cr, .slice (cutA R cr ee) (m - ee) (cr - ee)] := by rw [hw4]; exact Blk.new w3 27 #[.slice (some ⟨w.heap.size, 1, none⟩) 16 16, .slice (some ⟨w.heap.size, 18, none⟩) 16 16, .slice (some ⟨w2.heap.size, 0, none⟩) 8 8, .slice R aa cr, .slice (cutA R cr ee) (m - ee) (cr - ee)]
    have hsz1 : w1.heap.size ≤ w4.heap.size := (K4.out (fun _ => False)).size
    have hbx : Blk w4 w.heap.size 29 (hcs h (.slice A n c)) := by rw [hC]; exact Blk.keeps HBK.out (K4.out (fun _ => False)) (fun z => z)
    have hlt := hbx.lt
    have r1 : Rd w4 w4.heap.size (some ⟨w.heap.size, 1, none⟩) (by_ h.src.B) := fun j v hj => ⟨w.heap.size, 1, rfl, hlt, by
      have hl : j < (b8s h.src.B).length := (List.getElem?_eq_some_iff.1 hj).1
      rw [hbx.cell, Nat.add_comm 1 j]
      unfold hcs
      rw [List.getElem?_append_left (by unfold adc; simp; omega), adc, List.getElem?_cons_succ]; exact hj⟩
    have r2 : Rd w4 w4.heap.size (some ⟨w.heap.size, 18, none⟩) (by_ h.dst.B) := fun j v hj => ⟨w.heap.size, 18, rfl, hlt, by
      have hl : j < (b8s h.dst.B).length := (List.getElem?_eq_some_iff.1 hj).1
      rw [hbx.cell]
      unfold hcs
      rw [List.getElem?_append_right (by rw [adc_len HWF.out.s]; omega), adc_len HWF.out.s, show 18 + j - 17 = j + 1 from by omega, List.getElem?_append_left (by unfold adc; simp; omega), adc, List.getElem?_cons_succ]; exact hj⟩
    have r3 : Rd w4 w4.heap.size (some ⟨w2.heap.size, 0, none⟩) (by_ ([] ++ be 4 q ++ be 4 6)) := (rd_old b3.rd (k4 _)).more (by have := b3.lt; have := (k4 (fun _ => False)).size; omega)
    have rl : Rd w4 w4.heap.size R (by_ l) := (rd_old HR1.out (K4.out _)).more (by have := HHB.out; have := HS1.out; omega)
    refine pt_row (t := 27) hb4 (by have := (k4 (fun _ => False)).size; have := hb4.lt; omega) ?_
    intro k x hk
    rcases k with _ | _ | _ | _ | _ | k
    · simp only [List.getElem?_cons_zero, Option.some.injEq] at hk
      subst hk
      exact ⟨some ⟨w.heap.size, 1, none⟩, 16, by rw [HSL1.out]; rfl, r1⟩
    · simp only [List.getElem?_cons_succ, List.getElem?_cons_zero, Option.some.injEq] at hk
      subst hk
      exact ⟨some ⟨w.heap.size, 18, none⟩, 16, by rw [HSL2.out]; rfl, r2⟩
    · simp only [List.getElem?_cons_succ, List.getElem?_cons_zero, Option.some.injEq] at hk
      subst hk
      exact ⟨some ⟨w2.heap.size, 0, none⟩, 8, by simp [be_length], r3⟩
    · simp only [List.getElem?_cons_succ, List.getElem?_cons_zero, Option.some.injEq] at hk
      subst hk
      exact ⟨R, cr, by simp [List.length_take]; have := HLS.out; omega, rd_take rl aa⟩
    · simp only [List.getElem?_cons_succ, List.getElem?_cons_zero, Option.some.injEq] at hk
      subst hk
      exact ⟨cutA R cr ee, cr - ee, by simp [List.length_drop, HLS.out.1], rd_cut rl ee (by have := HLS.out.1; omega)⟩
    · simp at hk
  have hsm : ∀ x, x ∈ ([h.src.B, h.dst.B, [] ++ be 4 q ++ be 4 6, l.take aa, l.drop ee] : List (List Nat)) → Small x := fun x hx => by
    simp only [List.mem_cons, List.not_mem_nil, or_false] at hx
    rcases hx with rfl | rfl | rfl | rfl | rfl
    · exact HWF.out.s.sm
    · exact HWF.out.d.sm
    · exact (Small.nil.append (be_small _ _)).append (be_small _ _)
    · exact HLS.out.2.2.take _
    · exact HLS.out.2.2.drop _
  have F5 := Lib.hid (sum_any (some ⟨w3.heap.size, 0, none⟩) _ 5 5 _ w4 rfl (by omega) (by
    rw [← HPS.out]
    unfold psum
    have := HLS.out.1
    simp only [List.length_append, List.length_take, List.length_drop, be_length, HSL1.out, HSL2.out]
    omega) hsm hpt)
  rw [← HPS.out, ← HSVE.out] at F5
  have y34 := (HFF.out.keeps HWF.out (K4.out (fun _ => False)) (fun z => z)).pr
  rw [show h.pr = 6 from by have := HPV.out; exact this] at y34
  have hcl := csum_le (psum h l)
  have hz := HZ.out
  rw [← HSVE.out] at hcl hz
  rw [hw4] at F5
  clear hpt hsm b3 k4
  rw [hz] at F5
  have HW4 := Lib.hid hw4
  clear hw4
  
  go_wp2_with fail
  go_region_held3 (fun _ => True) (exact trivial) (first
    | (go_at_call 55; refine F5.out.mono ?_; rintro e w' ⟨rfl, rfl⟩))
  rw [← HW4.out]
  go_wp2
  try rw [Exit.noGoto_ret]
  go_ret
  exact ⟨rfl, fun S => (K1.out S).trans (K4.out S)⟩
set_option maxRecDepth 100000 in
set_option maxHeartbeats 4000000 in
theorem sumof_tcpn (h : Hd) (A : Option Addr) (n c : Nat) (hw : h.Wf) (R : Option Addr) (m cr B : Nat) (l : List Nat) (hl : l.length = m) (hm : 18 ≤ m) (hm9 : m ≤ 140737488000000) (hmc : m ≤ cr) (hs : Small l) (hr : Rd w B R (by_ l)) (hB : B ≤ w.heap.size) (hp : h.pr = 6) (hz : csum (psum h l) ≠ 0) :
    Calls Try.prog 37 #[hvv h (.slice A n c), .slice R m cr] w fun e w' => e = .returned (.int .u16 (sumv h l : Nat)) ∧ ∀ S, Keeps S w w' := by
  obtain ⟨w1, hw1, k1, b1, s1⟩ := box1 w (hcs h (.slice A n c)) 29
  have HPV := Lib.hid hp
  have HM := fun w => Lib.hid (psat_ w h.pr)
  rw [hp] at HM
  obtain ⟨aa, haa⟩ : ∃ aa, aa = 16 := ⟨_, rfl⟩
  obtain ⟨ee, hee⟩ : ∃ ee, ee = aa + 2 := ⟨_, rfl⟩
  have HAE := Lib.hid (And.intro haa hee)
  rw [show sat 6 = aa from by rw [haa]; rfl] at HM
  have a9 : aa ≤ 16 := by omega
  have em : ee ≤ m := by omega
  have am : aa ≤ m := by omega
  have ea3 : IntKind.i64.wrap ((aa : Int) + 2) = (ee : Int) := by rw [wi64 (by omega) (by omega)]; omega
  have hsv : sumv h l = csum (psum h l) := by
    unfold sumv
    rw [if_neg (fun z => hz z.1)]
  rw [hsv]
  obtain ⟨sv, hsve⟩ : ∃ sv, sv = csum (psum h l) := ⟨_, rfl⟩
  try rw [← hsve]
  have HSVE := Lib.hid hsve
  clear hsve
  have f1 := HF.of_blk hw b1
  have x34 := f1.pr
  rw [hp] at x34
  have x34a := x34
  rw [hw1] at x34
  have hr1 := rd_old hr (k1 (fun _ => False))
  obtain ⟨q, hq⟩ : ∃ q, q = m % 4294967296 := ⟨_, rfl⟩
  have hq9 : q < 4294967296 := by omega
  have e1 : IntKind.u32.wrap (m : Int) = (q : Int) := by rw [IntKind.wrap_u32]; omega
  have e2 : (m : Int) % 4294967296 = (q : Int) := by omega
  have HP1 := Lib.hid (put32_any none [] 0 0 0 q w1 rfl (by omega) hq9 Rd.nil_ (by omega))
  have HFF := Lib.hid f1
  have HWF := Lib.hid hw
  have K1 := Lib.hid k1
  have HW := Lib.hid hw1
  have HS1 := Lib.hid s1
  have HR1 := Lib.hid hr1
  have HBK := Lib.hid b1
  have HPS : Hid (psum h l = ([h.src.B, h.dst.B, [] ++ be 4 q ++ be 4 6, l.take aa, l.drop ee] : List (List Nat)).flatten) := Lib.hid (by
    unfold psum
    rw [hp, hl, ← hq, show sat 6 = aa from by rw [haa]; rfl, ← hee]
    simp)
  have HLS := Lib.hid (And.intro hl (And.intro hm hs))
  have HHB := Lib.hid hB
  have HSL1 := Lib.hid hw.s.len
  have HSL2 := Lib.hid hw.d.len
  have HZ := Lib.hid hz
  unfold hvv
  clear hw1 k1 b1 s1 f1 hw hr1 hr hq hsv hs hl hB hz hp haa hee
  generalize hC : hcs h (.slice A n c) = C at HW x34 HBK ⊢
  go_enter Try.func37, Try.ntmps37
  go_wp2_with ((go_at_call 35; refine (HM _).out.mono ?_; rintro e w9 ⟨rfl, rfl⟩); try rw [← HW.out])
  refine HP1.out.mono ?_
  rintro e w2 ⟨rfl, b2, l2⟩
  have K2 : Hid (∀ S, Keeps S w1 w2) := Lib.hid (fun S => keeps_of_below l2 S)
  have x34b := (HFF.out.keeps HWF.out (K2.out (fun _ => False)) (fun z => z)).pr
  rw [show h.pr = 6 from by have := HPV.out; exact this] at x34b
  have HP2 := Lib.hid (put32_any (some ⟨w1.heap.size, 0, none⟩) ([] ++ be 4 q) 4 4 _ 6 w2 (by simp [be_length]) (by omega) (by omega) b2.rd b2.lt)
  clear b2 l2 x34 x34a HP1
  go_wp2_with fail
  refine HP2.out.mono ?_
  rintro e w3 ⟨rfl, b3, l3⟩
  have K3 : Hid (∀ S, Keeps S w1 w3) := Lib.hid (fun S => (K2.out S).trans (keeps_of_below l3 S))
  clear l3 x34b HP2
  have s1 : ∀ u, (Instr.slice 27 (.slice R m cr) none (some (.int .i64 (aa : Int))) none).run Try.prog u = .ok (.slice R aa cr) u := fun u => cut_h R m cr aa (by omega) u
  have s2 : ∀ u, (Instr.slice 27 (.slice R m cr) (some (.int .i64 (ee : Int))) none none).run Try.prog u = .ok (.slice (cutA R cr ee) (m - ee) (cr - ee)) u := fun u => cut_l R m cr ee (by omega) u
  have s2b : ∀ u, (Instr.slice 27 (.slice R m cr) (some (.int .i64 ((aa : Int) + 2))) none none).run Try.prog u = .ok (.slice (cutA R cr ee) (m - ee) (cr - ee)) u := fun u => by rw [show ((aa : Int) + 2) = (ee : Int) from by have := HAE.out; omega]; exact s2 u
  obtain ⟨w4, hw4⟩ : ∃ w4, w4 = (w3.alloc (.cells #[.slice (some ⟨w.heap.size, 1, none⟩) 16 16, .slice (some ⟨w.heap.size, 18, none⟩) 16 16, .slice (some ⟨w2.heap.size, 0, none⟩) 8 8, .slice R aa cr, .slice (cutA R cr ee) (m - ee) (cr - ee)] 27)).drew := ⟨_, rfl⟩
  have k4 : ∀ S, Keeps S w3 w4 := fun S => by rw [hw4]; exact ((Keeps.refl S w3).alloc _).drew
  have K4 : Hid (∀ S, Keeps S w1 w4) := Lib.hid (fun S => (K3.out S).trans (k4 S))
  have hpt : Pt w4 w4.heap.size (some ⟨w3.heap.size, 0, none⟩) [h.src.B, h.dst.B, [] ++ be 4 q ++ be 4 6, l.take aa, l.drop ee] := by
    have hb4 : Blk w4 w3.heap.size 27 [.slice (some ⟨w.heap.size, 1, none⟩) 16 16, .slice (some ⟨w.heap.size, 18, none⟩) 16 16, .slice (some ⟨w2.heap.size, 0, none⟩) 8 8, .slice R aa cr, .slice (cutA R cr ee) (m - ee) (cr - ee)] := by rw [hw4]; exact Blk.new w3 27 #[.slice (some ⟨w.heap.size, 1, none⟩) 16 16, .slice (some ⟨w.heap.size, 18, none⟩) 16 16, .slice (some ⟨w2.heap.size, 0, none⟩) 8 8, .slice R aa cr, .slice (cutA R cr ee) (m - ee) (cr - ee)]
    have hsz1 : w1.heap.size ≤ w4.heap.size := (K4.out (fun _ => False)).size
    have hbx : Blk w4 w.heap.size 29 (hcs h (.slice A n c)) := by rw [hC]; exact Blk.keeps HBK.out (K4.out (fun _ => False)) (fun z => z)
    have hlt := hbx.lt
    have r1 : Rd w4 w4.heap.size (some ⟨w.heap.size, 1, none⟩) (by_ h.src.B) := fun j v hj => ⟨w.heap.size, 1, rfl, hlt, by
      have hl : j < (b8s h.src.B).length := (List.getElem?_eq_some_iff.1 hj).1
      rw [hbx.cell, Nat.add_comm 1 j]
      unfold hcs
      rw [List.getElem?_append_left (by unfold adc; simp; omega), adc, List.getElem?_cons_succ]; exact hj⟩
    have r2 : Rd w4 w4.heap.size (some ⟨w.heap.size, 18, none⟩) (by_ h.dst.B) := fun j v hj => ⟨w.heap.size, 18, rfl, hlt, by
      have hl : j < (b8s h.dst.B).length := (List.getElem?_eq_some_iff.1 hj).1
      rw [hbx.cell]
      unfold hcs
      rw [List.getElem?_append_right (by rw [adc_len HWF.out.s]; omega), adc_len HWF.out.s, show 18 + j - 17 = j + 1 from by omega, List.getElem?_append_left (by unfold adc; simp; omega), adc, List.getElem?_cons_succ]; exact hj⟩
    have r3 : Rd w4 w4.heap.size (some ⟨w2.heap.size, 0, none⟩) (by_ ([] ++ be 4 q ++ be 4 6)) := (rd_old b3.rd (k4 _)).more (by have := b3.lt; have := (k4 (fun _ => False)).size; omega)
    have rl : Rd w4 w4.heap.size R (by_ l) := (rd_old HR1.out (K4.out _)).more (by have := HHB.out; have := HS1.out; omega)
    refine pt_row (t := 27) hb4 (by have := (k4 (fun _ => False)).size; have := hb4.lt; omega) ?_
    intro k x hk
    rcases k with _ | _ | _ | _ | _ | k
    · simp only [List.getElem?_cons_zero, Option.some.injEq] at hk
      subst hk
      exact ⟨some ⟨w.heap.size, 1, none⟩, 16, by rw [HSL1.out]; rfl, r1⟩
    · simp only [List.getElem?_cons_succ, List.getElem?_cons_zero, Option.some.injEq] at hk
      subst hk
      exact ⟨some ⟨w.heap.size, 18, none⟩, 16, by rw [HSL2.out]; rfl, r2⟩
    · simp only [List.getElem?_cons_succ, List.getElem?_cons_zero, Option.some.injEq] at hk
      subst hk
      exact ⟨some ⟨w2.heap.size, 0, none⟩, 8, by simp [be_length], r3⟩
    · simp only [List.getElem?_cons_succ, List.getElem?_cons_zero, Option.some.injEq] at hk
      subst hk
      exact ⟨R, cr, by simp [List.length_take]; have := HLS.out; omega, rd_take rl aa⟩
    · simp only [List.getElem?_cons_succ, List.getElem?_cons_zero, Option.some.injEq] at hk
      subst hk
      exact ⟨cutA R cr ee, cr - ee, by simp [List.length_drop, HLS.out.1], rd_cut rl ee (by have := HLS.out.1; omega)⟩
    · simp at hk
  have hsm : ∀ x, x ∈ ([h.src.B, h.dst.B, [] ++ be 4 q ++ be 4 6, l.take aa, l.drop ee] : List (List Nat)) → Small x := fun x hx => by
    simp only [List.mem_cons, List.not_mem_nil, or_false] at hx
    rcases hx with rfl | rfl | rfl | rfl | rfl
    · exact HWF.out.s.sm
    · exact HWF.out.d.sm
    · exact (Small.nil.append (be_small _ _)).append (be_small _ _)
    · exact HLS.out.2.2.take _
    · exact HLS.out.2.2.drop _
  have F5 := Lib.hid (sum_any (some ⟨w3.heap.size, 0, none⟩) _ 5 5 _ w4 rfl (by omega) (by
    rw [← HPS.out]
    unfold psum
    have := HLS.out.1
    simp only [List.length_append, List.length_take, List.length_drop, be_length, HSL1.out, HSL2.out]
    omega) hsm hpt)
  rw [← HPS.out, ← HSVE.out] at F5
  have y34 := (HFF.out.keeps HWF.out (K4.out (fun _ => False)) (fun z => z)).pr
  rw [show h.pr = 6 from by have := HPV.out; exact this] at y34
  have hcl := csum_le (psum h l)
  have hz := HZ.out
  rw [← HSVE.out] at hcl hz
  rw [hw4] at F5
  clear hpt hsm b3 k4
  have dz : ((sv : Int) == 0) = false := beq_eq_false_iff_ne.2 (by omega)
  have HW4 := Lib.hid hw4
  clear hw4
  clear hz
  go_wp2_with fail
  go_region_held3 (fun _ => True) (exact trivial) (first
    | (go_at_call 55; refine F5.out.mono ?_; rintro e w' ⟨rfl, rfl⟩))
  rw [← HW4.out]
  go_wp2
  try rw [Exit.noGoto_ret]
  go_ret
  exact ⟨rfl, fun S => (K1.out S).trans (K4.out S)⟩
set_option maxRecDepth 100000 in
set_option maxHeartbeats 4000000 in
theorem sumof_udpz (h : Hd) (A : Option Addr) (n c : Nat) (hw : h.Wf) (R : Option Addr) (m cr B : Nat) (l : List Nat) (hl : l.length = m) (hm : 8 ≤ m) (hm9 : m ≤ 140737488000000) (hmc : m ≤ cr) (hs : Small l) (hr : Rd w B R (by_ l)) (hB : B ≤ w.heap.size) (hp : h.pr = 17) (hz : csum (psum h l) = 0) :
    Calls Try.prog 37 #[hvv h (.slice A n c), .slice R m cr] w fun e w' => e = .returned (.int .u16 (sumv h l : Nat)) ∧ ∀ S, Keeps S w w' := by
  obtain ⟨w1, hw1, k1, b1, s1⟩ := box1 w (hcs h (.slice A n c)) 29
  have HPV := Lib.hid hp
  have HM := fun w => Lib.hid (psat_ w h.pr)
  rw [hp] at HM
  obtain ⟨aa, haa⟩ : ∃ aa, aa = 6 := ⟨_, rfl⟩
  obtain ⟨ee, hee⟩ : ∃ ee, ee = aa + 2 := ⟨_, rfl⟩
  have HAE := Lib.hid (And.intro haa hee)
  rw [show sat 17 = aa from by rw [haa]; rfl] at HM
  have a9 : aa ≤ 16 := by omega
  have em : ee ≤ m := by omega
  have am : aa ≤ m := by omega
  have ea3 : IntKind.i64.wrap ((aa : Int) + 2) = (ee : Int) := by rw [wi64 (by omega) (by omega)]; omega
  have hsv : sumv h l = 65535 := by
    unfold sumv
    rw [if_pos ⟨hz, hp⟩]
  rw [hsv]
  obtain ⟨sv, hsve⟩ : ∃ sv, sv = csum (psum h l) := ⟨_, rfl⟩
  try rw [← hsve]
  have HSVE := Lib.hid hsve
  clear hsve
  have f1 := HF.of_blk hw b1
  have x34 := f1.pr
  rw [hp] at x34
  have x34a := x34
  rw [hw1] at x34
  have hr1 := rd_old hr (k1 (fun _ => False))
  obtain ⟨q, hq⟩ : ∃ q, q = m % 4294967296 := ⟨_, rfl⟩
  have hq9 : q < 4294967296 := by omega
  have e1 : IntKind.u32.wrap (m : Int) = (q : Int) := by rw [IntKind.wrap_u32]; omega
  have e2 : (m : Int) % 4294967296 = (q : Int) := by omega
  have HP1 := Lib.hid (put32_any none [] 0 0 0 q w1 rfl (by omega) hq9 Rd.nil_ (by omega))
  have HFF := Lib.hid f1
  have HWF := Lib.hid hw
  have K1 := Lib.hid k1
  have HW := Lib.hid hw1
  have HS1 := Lib.hid s1
  have HR1 := Lib.hid hr1
  have HBK := Lib.hid b1
  have HPS : Hid (psum h l = ([h.src.B, h.dst.B, [] ++ be 4 q ++ be 4 17, l.take aa, l.drop ee] : List (List Nat)).flatten) := Lib.hid (by
    unfold psum
    rw [hp, hl, ← hq, show sat 17 = aa from by rw [haa]; rfl, ← hee]
    simp)
  have HLS := Lib.hid (And.intro hl (And.intro hm hs))
  have HHB := Lib.hid hB
  have HSL1 := Lib.hid hw.s.len
  have HSL2 := Lib.hid hw.d.len
  have HZ := Lib.hid hz
  unfold hvv
  clear hw1 k1 b1 s1 f1 hw hr1 hr hq hsv hs hl hB hz hp haa hee
  generalize hC : hcs h (.slice A n c) = C at HW x34 HBK ⊢
  go_enter Try.func37, Try.ntmps37
  go_wp2_with ((go_at_call 35; refine (HM _).out.mono ?_; rintro e w9 ⟨rfl, rfl⟩); try rw [← HW.out])
  refine HP1.out.mono ?_
  rintro e w2 ⟨rfl, b2, l2⟩
  have K2 : Hid (∀ S, Keeps S w1 w2) := Lib.hid (fun S => keeps_of_below l2 S)
  have x34b := (HFF.out.keeps HWF.out (K2.out (fun _ => False)) (fun z => z)).pr
  rw [show h.pr = 17 from by have := HPV.out; exact this] at x34b
  have HP2 := Lib.hid (put32_any (some ⟨w1.heap.size, 0, none⟩) ([] ++ be 4 q) 4 4 _ 17 w2 (by simp [be_length]) (by omega) (by omega) b2.rd b2.lt)
  clear b2 l2 x34 x34a HP1
  go_wp2_with fail
  refine HP2.out.mono ?_
  rintro e w3 ⟨rfl, b3, l3⟩
  have K3 : Hid (∀ S, Keeps S w1 w3) := Lib.hid (fun S => (K2.out S).trans (keeps_of_below l3 S))
  clear l3 x34b HP2
  have s1 : ∀ u, (Instr.slice 27 (.slice R m cr) none (some (.int .i64 (aa : Int))) none).run Try.prog u = .ok (.slice R aa cr) u := fun u => cut_h R m cr aa (by omega) u
  have s2 : ∀ u, (Instr.slice 27 (.slice R m cr) (some (.int .i64 (ee : Int))) none none).run Try.prog u = .ok (.slice (cutA R cr ee) (m - ee) (cr - ee)) u := fun u => cut_l R m cr ee (by omega) u
  have s2b : ∀ u, (Instr.slice 27 (.slice R m cr) (some (.int .i64 ((aa : Int) + 2))) none none).run Try.prog u = .ok (.slice (cutA R cr ee) (m - ee) (cr - ee)) u := fun u => by rw [show ((aa : Int) + 2) = (ee : Int) from by have := HAE.out; omega]; exact s2 u
  obtain ⟨w4, hw4⟩ : ∃ w4, w4 = (w3.alloc (.cells #[.slice (some ⟨w.heap.size, 1, none⟩) 16 16, .slice (some ⟨w.heap.size, 18, none⟩) 16 16, .slice (some ⟨w2.heap.size, 0, none⟩) 8 8, .slice R aa cr, .slice (cutA R cr ee) (m - ee) (cr - ee)] 27)).drew := ⟨_, rfl⟩
  have k4 : ∀ S, Keeps S w3 w4 := fun S => by rw [hw4]; exact ((Keeps.refl S w3).alloc _).drew
  have K4 : Hid (∀ S, Keeps S w1 w4) := Lib.hid (fun S => (K3.out S).trans (k4 S))
  have hpt : Pt w4 w4.heap.size (some ⟨w3.heap.size, 0, none⟩) [h.src.B, h.dst.B, [] ++ be 4 q ++ be 4 17, l.take aa, l.drop ee] := by
    have hb4 : Blk w4 w3.heap.size 27 [.slice (some ⟨w.heap.size, 1, none⟩) 16 16, .slice (some ⟨w.heap.size, 18, none⟩) 16 16, .slice (some ⟨w2.heap.size, 0, none⟩) 8 8, .slice R aa cr, .slice (cutA R cr ee) (m - ee) (cr - ee)] := by rw [hw4]; exact Blk.new w3 27 #[.slice (some ⟨w.heap.size, 1, none⟩) 16 16, .slice (some ⟨w.heap.size, 18, none⟩) 16 16, .slice (some ⟨w2.heap.size, 0, none⟩) 8 8, .slice R aa cr, .slice (cutA R cr ee) (m - ee) (cr - ee)]
    have hsz1 : w1.heap.size ≤ w4.heap.size := (K4.out (fun _ => False)).size
    have hbx : Blk w4 w.heap.size 29 (hcs h (.slice A n c)) := by rw [hC]; exact Blk.keeps HBK.out (K4.out (fun _ => False)) (fun z => z)
    have hlt := hbx.lt
    have r1 : Rd w4 w4.heap.size (some ⟨w.heap.size, 1, none⟩) (by_ h.src.B) := fun j v hj => ⟨w.heap.size, 1, rfl, hlt, by
      have hl : j < (b8s h.src.B).length := (List.getElem?_eq_some_iff.1 hj).1
      rw [hbx.cell, Nat.add_comm 1 j]
      unfold hcs
      rw [List.getElem?_append_left (by unfold adc; simp; omega), adc, List.getElem?_cons_succ]; exact hj⟩
    have r2 : Rd w4 w4.heap.size (some ⟨w.heap.size, 18, none⟩) (by_ h.dst.B) := fun j v hj => ⟨w.heap.size, 18, rfl, hlt, by
      have hl : j < (b8s h.dst.B).length := (List.getElem?_eq_some_iff.1 hj).1
      rw [hbx.cell]
      unfold hcs
      rw [List.getElem?_append_right (by rw [adc_len HWF.out.s]; omega), adc_len HWF.out.s, show 18 + j - 17 = j + 1 from by omega, List.getElem?_append_left (by unfold adc; simp; omega), adc, List.getElem?_cons_succ]; exact hj⟩
    have r3 : Rd w4 w4.heap.size (some ⟨w2.heap.size, 0, none⟩) (by_ ([] ++ be 4 q ++ be 4 17)) := (rd_old b3.rd (k4 _)).more (by have := b3.lt; have := (k4 (fun _ => False)).size; omega)
    have rl : Rd w4 w4.heap.size R (by_ l) := (rd_old HR1.out (K4.out _)).more (by have := HHB.out; have := HS1.out; omega)
    refine pt_row (t := 27) hb4 (by have := (k4 (fun _ => False)).size; have := hb4.lt; omega) ?_
    intro k x hk
    rcases k with _ | _ | _ | _ | _ | k
    · simp only [List.getElem?_cons_zero, Option.some.injEq] at hk
      subst hk
      exact ⟨some ⟨w.heap.size, 1, none⟩, 16, by rw [HSL1.out]; rfl, r1⟩
    · simp only [List.getElem?_cons_succ, List.getElem?_cons_zero, Option.some.injEq] at hk
      subst hk
      exact ⟨some ⟨w.heap.size, 18, none⟩, 16, by rw [HSL2.out]; rfl, r2⟩
    · simp only [List.getElem?_cons_succ, List.getElem?_cons_zero, Option.some.injEq] at hk
      subst hk
      exact ⟨some ⟨w2.heap.size, 0, none⟩, 8, by simp [be_length], r3⟩
    · simp only [List.getElem?_cons_succ, List.getElem?_cons_zero, Option.some.injEq] at hk
      subst hk
      exact ⟨R, cr, by simp [List.length_take]; have := HLS.out; omega, rd_take rl aa⟩
    · simp only [List.getElem?_cons_succ, List.getElem?_cons_zero, Option.some.injEq] at hk
      subst hk
      exact ⟨cutA R cr ee, cr - ee, by simp [List.length_drop, HLS.out.1], rd_cut rl ee (by have := HLS.out.1; omega)⟩
    · simp at hk
  have hsm : ∀ x, x ∈ ([h.src.B, h.dst.B, [] ++ be 4 q ++ be 4 17, l.take aa, l.drop ee] : List (List Nat)) → Small x := fun x hx => by
    simp only [List.mem_cons, List.not_mem_nil, or_false] at hx
    rcases hx with rfl | rfl | rfl | rfl | rfl
    · exact HWF.out.s.sm
    · exact HWF.out.d.sm
    · exact (Small.nil.append (be_small _ _)).append (be_small _ _)
    · exact HLS.out.2.2.take _
    · exact HLS.out.2.2.drop _
  have F5 := Lib.hid (sum_any (some ⟨w3.heap.size, 0, none⟩) _ 5 5 _ w4 rfl (by omega) (by
    rw [← HPS.out]
    unfold psum
    have := HLS.out.1
    simp only [List.length_append, List.length_take, List.length_drop, be_length, HSL1.out, HSL2.out]
    omega) hsm hpt)
  rw [← HPS.out, ← HSVE.out] at F5
  have y34 := (HFF.out.keeps HWF.out (K4.out (fun _ => False)) (fun z => z)).pr
  rw [show h.pr = 17 from by have := HPV.out; exact this] at y34
  have hcl := csum_le (psum h l)
  have hz := HZ.out
  rw [← HSVE.out] at hcl hz
  rw [hw4] at F5
  clear hpt hsm b3 k4
  rw [hz] at F5
  have HW4 := Lib.hid hw4
  clear hw4
  
  go_wp2_with fail
  go_region_held3 (fun _ => True) (exact trivial) (first
    | (go_at_call 55; refine F5.out.mono ?_; rintro e w' ⟨rfl, rfl⟩))
  rw [← HW4.out]
  go_wp2
  try rw [Exit.noGoto_ret]
  go_ret
  exact ⟨rfl, fun S => (K1.out S).trans (K4.out S)⟩
set_option maxRecDepth 100000 in
set_option maxHeartbeats 4000000 in
theorem sumof_udpn (h : Hd) (A : Option Addr) (n c : Nat) (hw : h.Wf) (R : Option Addr) (m cr B : Nat) (l : List Nat) (hl : l.length = m) (hm : 8 ≤ m) (hm9 : m ≤ 140737488000000) (hmc : m ≤ cr) (hs : Small l) (hr : Rd w B R (by_ l)) (hB : B ≤ w.heap.size) (hp : h.pr = 17) (hz : csum (psum h l) ≠ 0) :
    Calls Try.prog 37 #[hvv h (.slice A n c), .slice R m cr] w fun e w' => e = .returned (.int .u16 (sumv h l : Nat)) ∧ ∀ S, Keeps S w w' := by
  obtain ⟨w1, hw1, k1, b1, s1⟩ := box1 w (hcs h (.slice A n c)) 29
  have HPV := Lib.hid hp
  have HM := fun w => Lib.hid (psat_ w h.pr)
  rw [hp] at HM
  obtain ⟨aa, haa⟩ : ∃ aa, aa = 6 := ⟨_, rfl⟩
  obtain ⟨ee, hee⟩ : ∃ ee, ee = aa + 2 := ⟨_, rfl⟩
  have HAE := Lib.hid (And.intro haa hee)
  rw [show sat 17 = aa from by rw [haa]; rfl] at HM
  have a9 : aa ≤ 16 := by omega
  have em : ee ≤ m := by omega
  have am : aa ≤ m := by omega
  have ea3 : IntKind.i64.wrap ((aa : Int) + 2) = (ee : Int) := by rw [wi64 (by omega) (by omega)]; omega
  have hsv : sumv h l = csum (psum h l) := by
    unfold sumv
    rw [if_neg (fun z => hz z.1)]
  rw [hsv]
  obtain ⟨sv, hsve⟩ : ∃ sv, sv = csum (psum h l) := ⟨_, rfl⟩
  try rw [← hsve]
  have HSVE := Lib.hid hsve
  clear hsve
  have f1 := HF.of_blk hw b1
  have x34 := f1.pr
  rw [hp] at x34
  have x34a := x34
  rw [hw1] at x34
  have hr1 := rd_old hr (k1 (fun _ => False))
  obtain ⟨q, hq⟩ : ∃ q, q = m % 4294967296 := ⟨_, rfl⟩
  have hq9 : q < 4294967296 := by omega
  have e1 : IntKind.u32.wrap (m : Int) = (q : Int) := by rw [IntKind.wrap_u32]; omega
  have e2 : (m : Int) % 4294967296 = (q : Int) := by omega
  have HP1 := Lib.hid (put32_any none [] 0 0 0 q w1 rfl (by omega) hq9 Rd.nil_ (by omega))
  have HFF := Lib.hid f1
  have HWF := Lib.hid hw
  have K1 := Lib.hid k1
  have HW := Lib.hid hw1
  have HS1 := Lib.hid s1
  have HR1 := Lib.hid hr1
  have HBK := Lib.hid b1
  have HPS : Hid (psum h l = ([h.src.B, h.dst.B, [] ++ be 4 q ++ be 4 17, l.take aa, l.drop ee] : List (List Nat)).flatten) := Lib.hid (by
    unfold psum
    rw [hp, hl, ← hq, show sat 17 = aa from by rw [haa]; rfl, ← hee]
    simp)
  have HLS := Lib.hid (And.intro hl (And.intro hm hs))
  have HHB := Lib.hid hB
  have HSL1 := Lib.hid hw.s.len
  have HSL2 := Lib.hid hw.d.len
  have HZ := Lib.hid hz
  unfold hvv
  clear hw1 k1 b1 s1 f1 hw hr1 hr hq hsv hs hl hB hz hp haa hee
  generalize hC : hcs h (.slice A n c) = C at HW x34 HBK ⊢
  go_enter Try.func37, Try.ntmps37
  go_wp2_with ((go_at_call 35; refine (HM _).out.mono ?_; rintro e w9 ⟨rfl, rfl⟩); try rw [← HW.out])
  refine HP1.out.mono ?_
  rintro e w2 ⟨rfl, b2, l2⟩
  have K2 : Hid (∀ S, Keeps S w1 w2) := Lib.hid (fun S => keeps_of_below l2 S)
  have x34b := (HFF.out.keeps HWF.out (K2.out (fun _ => False)) (fun z => z)).pr
  rw [show h.pr = 17 from by have := HPV.out; exact this] at x34b
  have HP2 := Lib.hid (put32_any (some ⟨w1.heap.size, 0, none⟩) ([] ++ be 4 q) 4 4 _ 17 w2 (by simp [be_length]) (by omega) (by omega) b2.rd b2.lt)
  clear b2 l2 x34 x34a HP1
  go_wp2_with fail
  refine HP2.out.mono ?_
  rintro e w3 ⟨rfl, b3, l3⟩
  have K3 : Hid (∀ S, Keeps S w1 w3) := Lib.hid (fun S => (K2.out S).trans (keeps_of_below l3 S))
  clear l3 x34b HP2
  have s1 : ∀ u, (Instr.slice 27 (.slice R m cr) none (some (.int .i64 (aa : Int))) none).run Try.prog u = .ok (.slice R aa cr) u := fun u => cut_h R m cr aa (by omega) u
  have s2 : ∀ u, (Instr.slice 27 (.slice R m cr) (some (.int .i64 (ee : Int))) none none).run Try.prog u = .ok (.slice (cutA R cr ee) (m - ee) (cr - ee)) u := fun u => cut_l R m cr ee (by omega) u
  have s2b : ∀ u, (Instr.slice 27 (.slice R m cr) (some (.int .i64 ((aa : Int) + 2))) none none).run Try.prog u = .ok (.slice (cutA R cr ee) (m - ee) (cr - ee)) u := fun u => by rw [show ((aa : Int) + 2) = (ee : Int) from by have := HAE.out; omega]; exact s2 u
  obtain ⟨w4, hw4⟩ : ∃ w4, w4 = (w3.alloc (.cells #[.slice (some ⟨w.heap.size, 1, none⟩) 16 16, .slice (some ⟨w.heap.size, 18, none⟩) 16 16, .slice (some ⟨w2.heap.size, 0, none⟩) 8 8, .slice R aa cr, .slice (cutA R cr ee) (m - ee) (cr - ee)] 27)).drew := ⟨_, rfl⟩
  have k4 : ∀ S, Keeps S w3 w4 := fun S => by rw [hw4]; exact ((Keeps.refl S w3).alloc _).drew
  have K4 : Hid (∀ S, Keeps S w1 w4) := Lib.hid (fun S => (K3.out S).trans (k4 S))
  have hpt : Pt w4 w4.heap.size (some ⟨w3.heap.size, 0, none⟩) [h.src.B, h.dst.B, [] ++ be 4 q ++ be 4 17, l.take aa, l.drop ee] := by
    have hb4 : Blk w4 w3.heap.size 27 [.slice (some ⟨w.heap.size, 1, none⟩) 16 16, .slice (some ⟨w.heap.size, 18, none⟩) 16 16, .slice (some ⟨w2.heap.size, 0, none⟩) 8 8, .slice R aa cr, .slice (cutA R cr ee) (m - ee) (cr - ee)] := by rw [hw4]; exact Blk.new w3 27 #[.slice (some ⟨w.heap.size, 1, none⟩) 16 16, .slice (some ⟨w.heap.size, 18, none⟩) 16 16, .slice (some ⟨w2.heap.size, 0, none⟩) 8 8, .slice R aa cr, .slice (cutA R cr ee) (m - ee) (cr - ee)]
    have hsz1 : w1.heap.size ≤ w4.heap.size := (K4.out (fun _ => False)).size
    have hbx : Blk w4 w.heap.size 29 (hcs h (.slice A n c)) := by rw [hC]; exact Blk.keeps HBK.out (K4.out (fun _ => False)) (fun z => z)
    have hlt := hbx.lt
    have r1 : Rd w4 w4.heap.size (some ⟨w.heap.size, 1, none⟩) (by_ h.src.B) := fun j v hj => ⟨w.heap.size, 1, rfl, hlt, by
      have hl : j < (b8s h.src.B).length := (List.getElem?_eq_some_iff.1 hj).1
      rw [hbx.cell, Nat.add_comm 1 j]
      unfold hcs
      rw [List.getElem?_append_left (by unfold adc; simp; omega), adc, List.getElem?_cons_succ]; exact hj⟩
    have r2 : Rd w4 w4.heap.size (some ⟨w.heap.size, 18, none⟩) (by_ h.dst.B) := fun j v hj => ⟨w.heap.size, 18, rfl, hlt, by
      have hl : j < (b8s h.dst.B).length := (List.getElem?_eq_some_iff.1 hj).1
      rw [hbx.cell]
      unfold hcs
      rw [List.getElem?_append_right (by rw [adc_len HWF.out.s]; omega), adc_len HWF.out.s, show 18 + j - 17 = j + 1 from by omega, List.getElem?_append_left (by unfold adc; simp; omega), adc, List.getElem?_cons_succ]; exact hj⟩
    have r3 : Rd w4 w4.heap.size (some ⟨w2.heap.size, 0, none⟩) (by_ ([] ++ be 4 q ++ be 4 17)) := (rd_old b3.rd (k4 _)).more (by have := b3.lt; have := (k4 (fun _ => False)).size; omega)
    have rl : Rd w4 w4.heap.size R (by_ l) := (rd_old HR1.out (K4.out _)).more (by have := HHB.out; have := HS1.out; omega)
    refine pt_row (t := 27) hb4 (by have := (k4 (fun _ => False)).size; have := hb4.lt; omega) ?_
    intro k x hk
    rcases k with _ | _ | _ | _ | _ | k
    · simp only [List.getElem?_cons_zero, Option.some.injEq] at hk
      subst hk
      exact ⟨some ⟨w.heap.size, 1, none⟩, 16, by rw [HSL1.out]; rfl, r1⟩
    · simp only [List.getElem?_cons_succ, List.getElem?_cons_zero, Option.some.injEq] at hk
      subst hk
      exact ⟨some ⟨w.heap.size, 18, none⟩, 16, by rw [HSL2.out]; rfl, r2⟩
    · simp only [List.getElem?_cons_succ, List.getElem?_cons_zero, Option.some.injEq] at hk
      subst hk
      exact ⟨some ⟨w2.heap.size, 0, none⟩, 8, by simp [be_length], r3⟩
    · simp only [List.getElem?_cons_succ, List.getElem?_cons_zero, Option.some.injEq] at hk
      subst hk
      exact ⟨R, cr, by simp [List.length_take]; have := HLS.out; omega, rd_take rl aa⟩
    · simp only [List.getElem?_cons_succ, List.getElem?_cons_zero, Option.some.injEq] at hk
      subst hk
      exact ⟨cutA R cr ee, cr - ee, by simp [List.length_drop, HLS.out.1], rd_cut rl ee (by have := HLS.out.1; omega)⟩
    · simp at hk
  have hsm : ∀ x, x ∈ ([h.src.B, h.dst.B, [] ++ be 4 q ++ be 4 17, l.take aa, l.drop ee] : List (List Nat)) → Small x := fun x hx => by
    simp only [List.mem_cons, List.not_mem_nil, or_false] at hx
    rcases hx with rfl | rfl | rfl | rfl | rfl
    · exact HWF.out.s.sm
    · exact HWF.out.d.sm
    · exact (Small.nil.append (be_small _ _)).append (be_small _ _)
    · exact HLS.out.2.2.take _
    · exact HLS.out.2.2.drop _
  have F5 := Lib.hid (sum_any (some ⟨w3.heap.size, 0, none⟩) _ 5 5 _ w4 rfl (by omega) (by
    rw [← HPS.out]
    unfold psum
    have := HLS.out.1
    simp only [List.length_append, List.length_take, List.length_drop, be_length, HSL1.out, HSL2.out]
    omega) hsm hpt)
  rw [← HPS.out, ← HSVE.out] at F5
  have y34 := (HFF.out.keeps HWF.out (K4.out (fun _ => False)) (fun z => z)).pr
  rw [show h.pr = 17 from by have := HPV.out; exact this] at y34
  have hcl := csum_le (psum h l)
  have hz := HZ.out
  rw [← HSVE.out] at hcl hz
  rw [hw4] at F5
  clear hpt hsm b3 k4
  have dz : ((sv : Int) == 0) = false := beq_eq_false_iff_ne.2 (by omega)
  have HW4 := Lib.hid hw4
  clear hw4
  clear hz
  go_wp2_with fail
  go_region_held3 (fun _ => True) (exact trivial) (first
    | (go_at_call 55; refine F5.out.mono ?_; rintro e w' ⟨rfl, rfl⟩))
  rw [← HW4.out]
  go_wp2
  try rw [Exit.noGoto_ret]
  go_ret
  exact ⟨rfl, fun S => (K1.out S).trans (K4.out S)⟩
theorem sumof_ (h : Hd) (A : Option Addr) (n c : Nat) (hw : h.Wf) (R : Option Addr) (m cr B : Nat) (l : List Nat) (hl : l.length = m) (hm : sat h.pr + 2 ≤ m) (hm9 : m ≤ 140737488000000) (hmc : m ≤ cr) (hs : Small l) (hr : Rd w B R (by_ l)) (hB : B ≤ w.heap.size) (hp : h.pr = 6 ∨ h.pr = 17) :
    Calls Try.prog 37 #[hvv h (.slice A n c), .slice R m cr] w fun e w' => e = .returned (.int .u16 (sumv h l : Nat)) ∧ ∀ S, Keeps S w w' := by
  rcases hp with hp | hp
  · rw [hp] at hm
    by_cases hz : csum (psum h l) = 0
    · exact sumof_tcpz w h A n c hw R m cr B l hl hm hm9 hmc hs hr hB hp hz
    · exact sumof_tcpn w h A n c hw R m cr B l hl hm hm9 hmc hs hr hB hp hz
  · rw [hp] at hm
    by_cases hz : csum (psum h l) = 0
    · exact sumof_udpz w h A n c hw R m cr B l hl hm hm9 hmc hs hr hB hp hz
    · exact sumof_udpn w h A n c hw R m cr B l hl hm hm9 hmc hs hr hB hp hz
end
end Go.Proofs.Ytidengmcbppcoaa.pk
