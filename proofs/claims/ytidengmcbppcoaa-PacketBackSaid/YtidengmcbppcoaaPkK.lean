/-
  packet.Same; the document's own Same.
-/
import Derived.Test.YtidengmcbppcoaaPkJ
set_option linter.unusedVariables false
set_option linter.unusedSimpArgs false
namespace Go.Proofs.Ytidengmcbppcoaa.pk
open Go.RowKit Go.Proofs.Ytidengmcbppcoaa.oc Go.Proofs.Ytidengmcbppcoaa.mz Go.Proofs.Ytidengmcbppcoaa.pf Go.Proofs.Ytidengmcbppcoaa.wh Go.Proofs.Ytidengmcbppcoaa.qk Go.Proofs.Ytidengmcbppcoaa.bys
open Classical in
/-- the same in all fields -/
noncomputable def sameH (a b : Hd) : Bool := decide (a = b)
open Classical in
theorem same_no {a b : Hd} (h : ¬ a = b) : sameH a b = false := by unfold sameH; exact decide_eq_false h
open Classical in
theorem same_yes {a b : Hd} (h : a = b) : sameH a b = true := by unfold sameH; exact decide_eq_true h
theorem Hd.eq_of {a b : Hd} (h0 : a.src = b.src) (h1 : a.dst = b.dst) (h2 : a.pr = b.pr) (h3 : a.sp = b.sp) (h4 : a.dp = b.dp) (h5 : a.ttl = b.ttl) (h6 : a.cls = b.cls) (h7 : a.id = b.id) (h8 : a.fl = b.fl) (h9 : a.seq = b.seq) (h10 : a.dat = b.dat) : a = b := by
  cases a; cases b
  simp_all
theorem box2 (w : World) (cs ds : List Value) (T U : TypeId) : ∃ w1, w1 = (w.alloc (.cells cs.toArray T)).alloc (.cells ds.toArray U) ∧ (∀ S, Keeps S w w1) ∧ Blk w1 w.heap.size T cs ∧ Blk w1 (w.heap.size + 1) U ds ∧ w1.heap.size = w.heap.size + 1 + 1 := by
  refine ⟨_, rfl, fun S => ((Keeps.refl S w).alloc _).alloc _, ?_, ?_, by simp⟩
  · exact (by simpa using Blk.new w T cs.toArray : Blk _ w.heap.size T cs).alloc _
  · have := Blk.new (w.alloc (.cells cs.toArray T)) U ds.toArray
    rw [World.size_alloc] at this
    simpa using this
section
variable (w : World)
end
structure SD (w : World) (g : Nat) (s d : List Value) : Prop where
  src : w.rangeAt g 0 s
  dst : w.rangeAt g 17 d
section
variable (w : World)
set_option maxRecDepth 100000 in
set_option maxHeartbeats 1500000 in
theorem psame_0 (a b : Hd) (ha : a.Wf) (hb : b.Wf) (A A2 : Option Addr) (n n2 c c2 : Nat) (hl : a.dat.length = n) (hl2 : b.dat.length = n2) (hr : Rd w w.heap.size A (by_ a.dat)) (hr2 : Rd w w.heap.size A2 (by_ b.dat))   (h0 : ¬ a.src = b.src) :
    Calls Try.prog 11 #[hvv a (.slice A n c), hvv b (.slice A2 n2 c2)] w fun e w' => e = .returned (.bool false) ∧ ∀ S, Keeps S w w' := by
  obtain ⟨w1, hw1, k1, ba, bb, s1⟩ := box2 w (hcs a (.slice A n c)) (hcs b (.slice A2 n2 c2)) 29 29
  have fa := HF.of_blk ha ba
  have fb := HF.of_blk hb bb
  have q0 := fun W => addr_eql a.src b.src ha.s hb.s W
  rw [decide_eq_false h0] at q0
  
  have xa34 := fa.pr
  have xb34 := fb.pr
  have xa35 := fa.sp
  have xb35 := fb.sp
  have xa36 := fa.dp
  have xb36 := fb.dp
  have xa37 := fa.ttl
  have xb37 := fb.ttl
  have xa38 := fa.cls
  have xb38 := fb.cls
  have xa39 := fa.id
  have xb39 := fb.id
  have xa40 := fa.fl
  have xb40 := fb.fl
  have xa41 := fa.seq
  have xb41 := fb.seq
  have xa42 := fa.dat
  have xb42 := fb.dat
  
  have HZ := Lib.hid (And.intro (ad_sz ha.s) (And.intro (ad_sz hb.s) (And.intro (ad_sz ha.d) (ad_sz hb.d))))
  have HFA0 := Lib.hid fa
  have HFB0 := Lib.hid fb
  have HFA : Hid (SD w1 w.heap.size (adc a.src) (adc a.dst)) := Lib.hid ⟨fa.src, fa.dst⟩
  have HFB : Hid (SD w1 (w.heap.size + 1) (adc b.src) (adc b.dst)) := Lib.hid ⟨fb.src, fb.dst⟩
  have K1 := Lib.hid k1
  have HW := Lib.hid hw1
  unfold av at q0 
  unfold hvv
  clear hw1 k1 ba bb s1 fa fb ha hb hr hr2 hl hl2 h0 HFA0 HFB0 
  generalize hcs a (.slice A n c) = CA at *
  generalize hcs b (.slice A2 n2 c2) = CB at *
  generalize adc a.src = SA at *
  generalize adc b.src = SB at *
  generalize adc a.dst = DA at *
  generalize adc b.dst = DB at *
  go_enter Try.func11, Try.ntmps11
  dsimp only [List.append_eq, List.cons_append, List.nil_append]
  go_wp2_with (first
    | go_skip
    | ((try with_reducible rw [← HW.out]); refine wpList_load_mid rfl 24 _ rfl w.heap.size 0 rfl SA _ HFA.out.src Try.underlying24 rfl HZ.out.1 ?_)
    | (refine wpList_load_mid rfl 24 _ rfl (w.heap.size + 1) 0 rfl SB _ HFB.out.src Try.underlying24 rfl HZ.out.2.1 ?_)
    | (refine wpList_load_want (by kernel_rfl) 24 _ rfl w.heap.size 17 rfl DA _ HFA.out.dst Try.underlying24 rfl HZ.out.2.2.1 ?_)
    | (refine wpList_load_want (by kernel_rfl) 24 _ rfl (w.heap.size + 1) 17 rfl DB _ HFB.out.dst Try.underlying24 rfl HZ.out.2.2.2 ?_))
  try rw [Exit.noGoto_ret]
  go_ret
  exact ⟨rfl, K1.out⟩
set_option maxRecDepth 100000 in
set_option maxHeartbeats 1500000 in
theorem psame_1 (a b : Hd) (ha : a.Wf) (hb : b.Wf) (A A2 : Option Addr) (n n2 c c2 : Nat) (hl : a.dat.length = n) (hl2 : b.dat.length = n2) (hr : Rd w w.heap.size A (by_ a.dat)) (hr2 : Rd w w.heap.size A2 (by_ b.dat))  (h0 : a.src = b.src) (h1 : ¬ a.dst = b.dst) :
    Calls Try.prog 11 #[hvv a (.slice A n c), hvv b (.slice A2 n2 c2)] w fun e w' => e = .returned (.bool false) ∧ ∀ S, Keeps S w w' := by
  obtain ⟨w1, hw1, k1, ba, bb, s1⟩ := box2 w (hcs a (.slice A n c)) (hcs b (.slice A2 n2 c2)) 29 29
  have fa := HF.of_blk ha ba
  have fb := HF.of_blk hb bb
  have q0 := fun W => addr_eql a.src b.src ha.s hb.s W
  rw [decide_eq_true h0] at q0
  have q1 := fun W => addr_eql a.dst b.dst ha.d hb.d W
  rw [decide_eq_false h1] at q1
  
  have xa34 := fa.pr
  have xb34 := fb.pr
  have xa35 := fa.sp
  have xb35 := fb.sp
  have xa36 := fa.dp
  have xb36 := fb.dp
  have xa37 := fa.ttl
  have xb37 := fb.ttl
  have xa38 := fa.cls
  have xb38 := fb.cls
  have xa39 := fa.id
  have xb39 := fb.id
  have xa40 := fa.fl
  have xb40 := fb.fl
  have xa41 := fa.seq
  have xb41 := fb.seq
  have xa42 := fa.dat
  have xb42 := fb.dat
  
  have HZ := Lib.hid (And.intro (ad_sz ha.s) (And.intro (ad_sz hb.s) (And.intro (ad_sz ha.d) (ad_sz hb.d))))
  have HFA0 := Lib.hid fa
  have HFB0 := Lib.hid fb
  have HFA : Hid (SD w1 w.heap.size (adc a.src) (adc a.dst)) := Lib.hid ⟨fa.src, fa.dst⟩
  have HFB : Hid (SD w1 (w.heap.size + 1) (adc b.src) (adc b.dst)) := Lib.hid ⟨fb.src, fb.dst⟩
  have K1 := Lib.hid k1
  have HW := Lib.hid hw1
  unfold av at q0 q1
  unfold hvv
  clear hw1 k1 ba bb s1 fa fb ha hb hr hr2 hl hl2 h0 h1 HFA0 HFB0 
  generalize hcs a (.slice A n c) = CA at *
  generalize hcs b (.slice A2 n2 c2) = CB at *
  generalize adc a.src = SA at *
  generalize adc b.src = SB at *
  generalize adc a.dst = DA at *
  generalize adc b.dst = DB at *
  go_enter Try.func11, Try.ntmps11
  dsimp only [List.append_eq, List.cons_append, List.nil_append]
  go_wp2_with (first
    | go_skip
    | ((try with_reducible rw [← HW.out]); refine wpList_load_mid rfl 24 _ rfl w.heap.size 0 rfl SA _ HFA.out.src Try.underlying24 rfl HZ.out.1 ?_)
    | (refine wpList_load_mid rfl 24 _ rfl (w.heap.size + 1) 0 rfl SB _ HFB.out.src Try.underlying24 rfl HZ.out.2.1 ?_)
    | (refine wpList_load_want (by kernel_rfl) 24 _ rfl w.heap.size 17 rfl DA _ HFA.out.dst Try.underlying24 rfl HZ.out.2.2.1 ?_)
    | (refine wpList_load_want (by kernel_rfl) 24 _ rfl (w.heap.size + 1) 17 rfl DB _ HFB.out.dst Try.underlying24 rfl HZ.out.2.2.2 ?_))
  try rw [Exit.noGoto_ret]
  go_ret
  exact ⟨rfl, K1.out⟩
set_option maxRecDepth 100000 in
set_option maxHeartbeats 1500000 in
theorem psame_2 (a b : Hd) (ha : a.Wf) (hb : b.Wf) (A A2 : Option Addr) (n n2 c c2 : Nat) (hl : a.dat.length = n) (hl2 : b.dat.length = n2) (hr : Rd w w.heap.size A (by_ a.dat)) (hr2 : Rd w w.heap.size A2 (by_ b.dat))  (h0 : a.src = b.src) (h1 : a.dst = b.dst) (h2 : ¬ a.pr = b.pr) :
    Calls Try.prog 11 #[hvv a (.slice A n c), hvv b (.slice A2 n2 c2)] w fun e w' => e = .returned (.bool false) ∧ ∀ S, Keeps S w w' := by
  obtain ⟨w1, hw1, k1, ba, bb, s1⟩ := box2 w (hcs a (.slice A n c)) (hcs b (.slice A2 n2 c2)) 29 29
  have fa := HF.of_blk ha ba
  have fb := HF.of_blk hb bb
  have q0 := fun W => addr_eql a.src b.src ha.s hb.s W
  rw [decide_eq_true h0] at q0
  have q1 := fun W => addr_eql a.dst b.dst ha.d hb.d W
  rw [decide_eq_true h1] at q1
  have t_pr : ((a.pr : Int) == (b.pr : Int)) = false := beq_eq_false_iff_ne.2 (by omega)
  have n_pr : ((a.pr : Int) != (b.pr : Int)) = true := bne_iff_ne.2 (by omega)
  have xa34 := fa.pr
  have xb34 := fb.pr
  have xa35 := fa.sp
  have xb35 := fb.sp
  have xa36 := fa.dp
  have xb36 := fb.dp
  have xa37 := fa.ttl
  have xb37 := fb.ttl
  have xa38 := fa.cls
  have xb38 := fb.cls
  have xa39 := fa.id
  have xb39 := fb.id
  have xa40 := fa.fl
  have xb40 := fb.fl
  have xa41 := fa.seq
  have xb41 := fb.seq
  have xa42 := fa.dat
  have xb42 := fb.dat
  
  have HZ := Lib.hid (And.intro (ad_sz ha.s) (And.intro (ad_sz hb.s) (And.intro (ad_sz ha.d) (ad_sz hb.d))))
  have HFA0 := Lib.hid fa
  have HFB0 := Lib.hid fb
  have HFA : Hid (SD w1 w.heap.size (adc a.src) (adc a.dst)) := Lib.hid ⟨fa.src, fa.dst⟩
  have HFB : Hid (SD w1 (w.heap.size + 1) (adc b.src) (adc b.dst)) := Lib.hid ⟨fb.src, fb.dst⟩
  have K1 := Lib.hid k1
  have HW := Lib.hid hw1
  unfold av at q0 q1
  unfold hvv
  clear hw1 k1 ba bb s1 fa fb ha hb hr hr2 hl hl2 h0 h1 h2 HFA0 HFB0 
  generalize hcs a (.slice A n c) = CA at *
  generalize hcs b (.slice A2 n2 c2) = CB at *
  generalize adc a.src = SA at *
  generalize adc b.src = SB at *
  generalize adc a.dst = DA at *
  generalize adc b.dst = DB at *
  go_enter Try.func11, Try.ntmps11
  dsimp only [List.append_eq, List.cons_append, List.nil_append]
  go_wp2_with (first
    | go_skip
    | ((try with_reducible rw [← HW.out]); refine wpList_load_mid rfl 24 _ rfl w.heap.size 0 rfl SA _ HFA.out.src Try.underlying24 rfl HZ.out.1 ?_)
    | (refine wpList_load_mid rfl 24 _ rfl (w.heap.size + 1) 0 rfl SB _ HFB.out.src Try.underlying24 rfl HZ.out.2.1 ?_)
    | (refine wpList_load_want (by kernel_rfl) 24 _ rfl w.heap.size 17 rfl DA _ HFA.out.dst Try.underlying24 rfl HZ.out.2.2.1 ?_)
    | (refine wpList_load_want (by kernel_rfl) 24 _ rfl (w.heap.size + 1) 17 rfl DB _ HFB.out.dst Try.underlying24 rfl HZ.out.2.2.2 ?_))
  try rw [Exit.noGoto_ret]
  go_ret
  exact ⟨rfl, K1.out⟩
set_option maxRecDepth 100000 in
set_option maxHeartbeats 1500000 in
theorem psame_3 (a b : Hd) (ha : a.Wf) (hb : b.Wf) (A A2 : Option Addr) (n n2 c c2 : Nat) (hl : a.dat.length = n) (hl2 : b.dat.length = n2) (hr : Rd w w.heap.size A (by_ a.dat)) (hr2 : Rd w w.heap.size A2 (by_ b.dat))  (h0 : a.src = b.src) (h1 : a.dst = b.dst) (h2 : a.pr = b.pr) (h3 : ¬ a.sp = b.sp) :
    Calls Try.prog 11 #[hvv a (.slice A n c), hvv b (.slice A2 n2 c2)] w fun e w' => e = .returned (.bool false) ∧ ∀ S, Keeps S w w' := by
  obtain ⟨w1, hw1, k1, ba, bb, s1⟩ := box2 w (hcs a (.slice A n c)) (hcs b (.slice A2 n2 c2)) 29 29
  have fa := HF.of_blk ha ba
  have fb := HF.of_blk hb bb
  have q0 := fun W => addr_eql a.src b.src ha.s hb.s W
  rw [decide_eq_true h0] at q0
  have q1 := fun W => addr_eql a.dst b.dst ha.d hb.d W
  rw [decide_eq_true h1] at q1
  have t_pr : ((a.pr : Int) == (b.pr : Int)) = true := beq_iff_eq.2 (by omega)
  have n_pr : ((a.pr : Int) != (b.pr : Int)) = false := by rw [bne_eq_false_iff_eq]; omega
  have t_sp : ((a.sp : Int) == (b.sp : Int)) = false := beq_eq_false_iff_ne.2 (by omega)
  have n_sp : ((a.sp : Int) != (b.sp : Int)) = true := bne_iff_ne.2 (by omega)
  have xa34 := fa.pr
  have xb34 := fb.pr
  have xa35 := fa.sp
  have xb35 := fb.sp
  have xa36 := fa.dp
  have xb36 := fb.dp
  have xa37 := fa.ttl
  have xb37 := fb.ttl
  have xa38 := fa.cls
  have xb38 := fb.cls
  have xa39 := fa.id
  have xb39 := fb.id
  have xa40 := fa.fl
  have xb40 := fb.fl
  have xa41 := fa.seq
  have xb41 := fb.seq
  have xa42 := fa.dat
  have xb42 := fb.dat
  
  have HZ := Lib.hid (And.intro (ad_sz ha.s) (And.intro (ad_sz hb.s) (And.intro (ad_sz ha.d) (ad_sz hb.d))))
  have HFA0 := Lib.hid fa
  have HFB0 := Lib.hid fb
  have HFA : Hid (SD w1 w.heap.size (adc a.src) (adc a.dst)) := Lib.hid ⟨fa.src, fa.dst⟩
  have HFB : Hid (SD w1 (w.heap.size + 1) (adc b.src) (adc b.dst)) := Lib.hid ⟨fb.src, fb.dst⟩
  have K1 := Lib.hid k1
  have HW := Lib.hid hw1
  unfold av at q0 q1
  unfold hvv
  clear hw1 k1 ba bb s1 fa fb ha hb hr hr2 hl hl2 h0 h1 h2 h3 HFA0 HFB0 
  generalize hcs a (.slice A n c) = CA at *
  generalize hcs b (.slice A2 n2 c2) = CB at *
  generalize adc a.src = SA at *
  generalize adc b.src = SB at *
  generalize adc a.dst = DA at *
  generalize adc b.dst = DB at *
  go_enter Try.func11, Try.ntmps11
  dsimp only [List.append_eq, List.cons_append, List.nil_append]
  go_wp2_with (first
    | go_skip
    | ((try with_reducible rw [← HW.out]); refine wpList_load_mid rfl 24 _ rfl w.heap.size 0 rfl SA _ HFA.out.src Try.underlying24 rfl HZ.out.1 ?_)
    | (refine wpList_load_mid rfl 24 _ rfl (w.heap.size + 1) 0 rfl SB _ HFB.out.src Try.underlying24 rfl HZ.out.2.1 ?_)
    | (refine wpList_load_want (by kernel_rfl) 24 _ rfl w.heap.size 17 rfl DA _ HFA.out.dst Try.underlying24 rfl HZ.out.2.2.1 ?_)
    | (refine wpList_load_want (by kernel_rfl) 24 _ rfl (w.heap.size + 1) 17 rfl DB _ HFB.out.dst Try.underlying24 rfl HZ.out.2.2.2 ?_))
  try rw [Exit.noGoto_ret]
  go_ret
  exact ⟨rfl, K1.out⟩
set_option maxRecDepth 100000 in
set_option maxHeartbeats 1500000 in
theorem psame_4 (a b : Hd) (ha : a.Wf) (hb : b.Wf) (A A2 : Option Addr) (n n2 c c2 : Nat) (hl : a.dat.length = n) (hl2 : b.dat.length = n2) (hr : Rd w w.heap.size A (by_ a.dat)) (hr2 : Rd w w.heap.size A2 (by_ b.dat))  (h0 : a.src = b.src) (h1 : a.dst = b.dst) (h2 : a.pr = b.pr) (h3 : a.sp = b.sp) (h4 : ¬ a.dp = b.dp) :
    Calls Try.prog 11 #[hvv a (.slice A n c), hvv b (.slice A2 n2 c2)] w fun e w' => e = .returned (.bool false) ∧ ∀ S, Keeps S w w' := by
  obtain ⟨w1, hw1, k1, ba, bb, s1⟩ := box2 w (hcs a (.slice A n c)) (hcs b (.slice A2 n2 c2)) 29 29
  have fa := HF.of_blk ha ba
  have fb := HF.of_blk hb bb
  have q0 := fun W => addr_eql a.src b.src ha.s hb.s W
  rw [decide_eq_true h0] at q0
  have q1 := fun W => addr_eql a.dst b.dst ha.d hb.d W
  rw [decide_eq_true h1] at q1
  have t_pr : ((a.pr : Int) == (b.pr : Int)) = true := beq_iff_eq.2 (by omega)
  have n_pr : ((a.pr : Int) != (b.pr : Int)) = false := by rw [bne_eq_false_iff_eq]; omega
  have t_sp : ((a.sp : Int) == (b.sp : Int)) = true := beq_iff_eq.2 (by omega)
  have n_sp : ((a.sp : Int) != (b.sp : Int)) = false := by rw [bne_eq_false_iff_eq]; omega
  have t_dp : ((a.dp : Int) == (b.dp : Int)) = false := beq_eq_false_iff_ne.2 (by omega)
  have n_dp : ((a.dp : Int) != (b.dp : Int)) = true := bne_iff_ne.2 (by omega)
  have xa34 := fa.pr
  have xb34 := fb.pr
  have xa35 := fa.sp
  have xb35 := fb.sp
  have xa36 := fa.dp
  have xb36 := fb.dp
  have xa37 := fa.ttl
  have xb37 := fb.ttl
  have xa38 := fa.cls
  have xb38 := fb.cls
  have xa39 := fa.id
  have xb39 := fb.id
  have xa40 := fa.fl
  have xb40 := fb.fl
  have xa41 := fa.seq
  have xb41 := fb.seq
  have xa42 := fa.dat
  have xb42 := fb.dat
  
  have HZ := Lib.hid (And.intro (ad_sz ha.s) (And.intro (ad_sz hb.s) (And.intro (ad_sz ha.d) (ad_sz hb.d))))
  have HFA0 := Lib.hid fa
  have HFB0 := Lib.hid fb
  have HFA : Hid (SD w1 w.heap.size (adc a.src) (adc a.dst)) := Lib.hid ⟨fa.src, fa.dst⟩
  have HFB : Hid (SD w1 (w.heap.size + 1) (adc b.src) (adc b.dst)) := Lib.hid ⟨fb.src, fb.dst⟩
  have K1 := Lib.hid k1
  have HW := Lib.hid hw1
  unfold av at q0 q1
  unfold hvv
  clear hw1 k1 ba bb s1 fa fb ha hb hr hr2 hl hl2 h0 h1 h2 h3 h4 HFA0 HFB0 
  generalize hcs a (.slice A n c) = CA at *
  generalize hcs b (.slice A2 n2 c2) = CB at *
  generalize adc a.src = SA at *
  generalize adc b.src = SB at *
  generalize adc a.dst = DA at *
  generalize adc b.dst = DB at *
  go_enter Try.func11, Try.ntmps11
  dsimp only [List.append_eq, List.cons_append, List.nil_append]
  go_wp2_with (first
    | go_skip
    | ((try with_reducible rw [← HW.out]); refine wpList_load_mid rfl 24 _ rfl w.heap.size 0 rfl SA _ HFA.out.src Try.underlying24 rfl HZ.out.1 ?_)
    | (refine wpList_load_mid rfl 24 _ rfl (w.heap.size + 1) 0 rfl SB _ HFB.out.src Try.underlying24 rfl HZ.out.2.1 ?_)
    | (refine wpList_load_want (by kernel_rfl) 24 _ rfl w.heap.size 17 rfl DA _ HFA.out.dst Try.underlying24 rfl HZ.out.2.2.1 ?_)
    | (refine wpList_load_want (by kernel_rfl) 24 _ rfl (w.heap.size + 1) 17 rfl DB _ HFB.out.dst Try.underlying24 rfl HZ.out.2.2.2 ?_))
  try rw [Exit.noGoto_ret]
  go_ret
  exact ⟨rfl, K1.out⟩
set_option maxRecDepth 100000 in
set_option maxHeartbeats 1500000 in
theorem psame_5 (a b : Hd) (ha : a.Wf) (hb : b.Wf) (A A2 : Option Addr) (n n2 c c2 : Nat) (hl : a.dat.length = n) (hl2 : b.dat.length = n2) (hr : Rd w w.heap.size A (by_ a.dat)) (hr2 : Rd w w.heap.size A2 (by_ b.dat))  (h0 : a.src = b.src) (h1 : a.dst = b.dst) (h2 : a.pr = b.pr) (h3 : a.sp = b.sp) (h4 : a.dp = b.dp) (h5 : ¬ a.ttl = b.ttl) :
    Calls Try.prog 11 #[hvv a (.slice A n c), hvv b (.slice A2 n2 c2)] w fun e w' => e = .returned (.bool false) ∧ ∀ S, Keeps S w w' := by
  obtain ⟨w1, hw1, k1, ba, bb, s1⟩ := box2 w (hcs a (.slice A n c)) (hcs b (.slice A2 n2 c2)) 29 29
  have fa := HF.of_blk ha ba
  have fb := HF.of_blk hb bb
  have q0 := fun W => addr_eql a.src b.src ha.s hb.s W
  rw [decide_eq_true h0] at q0
  have q1 := fun W => addr_eql a.dst b.dst ha.d hb.d W
  rw [decide_eq_true h1] at q1
  have t_pr : ((a.pr : Int) == (b.pr : Int)) = true := beq_iff_eq.2 (by omega)
  have n_pr : ((a.pr : Int) != (b.pr : Int)) = false := by rw [bne_eq_false_iff_eq]; omega
  have t_sp : ((a.sp : Int) == (b.sp : Int)) = true := beq_iff_eq.2 (by omega)
  have n_sp : ((a.sp : Int) != (b.sp : Int)) = false := by rw [bne_eq_false_iff_eq]; omega
  have t_dp : ((a.dp : Int) == (b.dp : Int)) = true := beq_iff_eq.2 (by omega)
  have n_dp : ((a.dp : Int) != (b.dp : Int)) = false := by rw [bne_eq_false_iff_eq]; omega
  have t_ttl : ((a.ttl : Int) == (b.ttl : Int)) = false := beq_eq_false_iff_ne.2 (by omega)
  have n_ttl : ((a.ttl : Int) != (b.ttl : Int)) = true := bne_iff_ne.2 (by omega)
  have xa34 := fa.pr
  have xb34 := fb.pr
  have xa35 := fa.sp
  have xb35 := fb.sp
  have xa36 := fa.dp
  have xb36 := fb.dp
  have xa37 := fa.ttl
  have xb37 := fb.ttl
  have xa38 := fa.cls
  have xb38 := fb.cls
  have xa39 := fa.id
  have xb39 := fb.id
  have xa40 := fa.fl
  have xb40 := fb.fl
  have xa41 := fa.seq
  have xb41 := fb.seq
  have xa42 := fa.dat
  have xb42 := fb.dat
  
  have HZ := Lib.hid (And.intro (ad_sz ha.s) (And.intro (ad_sz hb.s) (And.intro (ad_sz ha.d) (ad_sz hb.d))))
  have HFA0 := Lib.hid fa
  have HFB0 := Lib.hid fb
  have HFA : Hid (SD w1 w.heap.size (adc a.src) (adc a.dst)) := Lib.hid ⟨fa.src, fa.dst⟩
  have HFB : Hid (SD w1 (w.heap.size + 1) (adc b.src) (adc b.dst)) := Lib.hid ⟨fb.src, fb.dst⟩
  have K1 := Lib.hid k1
  have HW := Lib.hid hw1
  unfold av at q0 q1
  unfold hvv
  clear hw1 k1 ba bb s1 fa fb ha hb hr hr2 hl hl2 h0 h1 h2 h3 h4 h5 HFA0 HFB0 
  generalize hcs a (.slice A n c) = CA at *
  generalize hcs b (.slice A2 n2 c2) = CB at *
  generalize adc a.src = SA at *
  generalize adc b.src = SB at *
  generalize adc a.dst = DA at *
  generalize adc b.dst = DB at *
  go_enter Try.func11, Try.ntmps11
  dsimp only [List.append_eq, List.cons_append, List.nil_append]
  go_wp2_with (first
    | go_skip
    | ((try with_reducible rw [← HW.out]); refine wpList_load_mid rfl 24 _ rfl w.heap.size 0 rfl SA _ HFA.out.src Try.underlying24 rfl HZ.out.1 ?_)
    | (refine wpList_load_mid rfl 24 _ rfl (w.heap.size + 1) 0 rfl SB _ HFB.out.src Try.underlying24 rfl HZ.out.2.1 ?_)
    | (refine wpList_load_want (by kernel_rfl) 24 _ rfl w.heap.size 17 rfl DA _ HFA.out.dst Try.underlying24 rfl HZ.out.2.2.1 ?_)
    | (refine wpList_load_want (by kernel_rfl) 24 _ rfl (w.heap.size + 1) 17 rfl DB _ HFB.out.dst Try.underlying24 rfl HZ.out.2.2.2 ?_))
  try rw [Exit.noGoto_ret]
  go_ret
  exact ⟨rfl, K1.out⟩
set_option maxRecDepth 100000 in
set_option maxHeartbeats 1500000 in
theorem psame_6 (a b : Hd) (ha : a.Wf) (hb : b.Wf) (A A2 : Option Addr) (n n2 c c2 : Nat) (hl : a.dat.length = n) (hl2 : b.dat.length = n2) (hr : Rd w w.heap.size A (by_ a.dat)) (hr2 : Rd w w.heap.size A2 (by_ b.dat))  (h0 : a.src = b.src) (h1 : a.dst = b.dst) (h2 : a.pr = b.pr) (h3 : a.sp = b.sp) (h4 : a.dp = b.dp) (h5 : a.ttl = b.ttl) (h6 : ¬ a.cls = b.cls) :
    Calls Try.prog 11 #[hvv a (.slice A n c), hvv b (.slice A2 n2 c2)] w fun e w' => e = .returned (.bool false) ∧ ∀ S, Keeps S w w' := by
  obtain ⟨w1, hw1, k1, ba, bb, s1⟩ := box2 w (hcs a (.slice A n c)) (hcs b (.slice A2 n2 c2)) 29 29
  have fa := HF.of_blk ha ba
  have fb := HF.of_blk hb bb
  have q0 := fun W => addr_eql a.src b.src ha.s hb.s W
  rw [decide_eq_true h0] at q0
  have q1 := fun W => addr_eql a.dst b.dst ha.d hb.d W
  rw [decide_eq_true h1] at q1
  have t_pr : ((a.pr : Int) == (b.pr : Int)) = true := beq_iff_eq.2 (by omega)
  have n_pr : ((a.pr : Int) != (b.pr : Int)) = false := by rw [bne_eq_false_iff_eq]; omega
  have t_sp : ((a.sp : Int) == (b.sp : Int)) = true := beq_iff_eq.2 (by omega)
  have n_sp : ((a.sp : Int) != (b.sp : Int)) = false := by rw [bne_eq_false_iff_eq]; omega
  have t_dp : ((a.dp : Int) == (b.dp : Int)) = true := beq_iff_eq.2 (by omega)
  have n_dp : ((a.dp : Int) != (b.dp : Int)) = false := by rw [bne_eq_false_iff_eq]; omega
  have t_ttl : ((a.ttl : Int) == (b.ttl : Int)) = true := beq_iff_eq.2 (by omega)
  have n_ttl : ((a.ttl : Int) != (b.ttl : Int)) = false := by rw [bne_eq_false_iff_eq]; omega
  have t_cls : ((a.cls : Int) == (b.cls : Int)) = false := beq_eq_false_iff_ne.2 (by omega)
  have n_cls : ((a.cls : Int) != (b.cls : Int)) = true := bne_iff_ne.2 (by omega)
  have xa34 := fa.pr
  have xb34 := fb.pr
  have xa35 := fa.sp
  have xb35 := fb.sp
  have xa36 := fa.dp
  have xb36 := fb.dp
  have xa37 := fa.ttl
  have xb37 := fb.ttl
  have xa38 := fa.cls
  have xb38 := fb.cls
  have xa39 := fa.id
  have xb39 := fb.id
  have xa40 := fa.fl
  have xb40 := fb.fl
  have xa41 := fa.seq
  have xb41 := fb.seq
  have xa42 := fa.dat
  have xb42 := fb.dat
  
  have HZ := Lib.hid (And.intro (ad_sz ha.s) (And.intro (ad_sz hb.s) (And.intro (ad_sz ha.d) (ad_sz hb.d))))
  have HFA0 := Lib.hid fa
  have HFB0 := Lib.hid fb
  have HFA : Hid (SD w1 w.heap.size (adc a.src) (adc a.dst)) := Lib.hid ⟨fa.src, fa.dst⟩
  have HFB : Hid (SD w1 (w.heap.size + 1) (adc b.src) (adc b.dst)) := Lib.hid ⟨fb.src, fb.dst⟩
  have K1 := Lib.hid k1
  have HW := Lib.hid hw1
  unfold av at q0 q1
  unfold hvv
  clear hw1 k1 ba bb s1 fa fb ha hb hr hr2 hl hl2 h0 h1 h2 h3 h4 h5 h6 HFA0 HFB0 
  generalize hcs a (.slice A n c) = CA at *
  generalize hcs b (.slice A2 n2 c2) = CB at *
  generalize adc a.src = SA at *
  generalize adc b.src = SB at *
  generalize adc a.dst = DA at *
  generalize adc b.dst = DB at *
  go_enter Try.func11, Try.ntmps11
  dsimp only [List.append_eq, List.cons_append, List.nil_append]
  go_wp2_with (first
    | go_skip
    | ((try with_reducible rw [← HW.out]); refine wpList_load_mid rfl 24 _ rfl w.heap.size 0 rfl SA _ HFA.out.src Try.underlying24 rfl HZ.out.1 ?_)
    | (refine wpList_load_mid rfl 24 _ rfl (w.heap.size + 1) 0 rfl SB _ HFB.out.src Try.underlying24 rfl HZ.out.2.1 ?_)
    | (refine wpList_load_want (by kernel_rfl) 24 _ rfl w.heap.size 17 rfl DA _ HFA.out.dst Try.underlying24 rfl HZ.out.2.2.1 ?_)
    | (refine wpList_load_want (by kernel_rfl) 24 _ rfl (w.heap.size + 1) 17 rfl DB _ HFB.out.dst Try.underlying24 rfl HZ.out.2.2.2 ?_))
  try rw [Exit.noGoto_ret]
  go_ret
  exact ⟨rfl, K1.out⟩
set_option maxRecDepth 100000 in
set_option maxHeartbeats 1500000 in
theorem psame_7 (a b : Hd) (ha : a.Wf) (hb : b.Wf) (A A2 : Option Addr) (n n2 c c2 : Nat) (hl : a.dat.length = n) (hl2 : b.dat.length = n2) (hr : Rd w w.heap.size A (by_ a.dat)) (hr2 : Rd w w.heap.size A2 (by_ b.dat))  (h0 : a.src = b.src) (h1 : a.dst = b.dst) (h2 : a.pr = b.pr) (h3 : a.sp = b.sp) (h4 : a.dp = b.dp) (h5 : a.ttl = b.ttl) (h6 : a.cls = b.cls) (h7 : ¬ a.id = b.id) :
    Calls Try.prog 11 #[hvv a (.slice A n c), hvv b (.slice A2 n2 c2)] w fun e w' => e = .returned (.bool false) ∧ ∀ S, Keeps S w w' := by
  obtain ⟨w1, hw1, k1, ba, bb, s1⟩ := box2 w (hcs a (.slice A n c)) (hcs b (.slice A2 n2 c2)) 29 29
  have fa := HF.of_blk ha ba
  have fb := HF.of_blk hb bb
  have q0 := fun W => addr_eql a.src b.src ha.s hb.s W
  rw [decide_eq_true h0] at q0
  have q1 := fun W => addr_eql a.dst b.dst ha.d hb.d W
  rw [decide_eq_true h1] at q1
  have t_pr : ((a.pr : Int) == (b.pr : Int)) = true := beq_iff_eq.2 (by omega)
  have n_pr : ((a.pr : Int) != (b.pr : Int)) = false := by rw [bne_eq_false_iff_eq]; omega
  have t_sp : ((a.sp : Int) == (b.sp : Int)) = true := beq_iff_eq.2 (by omega)
  have n_sp : ((a.sp : Int) != (b.sp : Int)) = false := by rw [bne_eq_false_iff_eq]; omega
  have t_dp : ((a.dp : Int) == (b.dp : Int)) = true := beq_iff_eq.2 (by omega)
  have n_dp : ((a.dp : Int) != (b.dp : Int)) = false := by rw [bne_eq_false_iff_eq]; omega
  have t_ttl : ((a.ttl : Int) == (b.ttl : Int)) = true := beq_iff_eq.2 (by omega)
  have n_ttl : ((a.ttl : Int) != (b.ttl : Int)) = false := by rw [bne_eq_false_iff_eq]; omega
  have t_cls : ((a.cls : Int) == (b.cls : Int)) = true := beq_iff_eq.2 (by omega)
  have n_cls : ((a.cls : Int) != (b.cls : Int)) = false := by rw [bne_eq_false_iff_eq]; omega
  have t_id : ((a.id : Int) == (b.id : Int)) = false := beq_eq_false_iff_ne.2 (by omega)
  have n_id : ((a.id : Int) != (b.id : Int)) = true := bne_iff_ne.2 (by omega)
  have xa34 := fa.pr
  have xb34 := fb.pr
  have xa35 := fa.sp
  have xb35 := fb.sp
  have xa36 := fa.dp
  have xb36 := fb.dp
  have xa37 := fa.ttl
  have xb37 := fb.ttl
  have xa38 := fa.cls
  have xb38 := fb.cls
  have xa39 := fa.id
  have xb39 := fb.id
  have xa40 := fa.fl
  have xb40 := fb.fl
  have xa41 := fa.seq
  have xb41 := fb.seq
  have xa42 := fa.dat
  have xb42 := fb.dat
  
  have HZ := Lib.hid (And.intro (ad_sz ha.s) (And.intro (ad_sz hb.s) (And.intro (ad_sz ha.d) (ad_sz hb.d))))
  have HFA0 := Lib.hid fa
  have HFB0 := Lib.hid fb
  have HFA : Hid (SD w1 w.heap.size (adc a.src) (adc a.dst)) := Lib.hid ⟨fa.src, fa.dst⟩
  have HFB : Hid (SD w1 (w.heap.size + 1) (adc b.src) (adc b.dst)) := Lib.hid ⟨fb.src, fb.dst⟩
  have K1 := Lib.hid k1
  have HW := Lib.hid hw1
  unfold av at q0 q1
  unfold hvv
  clear hw1 k1 ba bb s1 fa fb ha hb hr hr2 hl hl2 h0 h1 h2 h3 h4 h5 h6 h7 HFA0 HFB0 
  generalize hcs a (.slice A n c) = CA at *
  generalize hcs b (.slice A2 n2 c2) = CB at *
  generalize adc a.src = SA at *
  generalize adc b.src = SB at *
  generalize adc a.dst = DA at *
  generalize adc b.dst = DB at *
  go_enter Try.func11, Try.ntmps11
  dsimp only [List.append_eq, List.cons_append, List.nil_append]
  go_wp2_with (first
    | go_skip
    | ((try with_reducible rw [← HW.out]); refine wpList_load_mid rfl 24 _ rfl w.heap.size 0 rfl SA _ HFA.out.src Try.underlying24 rfl HZ.out.1 ?_)
    | (refine wpList_load_mid rfl 24 _ rfl (w.heap.size + 1) 0 rfl SB _ HFB.out.src Try.underlying24 rfl HZ.out.2.1 ?_)
    | (refine wpList_load_want (by kernel_rfl) 24 _ rfl w.heap.size 17 rfl DA _ HFA.out.dst Try.underlying24 rfl HZ.out.2.2.1 ?_)
    | (refine wpList_load_want (by kernel_rfl) 24 _ rfl (w.heap.size + 1) 17 rfl DB _ HFB.out.dst Try.underlying24 rfl HZ.out.2.2.2 ?_))
  try rw [Exit.noGoto_ret]
  go_ret
  exact ⟨rfl, K1.out⟩
set_option maxRecDepth 100000 in
set_option maxHeartbeats 1500000 in
theorem psame_8 (a b : Hd) (ha : a.Wf) (hb : b.Wf) (A A2 : Option Addr) (n n2 c c2 : Nat) (hl : a.dat.length = n) (hl2 : b.dat.length = n2) (hr : Rd w w.heap.size A (by_ a.dat)) (hr2 : Rd w w.heap.size A2 (by_ b.dat))  (h0 : a.src = b.src) (h1 : a.dst = b.dst) (h2 : a.pr = b.pr) (h3 : a.sp = b.sp) (h4 : a.dp = b.dp) (h5 : a.ttl = b.ttl) (h6 : a.cls = b.cls) (h7 : a.id = b.id) (h8 : ¬ a.fl = b.fl) :
    Calls Try.prog 11 #[hvv a (.slice A n c), hvv b (.slice A2 n2 c2)] w fun e w' => e = .returned (.bool false) ∧ ∀ S, Keeps S w w' := by
  obtain ⟨w1, hw1, k1, ba, bb, s1⟩ := box2 w (hcs a (.slice A n c)) (hcs b (.slice A2 n2 c2)) 29 29
  have fa := HF.of_blk ha ba
  have fb := HF.of_blk hb bb
  have q0 := fun W => addr_eql a.src b.src ha.s hb.s W
  rw [decide_eq_true h0] at q0
  have q1 := fun W => addr_eql a.dst b.dst ha.d hb.d W
  rw [decide_eq_true h1] at q1
  have t_pr : ((a.pr : Int) == (b.pr : Int)) = true := beq_iff_eq.2 (by omega)
  have n_pr : ((a.pr : Int) != (b.pr : Int)) = false := by rw [bne_eq_false_iff_eq]; omega
  have t_sp : ((a.sp : Int) == (b.sp : Int)) = true := beq_iff_eq.2 (by omega)
  have n_sp : ((a.sp : Int) != (b.sp : Int)) = false := by rw [bne_eq_false_iff_eq]; omega
  have t_dp : ((a.dp : Int) == (b.dp : Int)) = true := beq_iff_eq.2 (by omega)
  have n_dp : ((a.dp : Int) != (b.dp : Int)) = false := by rw [bne_eq_false_iff_eq]; omega
  have t_ttl : ((a.ttl : Int) == (b.ttl : Int)) = true := beq_iff_eq.2 (by omega)
  have n_ttl : ((a.ttl : Int) != (b.ttl : Int)) = false := by rw [bne_eq_false_iff_eq]; omega
  have t_cls : ((a.cls : Int) == (b.cls : Int)) = true := beq_iff_eq.2 (by omega)
  have n_cls : ((a.cls : Int) != (b.cls : Int)) = false := by rw [bne_eq_false_iff_eq]; omega
  have t_id : ((a.id : Int) == (b.id : Int)) = true := beq_iff_eq.2 (by omega)
  have n_id : ((a.id : Int) != (b.id : Int)) = false := by rw [bne_eq_false_iff_eq]; omega
  have t_fl : ((a.fl : Int) == (b.fl : Int)) = false := beq_eq_false_iff_ne.2 (by omega)
  have n_fl : ((a.fl : Int) != (b.fl : Int)) = true := bne_iff_ne.2 (by omega)
  have xa34 := fa.pr
  have xb34 := fb.pr
  have xa35 := fa.sp
  have xb35 := fb.sp
  have xa36 := fa.dp
  have xb36 := fb.dp
  have xa37 := fa.ttl
  have xb37 := fb.ttl
  have xa38 := fa.cls
  have xb38 := fb.cls
  have xa39 := fa.id
  have xb39 := fb.id
  have xa40 := fa.fl
  have xb40 := fb.fl
  have xa41 := fa.seq
  have xb41 := fb.seq
  have xa42 := fa.dat
  have xb42 := fb.dat
  
  have HZ := Lib.hid (And.intro (ad_sz ha.s) (And.intro (ad_sz hb.s) (And.intro (ad_sz ha.d) (ad_sz hb.d))))
  have HFA0 := Lib.hid fa
  have HFB0 := Lib.hid fb
  have HFA : Hid (SD w1 w.heap.size (adc a.src) (adc a.dst)) := Lib.hid ⟨fa.src, fa.dst⟩
  have HFB : Hid (SD w1 (w.heap.size + 1) (adc b.src) (adc b.dst)) := Lib.hid ⟨fb.src, fb.dst⟩
  have K1 := Lib.hid k1
  have HW := Lib.hid hw1
  unfold av at q0 q1
  unfold hvv
  clear hw1 k1 ba bb s1 fa fb ha hb hr hr2 hl hl2 h0 h1 h2 h3 h4 h5 h6 h7 h8 HFA0 HFB0 
  generalize hcs a (.slice A n c) = CA at *
  generalize hcs b (.slice A2 n2 c2) = CB at *
  generalize adc a.src = SA at *
  generalize adc b.src = SB at *
  generalize adc a.dst = DA at *
  generalize adc b.dst = DB at *
  go_enter Try.func11, Try.ntmps11
  dsimp only [List.append_eq, List.cons_append, List.nil_append]
  go_wp2_with (first
    | go_skip
    | ((try with_reducible rw [← HW.out]); refine wpList_load_mid rfl 24 _ rfl w.heap.size 0 rfl SA _ HFA.out.src Try.underlying24 rfl HZ.out.1 ?_)
    | (refine wpList_load_mid rfl 24 _ rfl (w.heap.size + 1) 0 rfl SB _ HFB.out.src Try.underlying24 rfl HZ.out.2.1 ?_)
    | (refine wpList_load_want (by kernel_rfl) 24 _ rfl w.heap.size 17 rfl DA _ HFA.out.dst Try.underlying24 rfl HZ.out.2.2.1 ?_)
    | (refine wpList_load_want (by kernel_rfl) 24 _ rfl (w.heap.size + 1) 17 rfl DB _ HFB.out.dst Try.underlying24 rfl HZ.out.2.2.2 ?_))
  try rw [Exit.noGoto_ret]
  go_ret
  exact ⟨rfl, K1.out⟩
set_option maxRecDepth 100000 in
set_option maxHeartbeats 1500000 in
theorem psame_9 (a b : Hd) (ha : a.Wf) (hb : b.Wf) (A A2 : Option Addr) (n n2 c c2 : Nat) (hl : a.dat.length = n) (hl2 : b.dat.length = n2) (hr : Rd w w.heap.size A (by_ a.dat)) (hr2 : Rd w w.heap.size A2 (by_ b.dat))  (h0 : a.src = b.src) (h1 : a.dst = b.dst) (h2 : a.pr = b.pr) (h3 : a.sp = b.sp) (h4 : a.dp = b.dp) (h5 : a.ttl = b.ttl) (h6 : a.cls = b.cls) (h7 : a.id = b.id) (h8 : a.fl = b.fl) (h9 : ¬ a.seq = b.seq) :
    Calls Try.prog 11 #[hvv a (.slice A n c), hvv b (.slice A2 n2 c2)] w fun e w' => e = .returned (.bool false) ∧ ∀ S, Keeps S w w' := by
  obtain ⟨w1, hw1, k1, ba, bb, s1⟩ := box2 w (hcs a (.slice A n c)) (hcs b (.slice A2 n2 c2)) 29 29
  have fa := HF.of_blk ha ba
  have fb := HF.of_blk hb bb
  have q0 := fun W => addr_eql a.src b.src ha.s hb.s W
  rw [decide_eq_true h0] at q0
  have q1 := fun W => addr_eql a.dst b.dst ha.d hb.d W
  rw [decide_eq_true h1] at q1
  have t_pr : ((a.pr : Int) == (b.pr : Int)) = true := beq_iff_eq.2 (by omega)
  have n_pr : ((a.pr : Int) != (b.pr : Int)) = false := by rw [bne_eq_false_iff_eq]; omega
  have t_sp : ((a.sp : Int) == (b.sp : Int)) = true := beq_iff_eq.2 (by omega)
  have n_sp : ((a.sp : Int) != (b.sp : Int)) = false := by rw [bne_eq_false_iff_eq]; omega
  have t_dp : ((a.dp : Int) == (b.dp : Int)) = true := beq_iff_eq.2 (by omega)
  have n_dp : ((a.dp : Int) != (b.dp : Int)) = false := by rw [bne_eq_false_iff_eq]; omega
  have t_ttl : ((a.ttl : Int) == (b.ttl : Int)) = true := beq_iff_eq.2 (by omega)
  have n_ttl : ((a.ttl : Int) != (b.ttl : Int)) = false := by rw [bne_eq_false_iff_eq]; omega
  have t_cls : ((a.cls : Int) == (b.cls : Int)) = true := beq_iff_eq.2 (by omega)
  have n_cls : ((a.cls : Int) != (b.cls : Int)) = false := by rw [bne_eq_false_iff_eq]; omega
  have t_id : ((a.id : Int) == (b.id : Int)) = true := beq_iff_eq.2 (by omega)
  have n_id : ((a.id : Int) != (b.id : Int)) = false := by rw [bne_eq_false_iff_eq]; omega
  have t_fl : ((a.fl : Int) == (b.fl : Int)) = true := beq_iff_eq.2 (by omega)
  have n_fl : ((a.fl : Int) != (b.fl : Int)) = false := by rw [bne_eq_false_iff_eq]; omega
  have t_seq : ((a.seq : Int) == (b.seq : Int)) = false := beq_eq_false_iff_ne.2 (by omega)
  have n_seq : ((a.seq : Int) != (b.seq : Int)) = true := bne_iff_ne.2 (by omega)
  have xa34 := fa.pr
  have xb34 := fb.pr
  have xa35 := fa.sp
  have xb35 := fb.sp
  have xa36 := fa.dp
  have xb36 := fb.dp
  have xa37 := fa.ttl
  have xb37 := fb.ttl
  have xa38 := fa.cls
  have xb38 := fb.cls
  have xa39 := fa.id
  have xb39 := fb.id
  have xa40 := fa.fl
  have xb40 := fb.fl
  have xa41 := fa.seq
  have xb41 := fb.seq
  have xa42 := fa.dat
  have xb42 := fb.dat
  
  have HZ := Lib.hid (And.intro (ad_sz ha.s) (And.intro (ad_sz hb.s) (And.intro (ad_sz ha.d) (ad_sz hb.d))))
  have HFA0 := Lib.hid fa
  have HFB0 := Lib.hid fb
  have HFA : Hid (SD w1 w.heap.size (adc a.src) (adc a.dst)) := Lib.hid ⟨fa.src, fa.dst⟩
  have HFB : Hid (SD w1 (w.heap.size + 1) (adc b.src) (adc b.dst)) := Lib.hid ⟨fb.src, fb.dst⟩
  have K1 := Lib.hid k1
  have HW := Lib.hid hw1
  unfold av at q0 q1
  unfold hvv
  clear hw1 k1 ba bb s1 fa fb ha hb hr hr2 hl hl2 h0 h1 h2 h3 h4 h5 h6 h7 h8 h9 HFA0 HFB0 
  generalize hcs a (.slice A n c) = CA at *
  generalize hcs b (.slice A2 n2 c2) = CB at *
  generalize adc a.src = SA at *
  generalize adc b.src = SB at *
  generalize adc a.dst = DA at *
  generalize adc b.dst = DB at *
  go_enter Try.func11, Try.ntmps11
  dsimp only [List.append_eq, List.cons_append, List.nil_append]
  go_wp2_with (first
    | go_skip
    | ((try with_reducible rw [← HW.out]); refine wpList_load_mid rfl 24 _ rfl w.heap.size 0 rfl SA _ HFA.out.src Try.underlying24 rfl HZ.out.1 ?_)
    | (refine wpList_load_mid rfl 24 _ rfl (w.heap.size + 1) 0 rfl SB _ HFB.out.src Try.underlying24 rfl HZ.out.2.1 ?_)
    | (refine wpList_load_want (by kernel_rfl) 24 _ rfl w.heap.size 17 rfl DA _ HFA.out.dst Try.underlying24 rfl HZ.out.2.2.1 ?_)
    | (refine wpList_load_want (by kernel_rfl) 24 _ rfl (w.heap.size + 1) 17 rfl DB _ HFB.out.dst Try.underlying24 rfl HZ.out.2.2.2 ?_))
  try rw [Exit.noGoto_ret]
  go_ret
  exact ⟨rfl, K1.out⟩
set_option maxRecDepth 100000 in
set_option maxHeartbeats 1500000 in
theorem psame_10 (a b : Hd) (ha : a.Wf) (hb : b.Wf) (A A2 : Option Addr) (n n2 c c2 : Nat) (hl : a.dat.length = n) (hl2 : b.dat.length = n2) (hr : Rd w w.heap.size A (by_ a.dat)) (hr2 : Rd w w.heap.size A2 (by_ b.dat)) (hA : 0 < n ∨ A = none ∨ ∃ b o, A = some ⟨b, o, none⟩) (hA2 : 0 < n2 ∨ A2 = none ∨ ∃ b o, A2 = some ⟨b, o, none⟩) (h0 : a.src = b.src) (h1 : a.dst = b.dst) (h2 : a.pr = b.pr) (h3 : a.sp = b.sp) (h4 : a.dp = b.dp) (h5 : a.ttl = b.ttl) (h6 : a.cls = b.cls) (h7 : a.id = b.id) (h8 : a.fl = b.fl) (h9 : a.seq = b.seq) :
    Calls Try.prog 11 #[hvv a (.slice A n c), hvv b (.slice A2 n2 c2)] w fun e w' => e = .returned (.bool (decide (a.dat = b.dat))) ∧ ∀ S, Keeps S w w' := by
  obtain ⟨w1, hw1, k1, ba, bb, s1⟩ := box2 w (hcs a (.slice A n c)) (hcs b (.slice A2 n2 c2)) 29 29
  have fa := HF.of_blk ha ba
  have fb := HF.of_blk hb bb
  have q0 := fun W => addr_eql a.src b.src ha.s hb.s W
  rw [decide_eq_true h0] at q0
  have q1 := fun W => addr_eql a.dst b.dst ha.d hb.d W
  rw [decide_eq_true h1] at q1
  have t_pr : ((a.pr : Int) == (b.pr : Int)) = true := beq_iff_eq.2 (by omega)
  have n_pr : ((a.pr : Int) != (b.pr : Int)) = false := by rw [bne_eq_false_iff_eq]; omega
  have t_sp : ((a.sp : Int) == (b.sp : Int)) = true := beq_iff_eq.2 (by omega)
  have n_sp : ((a.sp : Int) != (b.sp : Int)) = false := by rw [bne_eq_false_iff_eq]; omega
  have t_dp : ((a.dp : Int) == (b.dp : Int)) = true := beq_iff_eq.2 (by omega)
  have n_dp : ((a.dp : Int) != (b.dp : Int)) = false := by rw [bne_eq_false_iff_eq]; omega
  have t_ttl : ((a.ttl : Int) == (b.ttl : Int)) = true := beq_iff_eq.2 (by omega)
  have n_ttl : ((a.ttl : Int) != (b.ttl : Int)) = false := by rw [bne_eq_false_iff_eq]; omega
  have t_cls : ((a.cls : Int) == (b.cls : Int)) = true := beq_iff_eq.2 (by omega)
  have n_cls : ((a.cls : Int) != (b.cls : Int)) = false := by rw [bne_eq_false_iff_eq]; omega
  have t_id : ((a.id : Int) == (b.id : Int)) = true := beq_iff_eq.2 (by omega)
  have n_id : ((a.id : Int) != (b.id : Int)) = false := by rw [bne_eq_false_iff_eq]; omega
  have t_fl : ((a.fl : Int) == (b.fl : Int)) = true := beq_iff_eq.2 (by omega)
  have n_fl : ((a.fl : Int) != (b.fl : Int)) = false := by rw [bne_eq_false_iff_eq]; omega
  have t_seq : ((a.seq : Int) == (b.seq : Int)) = true := beq_iff_eq.2 (by omega)
  have n_seq : ((a.seq : Int) != (b.seq : Int)) = false := by rw [bne_eq_false_iff_eq]; omega
  have xa34 := fa.pr
  have xb34 := fb.pr
  have xa35 := fa.sp
  have xb35 := fb.sp
  have xa36 := fa.dp
  have xb36 := fb.dp
  have xa37 := fa.ttl
  have xb37 := fb.ttl
  have xa38 := fa.cls
  have xb38 := fb.cls
  have xa39 := fa.id
  have xb39 := fb.id
  have xa40 := fa.fl
  have xb40 := fb.fl
  have xa41 := fa.seq
  have xb41 := fb.seq
  have xa42 := fa.dat
  have xb42 := fb.dat
  have HEQ := Lib.hid (equal_ w1 A A2 a.dat b.dat n n2 c c2 _ _ hl hl2 ha.b hb.b (rd_old hr (k1 _)) (rd_old hr2 (k1 _)) hA hA2)
  have HZ := Lib.hid (And.intro (ad_sz ha.s) (And.intro (ad_sz hb.s) (And.intro (ad_sz ha.d) (ad_sz hb.d))))
  have HFA0 := Lib.hid fa
  have HFB0 := Lib.hid fb
  have HFA : Hid (SD w1 w.heap.size (adc a.src) (adc a.dst)) := Lib.hid ⟨fa.src, fa.dst⟩
  have HFB : Hid (SD w1 (w.heap.size + 1) (adc b.src) (adc b.dst)) := Lib.hid ⟨fb.src, fb.dst⟩
  have K1 := Lib.hid k1
  have HW := Lib.hid hw1
  unfold av at q0 q1
  unfold hvv
  clear hw1 k1 ba bb s1 fa fb ha hb hr hr2 hl hl2 h0 h1 h2 h3 h4 h5 h6 h7 h8 h9 HFA0 HFB0 hA hA2
  generalize hcs a (.slice A n c) = CA at *
  generalize hcs b (.slice A2 n2 c2) = CB at *
  generalize adc a.src = SA at *
  generalize adc b.src = SB at *
  generalize adc a.dst = DA at *
  generalize adc b.dst = DB at *
  go_enter Try.func11, Try.ntmps11
  dsimp only [List.append_eq, List.cons_append, List.nil_append]
  go_wp2_with (first
    | go_skip
    | ((try with_reducible rw [← HW.out]); refine wpList_load_mid rfl 24 _ rfl w.heap.size 0 rfl SA _ HFA.out.src Try.underlying24 rfl HZ.out.1 ?_)
    | (refine wpList_load_mid rfl 24 _ rfl (w.heap.size + 1) 0 rfl SB _ HFB.out.src Try.underlying24 rfl HZ.out.2.1 ?_)
    | (refine wpList_load_want (by kernel_rfl) 24 _ rfl w.heap.size 17 rfl DA _ HFA.out.dst Try.underlying24 rfl HZ.out.2.2.1 ?_)
    | (refine wpList_load_want (by kernel_rfl) 24 _ rfl (w.heap.size + 1) 17 rfl DB _ HFB.out.dst Try.underlying24 rfl HZ.out.2.2.2 ?_)
    | (go_at_call 30; refine HEQ.out.mono ?_; rintro e w9 ⟨rfl, rfl⟩))
  try rw [Exit.noGoto_ret]
  go_ret
  exact ⟨rfl, K1.out⟩
theorem psame_ (a b : Hd) (ha : a.Wf) (hb : b.Wf) (A A2 : Option Addr) (n n2 c c2 : Nat) (hl : a.dat.length = n) (hl2 : b.dat.length = n2) (hr : Rd w w.heap.size A (by_ a.dat)) (hr2 : Rd w w.heap.size A2 (by_ b.dat)) (hA : 0 < n ∨ A = none ∨ ∃ b o, A = some ⟨b, o, none⟩) (hA2 : 0 < n2 ∨ A2 = none ∨ ∃ b o, A2 = some ⟨b, o, none⟩) :
    Calls Try.prog 11 #[hvv a (.slice A n c), hvv b (.slice A2 n2 c2)] w fun e w' => e = .returned (.bool (sameH a b)) ∧ ∀ S, Keeps S w w' := by
  by_cases h0 : a.src = b.src
  case neg => rw [same_no (fun e => h0 (by rw [e]))]; exact psame_0 w a b ha hb A A2 n n2 c c2 hl hl2 hr hr2 h0
  by_cases h1 : a.dst = b.dst
  case neg => rw [same_no (fun e => h1 (by rw [e]))]; exact psame_1 w a b ha hb A A2 n n2 c c2 hl hl2 hr hr2 h0 h1
  by_cases h2 : a.pr = b.pr
  case neg => rw [same_no (fun e => h2 (by rw [e]))]; exact psame_2 w a b ha hb A A2 n n2 c c2 hl hl2 hr hr2 h0 h1 h2
  by_cases h3 : a.sp = b.sp
  case neg => rw [same_no (fun e => h3 (by rw [e]))]; exact psame_3 w a b ha hb A A2 n n2 c c2 hl hl2 hr hr2 h0 h1 h2 h3
  by_cases h4 : a.dp = b.dp
  case neg => rw [same_no (fun e => h4 (by rw [e]))]; exact psame_4 w a b ha hb A A2 n n2 c c2 hl hl2 hr hr2 h0 h1 h2 h3 h4
  by_cases h5 : a.ttl = b.ttl
  case neg => rw [same_no (fun e => h5 (by rw [e]))]; exact psame_5 w a b ha hb A A2 n n2 c c2 hl hl2 hr hr2 h0 h1 h2 h3 h4 h5
  by_cases h6 : a.cls = b.cls
  case neg => rw [same_no (fun e => h6 (by rw [e]))]; exact psame_6 w a b ha hb A A2 n n2 c c2 hl hl2 hr hr2 h0 h1 h2 h3 h4 h5 h6
  by_cases h7 : a.id = b.id
  case neg => rw [same_no (fun e => h7 (by rw [e]))]; exact psame_7 w a b ha hb A A2 n n2 c c2 hl hl2 hr hr2 h0 h1 h2 h3 h4 h5 h6 h7
  by_cases h8 : a.fl = b.fl
  case neg => rw [same_no (fun e => h8 (by rw [e]))]; exact psame_8 w a b ha hb A A2 n n2 c c2 hl hl2 hr hr2 h0 h1 h2 h3 h4 h5 h6 h7 h8
  by_cases h9 : a.seq = b.seq
  case neg => rw [same_no (fun e => h9 (by rw [e]))]; exact psame_9 w a b ha hb A A2 n n2 c c2 hl hl2 hr hr2 h0 h1 h2 h3 h4 h5 h6 h7 h8 h9
  have e : sameH a b = decide (a.dat = b.dat) := by
    by_cases h : a.dat = b.dat
    · rw [same_yes (Hd.eq_of h0 h1 h2 h3 h4 h5 h6 h7 h8 h9 h), decide_eq_true h]
    · rw [same_no (fun e => h (by rw [e])), decide_eq_false h]
  rw [e]
  exact psame_10 w a b ha hb A A2 n n2 c c2 hl hl2 hr hr2 hA hA2 h0 h1 h2 h3 h4 h5 h6 h7 h8 h9
end
end Go.Proofs.Ytidengmcbppcoaa.pk
