/-
  The document's own Same.
-/
import Derived.Test.YtidengmcbppcoaaPkK
import Derived.Deep.QuietTactic
import Derived.BigQuiet
set_option linter.unusedVariables false
set_option linter.unusedSimpArgs false
namespace Go.Proofs.Ytidengmcbppcoaa.pk
open Go.RowKit Go.Proofs.Ytidengmcbppcoaa.oc Go.Proofs.Ytidengmcbppcoaa.mz Go.Proofs.Ytidengmcbppcoaa.pf Go.Proofs.Ytidengmcbppcoaa.wh Go.Proofs.Ytidengmcbppcoaa.qk Go.Proofs.Ytidengmcbppcoaa.bys
theorem same_take {l m : List Nat} {k : Nat} (hl : k < l.length) (hm : k < m.length) (h : l.take k = m.take k) (e : l.getD k 0 = m.getD k 0) : l.take (k + 1) = m.take (k + 1) := by
  rw [take_snoc (getq hl), take_snoc (getq hm), h, e]
section
variable (w : World)
set_option maxRecDepth 100000 in
set_option maxHeartbeats 1500000 in
theorem rsame_0 (a b : Hd) (ha : a.Wf) (hb : b.Wf) (A A2 : Option Addr) (n n2 c c2 : Nat) (hl : a.dat.length = n) (hl2 : b.dat.length = n2) (hr : Rd w w.heap.size A (by_ a.dat)) (hr2 : Rd w w.heap.size A2 (by_ b.dat))   (h0 : ¬ a.src = b.src) :
    Calls Try.prog 12 #[hvv a (.slice A n c), hvv b (.slice A2 n2 c2)] w fun e w' => e = .returned (.bool false) ∧ ∀ S, Keeps S w w' := by
  obtain ⟨w1, hw1, k1, ba, bb, s1⟩ := box2 w (hcs a (.slice A n c)) (hcs b (.slice A2 n2 c2)) 29 29
  have fa := HF.of_blk ha ba
  have fb := HF.of_blk hb bb
  have q0 := fun W => addr_neq a.src b.src ha.s hb.s W
  rw [decide_eq_false h0] at q0
  simp only [Bool.not_true, Bool.not_false] at q0
  
  have xa34 := fa.pr
  have xb34 := fb.pr
  have xa35 := fa.sp
  have xb35 := fb.sp
  have xa36 := fa.dp
  have xb36 := fb.dp
  have xa37 := fa.ttl
  have xb37 := fb.ttl
  have xa38 := fa.cls
  have xb38 := fb.cls
  have xa39 := fa.id
  have xb39 := fb.id
  have xa40 := fa.fl
  have xb40 := fb.fl
  have xa41 := fa.seq
  have xb41 := fb.seq
  have xa42 := fa.dat
  have xb42 := fb.dat
  
  have HZ := Lib.hid (And.intro (ad_sz ha.s) (And.intro (ad_sz hb.s) (And.intro (ad_sz ha.d) (ad_sz hb.d))))
  have HFA0 := Lib.hid fa
  have HFB0 := Lib.hid fb
  have HFA : Hid (SD w1 w.heap.size (adc a.src) (adc a.dst)) := Lib.hid ⟨fa.src, fa.dst⟩
  have HFB : Hid (SD w1 (w.heap.size + 1) (adc b.src) (adc b.dst)) := Lib.hid ⟨fb.src, fb.dst⟩
  have K1 := Lib.hid k1
  have HW := Lib.hid hw1
  unfold av at q0 
  unfold hvv
  clear hw1 k1 ba bb s1 fa fb ha hb hr hr2 hl hl2 h0 HFA0 HFB0 
  generalize hcs a (.slice A n c) = CA at *
  generalize hcs b (.slice A2 n2 c2) = CB at *
  generalize adc a.src = SA at *
  generalize adc b.src = SB at *
  generalize adc a.dst = DA at *
  generalize adc b.dst = DB at *
  go_enter Try.func12, Try.ntmps12
  dsimp only [List.append_eq, List.cons_append, List.nil_append]
  go_wp2_with (first
    | go_skip
    | ((try with_reducible rw [← HW.out]); refine wpList_load_mid rfl 24 _ rfl w.heap.size 0 rfl SA _ HFA.out.src Try.underlying24 rfl HZ.out.1 ?_)
    | (refine wpList_load_mid rfl 24 _ rfl (w.heap.size + 1) 0 rfl SB _ HFB.out.src Try.underlying24 rfl HZ.out.2.1 ?_)
    | (refine wpList_load_want (by kernel_rfl) 24 _ rfl w.heap.size 17 rfl DA _ HFA.out.dst Try.underlying24 rfl HZ.out.2.2.1 ?_)
    | (refine wpList_load_want (by kernel_rfl) 24 _ rfl (w.heap.size + 1) 17 rfl DB _ HFB.out.dst Try.underlying24 rfl HZ.out.2.2.2 ?_))
  try rw [Exit.noGoto_ret]
  go_ret
  exact ⟨rfl, K1.out⟩
set_option maxRecDepth 100000 in
set_option maxHeartbeats 1500000 in
theorem rsame_1 (a b : Hd) (ha : a.Wf) (hb : b.Wf) (A A2 : Option Addr) (n n2 c c2 : Nat) (hl : a.dat.length = n) (hl2 : b.dat.length = n2) (hr : Rd w w.heap.size A (by_ a.dat)) (hr2 : Rd w w.heap.size A2 (by_ b.dat))  (h0 : a.src = b.src) (h1 : ¬ a.dst = b.dst) :
    Calls Try.prog 12 #[hvv a (.slice A n c), hvv b (.slice A2 n2 c2)] w fun e w' => e = .returned (.bool false) ∧ ∀ S, Keeps S w w' := by
  obtain ⟨w1, hw1, k1, ba, bb, s1⟩ := box2 w (hcs a (.slice A n c)) (hcs b (.slice A2 n2 c2)) 29 29
  have fa := HF.of_blk ha ba
  have fb := HF.of_blk hb bb
  have q0 := fun W => addr_neq a.src b.src ha.s hb.s W
  rw [decide_eq_true h0] at q0
  simp only [Bool.not_true, Bool.not_false] at q0
  have q1 := fun W => addr_neq a.dst b.dst ha.d hb.d W
  rw [decide_eq_false h1] at q1
  simp only [Bool.not_true, Bool.not_false] at q1
  
  have xa34 := fa.pr
  have xb34 := fb.pr
  have xa35 := fa.sp
  have xb35 := fb.sp
  have xa36 := fa.dp
  have xb36 := fb.dp
  have xa37 := fa.ttl
  have xb37 := fb.ttl
  have xa38 := fa.cls
  have xb38 := fb.cls
  have xa39 := fa.id
  have xb39 := fb.id
  have xa40 := fa.fl
  have xb40 := fb.fl
  have xa41 := fa.seq
  have xb41 := fb.seq
  have xa42 := fa.dat
  have xb42 := fb.dat
  
  have HZ := Lib.hid (And.intro (ad_sz ha.s) (And.intro (ad_sz hb.s) (And.intro (ad_sz ha.d) (ad_sz hb.d))))
  have HFA0 := Lib.hid fa
  have HFB0 := Lib.hid fb
  have HFA : Hid (SD w1 w.heap.size (adc a.src) (adc a.dst)) := Lib.hid ⟨fa.src, fa.dst⟩
  have HFB : Hid (SD w1 (w.heap.size + 1) (adc b.src) (adc b.dst)) := Lib.hid ⟨fb.src, fb.dst⟩
  have K1 := Lib.hid k1
  have HW := Lib.hid hw1
  unfold av at q0 q1
  unfold hvv
  clear hw1 k1 ba bb s1 fa fb ha hb hr hr2 hl hl2 h0 h1 HFA0 HFB0 
  generalize hcs a (.slice A n c) = CA at *
  generalize hcs b (.slice A2 n2 c2) = CB at *
  generalize adc a.src = SA at *
  generalize adc b.src = SB at *
  generalize adc a.dst = DA at *
  generalize adc b.dst = DB at *
  go_enter Try.func12, Try.ntmps12
  dsimp only [List.append_eq, List.cons_append, List.nil_append]
  go_wp2_with (first
    | go_skip
    | ((try with_reducible rw [← HW.out]); refine wpList_load_mid rfl 24 _ rfl w.heap.size 0 rfl SA _ HFA.out.src Try.underlying24 rfl HZ.out.1 ?_)
    | (refine wpList_load_mid rfl 24 _ rfl (w.heap.size + 1) 0 rfl SB _ HFB.out.src Try.underlying24 rfl HZ.out.2.1 ?_)
    | (refine wpList_load_want (by kernel_rfl) 24 _ rfl w.heap.size 17 rfl DA _ HFA.out.dst Try.underlying24 rfl HZ.out.2.2.1 ?_)
    | (refine wpList_load_want (by kernel_rfl) 24 _ rfl (w.heap.size + 1) 17 rfl DB _ HFB.out.dst Try.underlying24 rfl HZ.out.2.2.2 ?_))
  try rw [Exit.noGoto_ret]
  go_ret
  exact ⟨rfl, K1.out⟩
set_option maxRecDepth 100000 in
set_option maxHeartbeats 1500000 in
theorem rsame_2 (a b : Hd) (ha : a.Wf) (hb : b.Wf) (A A2 : Option Addr) (n n2 c c2 : Nat) (hl : a.dat.length = n) (hl2 : b.dat.length = n2) (hr : Rd w w.heap.size A (by_ a.dat)) (hr2 : Rd w w.heap.size A2 (by_ b.dat))  (h0 : a.src = b.src) (h1 : a.dst = b.dst) (h2 : ¬ a.pr = b.pr) :
    Calls Try.prog 12 #[hvv a (.slice A n c), hvv b (.slice A2 n2 c2)] w fun e w' => e = .returned (.bool false) ∧ ∀ S, Keeps S w w' := by
  obtain ⟨w1, hw1, k1, ba, bb, s1⟩ := box2 w (hcs a (.slice A n c)) (hcs b (.slice A2 n2 c2)) 29 29
  have fa := HF.of_blk ha ba
  have fb := HF.of_blk hb bb
  have q0 := fun W => addr_neq a.src b.src ha.s hb.s W
  rw [decide_eq_true h0] at q0
  simp only [Bool.not_true, Bool.not_false] at q0
  have q1 := fun W => addr_neq a.dst b.dst ha.d hb.d W
  rw [decide_eq_true h1] at q1
  simp only [Bool.not_true, Bool.not_false] at q1
  have t_pr : ((a.pr : Int) == (b.pr : Int)) = false := beq_eq_false_iff_ne.2 (by omega)
  have n_pr : ((a.pr : Int) != (b.pr : Int)) = true := bne_iff_ne.2 (by omega)
  have xa34 := fa.pr
  have xb34 := fb.pr
  have xa35 := fa.sp
  have xb35 := fb.sp
  have xa36 := fa.dp
  have xb36 := fb.dp
  have xa37 := fa.ttl
  have xb37 := fb.ttl
  have xa38 := fa.cls
  have xb38 := fb.cls
  have xa39 := fa.id
  have xb39 := fb.id
  have xa40 := fa.fl
  have xb40 := fb.fl
  have xa41 := fa.seq
  have xb41 := fb.seq
  have xa42 := fa.dat
  have xb42 := fb.dat
  
  have HZ := Lib.hid (And.intro (ad_sz ha.s) (And.intro (ad_sz hb.s) (And.intro (ad_sz ha.d) (ad_sz hb.d))))
  have HFA0 := Lib.hid fa
  have HFB0 := Lib.hid fb
  have HFA : Hid (SD w1 w.heap.size (adc a.src) (adc a.dst)) := Lib.hid ⟨fa.src, fa.dst⟩
  have HFB : Hid (SD w1 (w.heap.size + 1) (adc b.src) (adc b.dst)) := Lib.hid ⟨fb.src, fb.dst⟩
  have K1 := Lib.hid k1
  have HW := Lib.hid hw1
  unfold av at q0 q1
  unfold hvv
  clear hw1 k1 ba bb s1 fa fb ha hb hr hr2 hl hl2 h0 h1 h2 HFA0 HFB0 
  generalize hcs a (.slice A n c) = CA at *
  generalize hcs b (.slice A2 n2 c2) = CB at *
  generalize adc a.src = SA at *
  generalize adc b.src = SB at *
  generalize adc a.dst = DA at *
  generalize adc b.dst = DB at *
  go_enter Try.func12, Try.ntmps12
  dsimp only [List.append_eq, List.cons_append, List.nil_append]
  go_wp2_with (first
    | go_skip
    | ((try with_reducible rw [← HW.out]); refine wpList_load_mid rfl 24 _ rfl w.heap.size 0 rfl SA _ HFA.out.src Try.underlying24 rfl HZ.out.1 ?_)
    | (refine wpList_load_mid rfl 24 _ rfl (w.heap.size + 1) 0 rfl SB _ HFB.out.src Try.underlying24 rfl HZ.out.2.1 ?_)
    | (refine wpList_load_want (by kernel_rfl) 24 _ rfl w.heap.size 17 rfl DA _ HFA.out.dst Try.underlying24 rfl HZ.out.2.2.1 ?_)
    | (refine wpList_load_want (by kernel_rfl) 24 _ rfl (w.heap.size + 1) 17 rfl DB _ HFB.out.dst Try.underlying24 rfl HZ.out.2.2.2 ?_))
  try rw [Exit.noGoto_ret]
  go_ret
  exact ⟨rfl, K1.out⟩
set_option maxRecDepth 100000 in
set_option maxHeartbeats 1500000 in
theorem rsame_3 (a b : Hd) (ha : a.Wf) (hb : b.Wf) (A A2 : Option Addr) (n n2 c c2 : Nat) (hl : a.dat.length = n) (hl2 : b.dat.length = n2) (hr : Rd w w.heap.size A (by_ a.dat)) (hr2 : Rd w w.heap.size A2 (by_ b.dat))  (h0 : a.src = b.src) (h1 : a.dst = b.dst) (h2 : a.pr = b.pr) (h3 : ¬ a.sp = b.sp) :
    Calls Try.prog 12 #[hvv a (.slice A n c), hvv b (.slice A2 n2 c2)] w fun e w' => e = .returned (.bool false) ∧ ∀ S, Keeps S w w' := by
  obtain ⟨w1, hw1, k1, ba, bb, s1⟩ := box2 w (hcs a (.slice A n c)) (hcs b (.slice A2 n2 c2)) 29 29
  have fa := HF.of_blk ha ba
  have fb := HF.of_blk hb bb
  have q0 := fun W => addr_neq a.src b.src ha.s hb.s W
  rw [decide_eq_true h0] at q0
  simp only [Bool.not_true, Bool.not_false] at q0
  have q1 := fun W => addr_neq a.dst b.dst ha.d hb.d W
  rw [decide_eq_true h1] at q1
  simp only [Bool.not_true, Bool.not_false] at q1
  have t_pr : ((a.pr : Int) == (b.pr : Int)) = true := beq_iff_eq.2 (by omega)
  have n_pr : ((a.pr : Int) != (b.pr : Int)) = false := by rw [bne_eq_false_iff_eq]; omega
  have t_sp : ((a.sp : Int) == (b.sp : Int)) = false := beq_eq_false_iff_ne.2 (by omega)
  have n_sp : ((a.sp : Int) != (b.sp : Int)) = true := bne_iff_ne.2 (by omega)
  have xa34 := fa.pr
  have xb34 := fb.pr
  have xa35 := fa.sp
  have xb35 := fb.sp
  have xa36 := fa.dp
  have xb36 := fb.dp
  have xa37 := fa.ttl
  have xb37 := fb.ttl
  have xa38 := fa.cls
  have xb38 := fb.cls
  have xa39 := fa.id
  have xb39 := fb.id
  have xa40 := fa.fl
  have xb40 := fb.fl
  have xa41 := fa.seq
  have xb41 := fb.seq
  have xa42 := fa.dat
  have xb42 := fb.dat
  
  have HZ := Lib.hid (And.intro (ad_sz ha.s) (And.intro (ad_sz hb.s) (And.intro (ad_sz ha.d) (ad_sz hb.d))))
  have HFA0 := Lib.hid fa
  have HFB0 := Lib.hid fb
  have HFA : Hid (SD w1 w.heap.size (adc a.src) (adc a.dst)) := Lib.hid ⟨fa.src, fa.dst⟩
  have HFB : Hid (SD w1 (w.heap.size + 1) (adc b.src) (adc b.dst)) := Lib.hid ⟨fb.src, fb.dst⟩
  have K1 := Lib.hid k1
  have HW := Lib.hid hw1
  unfold av at q0 q1
  unfold hvv
  clear hw1 k1 ba bb s1 fa fb ha hb hr hr2 hl hl2 h0 h1 h2 h3 HFA0 HFB0 
  generalize hcs a (.slice A n c) = CA at *
  generalize hcs b (.slice A2 n2 c2) = CB at *
  generalize adc a.src = SA at *
  generalize adc b.src = SB at *
  generalize adc a.dst = DA at *
  generalize adc b.dst = DB at *
  go_enter Try.func12, Try.ntmps12
  dsimp only [List.append_eq, List.cons_append, List.nil_append]
  go_wp2_with (first
    | go_skip
    | ((try with_reducible rw [← HW.out]); refine wpList_load_mid rfl 24 _ rfl w.heap.size 0 rfl SA _ HFA.out.src Try.underlying24 rfl HZ.out.1 ?_)
    | (refine wpList_load_mid rfl 24 _ rfl (w.heap.size + 1) 0 rfl SB _ HFB.out.src Try.underlying24 rfl HZ.out.2.1 ?_)
    | (refine wpList_load_want (by kernel_rfl) 24 _ rfl w.heap.size 17 rfl DA _ HFA.out.dst Try.underlying24 rfl HZ.out.2.2.1 ?_)
    | (refine wpList_load_want (by kernel_rfl) 24 _ rfl (w.heap.size + 1) 17 rfl DB _ HFB.out.dst Try.underlying24 rfl HZ.out.2.2.2 ?_))
  try rw [Exit.noGoto_ret]
  go_ret
  exact ⟨rfl, K1.out⟩
set_option maxRecDepth 100000 in
set_option maxHeartbeats 1500000 in
theorem rsame_4 (a b : Hd) (ha : a.Wf) (hb : b.Wf) (A A2 : Option Addr) (n n2 c c2 : Nat) (hl : a.dat.length = n) (hl2 : b.dat.length = n2) (hr : Rd w w.heap.size A (by_ a.dat)) (hr2 : Rd w w.heap.size A2 (by_ b.dat))  (h0 : a.src = b.src) (h1 : a.dst = b.dst) (h2 : a.pr = b.pr) (h3 : a.sp = b.sp) (h4 : ¬ a.dp = b.dp) :
    Calls Try.prog 12 #[hvv a (.slice A n c), hvv b (.slice A2 n2 c2)] w fun e w' => e = .returned (.bool false) ∧ ∀ S, Keeps S w w' := by
  obtain ⟨w1, hw1, k1, ba, bb, s1⟩ := box2 w (hcs a (.slice A n c)) (hcs b (.slice A2 n2 c2)) 29 29
  have fa := HF.of_blk ha ba
  have fb := HF.of_blk hb bb
  have q0 := fun W => addr_neq a.src b.src ha.s hb.s W
  rw [decide_eq_true h0] at q0
  simp only [Bool.not_true, Bool.not_false] at q0
  have q1 := fun W => addr_neq a.dst b.dst ha.d hb.d W
  rw [decide_eq_true h1] at q1
  simp only [Bool.not_true, Bool.not_false] at q1
  have t_pr : ((a.pr : Int) == (b.pr : Int)) = true := beq_iff_eq.2 (by omega)
  have n_pr : ((a.pr : Int) != (b.pr : Int)) = false := by rw [bne_eq_false_iff_eq]; omega
  have t_sp : ((a.sp : Int) == (b.sp : Int)) = true := beq_iff_eq.2 (by omega)
  have n_sp : ((a.sp : Int) != (b.sp : Int)) = false := by rw [bne_eq_false_iff_eq]; omega
  have t_dp : ((a.dp : Int) == (b.dp : Int)) = false := beq_eq_false_iff_ne.2 (by omega)
  have n_dp : ((a.dp : Int) != (b.dp : Int)) = true := bne_iff_ne.2 (by omega)
  have xa34 := fa.pr
  have xb34 := fb.pr
  have xa35 := fa.sp
  have xb35 := fb.sp
  have xa36 := fa.dp
  have xb36 := fb.dp
  have xa37 := fa.ttl
  have xb37 := fb.ttl
  have xa38 := fa.cls
  have xb38 := fb.cls
  have xa39 := fa.id
  have xb39 := fb.id
  have xa40 := fa.fl
  have xb40 := fb.fl
  have xa41 := fa.seq
  have xb41 := fb.seq
  have xa42 := fa.dat
  have xb42 := fb.dat
  
  have HZ := Lib.hid (And.intro (ad_sz ha.s) (And.intro (ad_sz hb.s) (And.intro (ad_sz ha.d) (ad_sz hb.d))))
  have HFA0 := Lib.hid fa
  have HFB0 := Lib.hid fb
  have HFA : Hid (SD w1 w.heap.size (adc a.src) (adc a.dst)) := Lib.hid ⟨fa.src, fa.dst⟩
  have HFB : Hid (SD w1 (w.heap.size + 1) (adc b.src) (adc b.dst)) := Lib.hid ⟨fb.src, fb.dst⟩
  have K1 := Lib.hid k1
  have HW := Lib.hid hw1
  unfold av at q0 q1
  unfold hvv
  clear hw1 k1 ba bb s1 fa fb ha hb hr hr2 hl hl2 h0 h1 h2 h3 h4 HFA0 HFB0 
  generalize hcs a (.slice A n c) = CA at *
  generalize hcs b (.slice A2 n2 c2) = CB at *
  generalize adc a.src = SA at *
  generalize adc b.src = SB at *
  generalize adc a.dst = DA at *
  generalize adc b.dst = DB at *
  go_enter Try.func12, Try.ntmps12
  dsimp only [List.append_eq, List.cons_append, List.nil_append]
  go_wp2_with (first
    | go_skip
    | ((try with_reducible rw [← HW.out]); refine wpList_load_mid rfl 24 _ rfl w.heap.size 0 rfl SA _ HFA.out.src Try.underlying24 rfl HZ.out.1 ?_)
    | (refine wpList_load_mid rfl 24 _ rfl (w.heap.size + 1) 0 rfl SB _ HFB.out.src Try.underlying24 rfl HZ.out.2.1 ?_)
    | (refine wpList_load_want (by kernel_rfl) 24 _ rfl w.heap.size 17 rfl DA _ HFA.out.dst Try.underlying24 rfl HZ.out.2.2.1 ?_)
    | (refine wpList_load_want (by kernel_rfl) 24 _ rfl (w.heap.size + 1) 17 rfl DB _ HFB.out.dst Try.underlying24 rfl HZ.out.2.2.2 ?_))
  try rw [Exit.noGoto_ret]
  go_ret
  exact ⟨rfl, K1.out⟩
set_option maxRecDepth 100000 in
set_option maxHeartbeats 1500000 in
theorem rsame_5 (a b : Hd) (ha : a.Wf) (hb : b.Wf) (A A2 : Option Addr) (n n2 c c2 : Nat) (hl : a.dat.length = n) (hl2 : b.dat.length = n2) (hr : Rd w w.heap.size A (by_ a.dat)) (hr2 : Rd w w.heap.size A2 (by_ b.dat))  (h0 : a.src = b.src) (h1 : a.dst = b.dst) (h2 : a.pr = b.pr) (h3 : a.sp = b.sp) (h4 : a.dp = b.dp) (h5 : ¬ a.ttl = b.ttl) :
    Calls Try.prog 12 #[hvv a (.slice A n c), hvv b (.slice A2 n2 c2)] w fun e w' => e = .returned (.bool false) ∧ ∀ S, Keeps S w w' := by
  obtain ⟨w1, hw1, k1, ba, bb, s1⟩ := box2 w (hcs a (.slice A n c)) (hcs b (.slice A2 n2 c2)) 29 29
  have fa := HF.of_blk ha ba
  have fb := HF.of_blk hb bb
  have q0 := fun W => addr_neq a.src b.src ha.s hb.s W
  rw [decide_eq_true h0] at q0
  simp only [Bool.not_true, Bool.not_false] at q0
  have q1 := fun W => addr_neq a.dst b.dst ha.d hb.d W
  rw [decide_eq_true h1] at q1
  simp only [Bool.not_true, Bool.not_false] at q1
  have t_pr : ((a.pr : Int) == (b.pr : Int)) = true := beq_iff_eq.2 (by omega)
  have n_pr : ((a.pr : Int) != (b.pr : Int)) = false := by rw [bne_eq_false_iff_eq]; omega
  have t_sp : ((a.sp : Int) == (b.sp : Int)) = true := beq_iff_eq.2 (by omega)
  have n_sp : ((a.sp : Int) != (b.sp : Int)) = false := by rw [bne_eq_false_iff_eq]; omega
  have t_dp : ((a.dp : Int) == (b.dp : Int)) = true := beq_iff_eq.2 (by omega)
  have n_dp : ((a.dp : Int) != (b.dp : Int)) = false := by rw [bne_eq_false_iff_eq]; omega
  have t_ttl : ((a.ttl : Int) == (b.ttl : Int)) = false := beq_eq_false_iff_ne.2 (by omega)
  have n_ttl : ((a.ttl : Int) != (b.ttl : Int)) = true := bne_iff_ne.2 (by omega)
  have xa34 := fa.pr
  have xb34 := fb.pr
  have xa35 := fa.sp
  have xb35 := fb.sp
  have xa36 := fa.dp
  have xb36 := fb.dp
  have xa37 := fa.ttl
  have xb37 := fb.ttl
  have xa38 := fa.cls
  have xb38 := fb.cls
  have xa39 := fa.id
  have xb39 := fb.id
  have xa40 := fa.fl
  have xb40 := fb.fl
  have xa41 := fa.seq
  have xb41 := fb.seq
  have xa42 := fa.dat
  have xb42 := fb.dat
  
  have HZ := Lib.hid (And.intro (ad_sz ha.s) (And.intro (ad_sz hb.s) (And.intro (ad_sz ha.d) (ad_sz hb.d))))
  have HFA0 := Lib.hid fa
  have HFB0 := Lib.hid fb
  have HFA : Hid (SD w1 w.heap.size (adc a.src) (adc a.dst)) := Lib.hid ⟨fa.src, fa.dst⟩
  have HFB : Hid (SD w1 (w.heap.size + 1) (adc b.src) (adc b.dst)) := Lib.hid ⟨fb.src, fb.dst⟩
  have K1 := Lib.hid k1
  have HW := Lib.hid hw1
  unfold av at q0 q1
  unfold hvv
  clear hw1 k1 ba bb s1 fa fb ha hb hr hr2 hl hl2 h0 h1 h2 h3 h4 h5 HFA0 HFB0 
  generalize hcs a (.slice A n c) = CA at *
  generalize hcs b (.slice A2 n2 c2) = CB at *
  generalize adc a.src = SA at *
  generalize adc b.src = SB at *
  generalize adc a.dst = DA at *
  generalize adc b.dst = DB at *
  go_enter Try.func12, Try.ntmps12
  dsimp only [List.append_eq, List.cons_append, List.nil_append]
  go_wp2_with (first
    | go_skip
    | ((try with_reducible rw [← HW.out]); refine wpList_load_mid rfl 24 _ rfl w.heap.size 0 rfl SA _ HFA.out.src Try.underlying24 rfl HZ.out.1 ?_)
    | (refine wpList_load_mid rfl 24 _ rfl (w.heap.size + 1) 0 rfl SB _ HFB.out.src Try.underlying24 rfl HZ.out.2.1 ?_)
    | (refine wpList_load_want (by kernel_rfl) 24 _ rfl w.heap.size 17 rfl DA _ HFA.out.dst Try.underlying24 rfl HZ.out.2.2.1 ?_)
    | (refine wpList_load_want (by kernel_rfl) 24 _ rfl (w.heap.size + 1) 17 rfl DB _ HFB.out.dst Try.underlying24 rfl HZ.out.2.2.2 ?_))
  try rw [Exit.noGoto_ret]
  go_ret
  exact ⟨rfl, K1.out⟩
set_option maxRecDepth 100000 in
set_option maxHeartbeats 1500000 in
theorem rsame_6 (a b : Hd) (ha : a.Wf) (hb : b.Wf) (A A2 : Option Addr) (n n2 c c2 : Nat) (hl : a.dat.length = n) (hl2 : b.dat.length = n2) (hr : Rd w w.heap.size A (by_ a.dat)) (hr2 : Rd w w.heap.size A2 (by_ b.dat))  (h0 : a.src = b.src) (h1 : a.dst = b.dst) (h2 : a.pr = b.pr) (h3 : a.sp = b.sp) (h4 : a.dp = b.dp) (h5 : a.ttl = b.ttl) (h6 : ¬ a.cls = b.cls) :
    Calls Try.prog 12 #[hvv a (.slice A n c), hvv b (.slice A2 n2 c2)] w fun e w' => e = .returned (.bool false) ∧ ∀ S, Keeps S w w' := by
  obtain ⟨w1, hw1, k1, ba, bb, s1⟩ := box2 w (hcs a (.slice A n c)) (hcs b (.slice A2 n2 c2)) 29 29
  have fa := HF.of_blk ha ba
  have fb := HF.of_blk hb bb
  have q0 := fun W => addr_neq a.src b.src ha.s hb.s W
  rw [decide_eq_true h0] at q0
  simp only [Bool.not_true, Bool.not_false] at q0
  have q1 := fun W => addr_neq a.dst b.dst ha.d hb.d W
  rw [decide_eq_true h1] at q1
  simp only [Bool.not_true, Bool.not_false] at q1
  have t_pr : ((a.pr : Int) == (b.pr : Int)) = true := beq_iff_eq.2 (by omega)
  have n_pr : ((a.pr : Int) != (b.pr : Int)) = false := by rw [bne_eq_false_iff_eq]; omega
  have t_sp : ((a.sp : Int) == (b.sp : Int)) = true := beq_iff_eq.2 (by omega)
  have n_sp : ((a.sp : Int) != (b.sp : Int)) = false := by rw [bne_eq_false_iff_eq]; omega
  have t_dp : ((a.dp : Int) == (b.dp : Int)) = true := beq_iff_eq.2 (by omega)
  have n_dp : ((a.dp : Int) != (b.dp : Int)) = false := by rw [bne_eq_false_iff_eq]; omega
  have t_ttl : ((a.ttl : Int) == (b.ttl : Int)) = true := beq_iff_eq.2 (by omega)
  have n_ttl : ((a.ttl : Int) != (b.ttl : Int)) = false := by rw [bne_eq_false_iff_eq]; omega
  have t_cls : ((a.cls : Int) == (b.cls : Int)) = false := beq_eq_false_iff_ne.2 (by omega)
  have n_cls : ((a.cls : Int) != (b.cls : Int)) = true := bne_iff_ne.2 (by omega)
  have xa34 := fa.pr
  have xb34 := fb.pr
  have xa35 := fa.sp
  have xb35 := fb.sp
  have xa36 := fa.dp
  have xb36 := fb.dp
  have xa37 := fa.ttl
  have xb37 := fb.ttl
  have xa38 := fa.cls
  have xb38 := fb.cls
  have xa39 := fa.id
  have xb39 := fb.id
  have xa40 := fa.fl
  have xb40 := fb.fl
  have xa41 := fa.seq
  have xb41 := fb.seq
  have xa42 := fa.dat
  have xb42 := fb.dat
  
  have HZ := Lib.hid (And.intro (ad_sz ha.s) (And.intro (ad_sz hb.s) (And.intro (ad_sz ha.d) (ad_sz hb.d))))
  have HFA0 := Lib.hid fa
  have HFB0 := Lib.hid fb
  have HFA : Hid (SD w1 w.heap.size (adc a.src) (adc a.dst)) := Lib.hid ⟨fa.src, fa.dst⟩
  have HFB : Hid (SD w1 (w.heap.size + 1) (adc b.src) (adc b.dst)) := Lib.hid ⟨fb.src, fb.dst⟩
  have K1 := Lib.hid k1
  have HW := Lib.hid hw1
  unfold av at q0 q1
  unfold hvv
  clear hw1 k1 ba bb s1 fa fb ha hb hr hr2 hl hl2 h0 h1 h2 h3 h4 h5 h6 HFA0 HFB0 
  generalize hcs a (.slice A n c) = CA at *
  generalize hcs b (.slice A2 n2 c2) = CB at *
  generalize adc a.src = SA at *
  generalize adc b.src = SB at *
  generalize adc a.dst = DA at *
  generalize adc b.dst = DB at *
  go_enter Try.func12, Try.ntmps12
  dsimp only [List.append_eq, List.cons_append, List.nil_append]
  go_wp2_with (first
    | go_skip
    | ((try with_reducible rw [← HW.out]); refine wpList_load_mid rfl 24 _ rfl w.heap.size 0 rfl SA _ HFA.out.src Try.underlying24 rfl HZ.out.1 ?_)
    | (refine wpList_load_mid rfl 24 _ rfl (w.heap.size + 1) 0 rfl SB _ HFB.out.src Try.underlying24 rfl HZ.out.2.1 ?_)
    | (refine wpList_load_want (by kernel_rfl) 24 _ rfl w.heap.size 17 rfl DA _ HFA.out.dst Try.underlying24 rfl HZ.out.2.2.1 ?_)
    | (refine wpList_load_want (by kernel_rfl) 24 _ rfl (w.heap.size + 1) 17 rfl DB _ HFB.out.dst Try.underlying24 rfl HZ.out.2.2.2 ?_))
  try rw [Exit.noGoto_ret]
  go_ret
  exact ⟨rfl, K1.out⟩
set_option maxRecDepth 100000 in
set_option maxHeartbeats 1500000 in
theorem rsame_7 (a b : Hd) (ha : a.Wf) (hb : b.Wf) (A A2 : Option Addr) (n n2 c c2 : Nat) (hl : a.dat.length = n) (hl2 : b.dat.length = n2) (hr : Rd w w.heap.size A (by_ a.dat)) (hr2 : Rd w w.heap.size A2 (by_ b.dat))  (h0 : a.src = b.src) (h1 : a.dst = b.dst) (h2 : a.pr = b.pr) (h3 : a.sp = b.sp) (h4 : a.dp = b.dp) (h5 : a.ttl = b.ttl) (h6 : a.cls = b.cls) (h7 : ¬ a.id = b.id) :
    Calls Try.prog 12 #[hvv a (.slice A n c), hvv b (.slice A2 n2 c2)] w fun e w' => e = .returned (.bool false) ∧ ∀ S, Keeps S w w' := by
  obtain ⟨w1, hw1, k1, ba, bb, s1⟩ := box2 w (hcs a (.slice A n c)) (hcs b (.slice A2 n2 c2)) 29 29
  have fa := HF.of_blk ha ba
  have fb := HF.of_blk hb bb
  have q0 := fun W => addr_neq a.src b.src ha.s hb.s W
  rw [decide_eq_true h0] at q0
  simp only [Bool.not_true, Bool.not_false] at q0
  have q1 := fun W => addr_neq a.dst b.dst ha.d hb.d W
  rw [decide_eq_true h1] at q1
  simp only [Bool.not_true, Bool.not_false] at q1
  have t_pr : ((a.pr : Int) == (b.pr : Int)) = true := beq_iff_eq.2 (by omega)
  have n_pr : ((a.pr : Int) != (b.pr : Int)) = false := by rw [bne_eq_false_iff_eq]; omega
  have t_sp : ((a.sp : Int) == (b.sp : Int)) = true := beq_iff_eq.2 (by omega)
  have n_sp : ((a.sp : Int) != (b.sp : Int)) = false := by rw [bne_eq_false_iff_eq]; omega
  have t_dp : ((a.dp : Int) == (b.dp : Int)) = true := beq_iff_eq.2 (by omega)
  have n_dp : ((a.dp : Int) != (b.dp : Int)) = false := by rw [bne_eq_false_iff_eq]; omega
  have t_ttl : ((a.ttl : Int) == (b.ttl : Int)) = true := beq_iff_eq.2 (by omega)
  have n_ttl : ((a.ttl : Int) != (b.ttl : Int)) = false := by rw [bne_eq_false_iff_eq]; omega
  have t_cls : ((a.cls : Int) == (b.cls : Int)) = true := beq_iff_eq.2 (by omega)
  have n_cls : ((a.cls : Int) != (b.cls : Int)) = false := by rw [bne_eq_false_iff_eq]; omega
  have t_id : ((a.id : Int) == (b.id : Int)) = false := beq_eq_false_iff_ne.2 (by omega)
  have n_id : ((a.id : Int) != (b.id : Int)) = true := bne_iff_ne.2 (by omega)
  have xa34 := fa.pr
  have xb34 := fb.pr
  have xa35 := fa.sp
  have xb35 := fb.sp
  have xa36 := fa.dp
  have xb36 := fb.dp
  have xa37 := fa.ttl
  have xb37 := fb.ttl
  have xa38 := fa.cls
  have xb38 := fb.cls
  have xa39 := fa.id
  have xb39 := fb.id
  have xa40 := fa.fl
  have xb40 := fb.fl
  have xa41 := fa.seq
  have xb41 := fb.seq
  have xa42 := fa.dat
  have xb42 := fb.dat
  
  have HZ := Lib.hid (And.intro (ad_sz ha.s) (And.intro (ad_sz hb.s) (And.intro (ad_sz ha.d) (ad_sz hb.d))))
  have HFA0 := Lib.hid fa
  have HFB0 := Lib.hid fb
  have HFA : Hid (SD w1 w.heap.size (adc a.src) (adc a.dst)) := Lib.hid ⟨fa.src, fa.dst⟩
  have HFB : Hid (SD w1 (w.heap.size + 1) (adc b.src) (adc b.dst)) := Lib.hid ⟨fb.src, fb.dst⟩
  have K1 := Lib.hid k1
  have HW := Lib.hid hw1
  unfold av at q0 q1
  unfold hvv
  clear hw1 k1 ba bb s1 fa fb ha hb hr hr2 hl hl2 h0 h1 h2 h3 h4 h5 h6 h7 HFA0 HFB0 
  generalize hcs a (.slice A n c) = CA at *
  generalize hcs b (.slice A2 n2 c2) = CB at *
  generalize adc a.src = SA at *
  generalize adc b.src = SB at *
  generalize adc a.dst = DA at *
  generalize adc b.dst = DB at *
  go_enter Try.func12, Try.ntmps12
  dsimp only [List.append_eq, List.cons_append, List.nil_append]
  go_wp2_with (first
    | go_skip
    | ((try with_reducible rw [← HW.out]); refine wpList_load_mid rfl 24 _ rfl w.heap.size 0 rfl SA _ HFA.out.src Try.underlying24 rfl HZ.out.1 ?_)
    | (refine wpList_load_mid rfl 24 _ rfl (w.heap.size + 1) 0 rfl SB _ HFB.out.src Try.underlying24 rfl HZ.out.2.1 ?_)
    | (refine wpList_load_want (by kernel_rfl) 24 _ rfl w.heap.size 17 rfl DA _ HFA.out.dst Try.underlying24 rfl HZ.out.2.2.1 ?_)
    | (refine wpList_load_want (by kernel_rfl) 24 _ rfl (w.heap.size + 1) 17 rfl DB _ HFB.out.dst Try.underlying24 rfl HZ.out.2.2.2 ?_))
  try rw [Exit.noGoto_ret]
  go_ret
  exact ⟨rfl, K1.out⟩
set_option maxRecDepth 100000 in
set_option maxHeartbeats 1500000 in
theorem rsame_8 (a b : Hd) (ha : a.Wf) (hb : b.Wf) (A A2 : Option Addr) (n n2 c c2 : Nat) (hl : a.dat.length = n) (hl2 : b.dat.length = n2) (hr : Rd w w.heap.size A (by_ a.dat)) (hr2 : Rd w w.heap.size A2 (by_ b.dat))  (h0 : a.src = b.src) (h1 : a.dst = b.dst) (h2 : a.pr = b.pr) (h3 : a.sp = b.sp) (h4 : a.dp = b.dp) (h5 : a.ttl = b.ttl) (h6 : a.cls = b.cls) (h7 : a.id = b.id) (h8 : ¬ a.fl = b.fl) :
    Calls Try.prog 12 #[hvv a (.slice A n c), hvv b (.slice A2 n2 c2)] w fun e w' => e = .returned (.bool false) ∧ ∀ S, Keeps S w w' := by
  obtain ⟨w1, hw1, k1, ba, bb, s1⟩ := box2 w (hcs a (.slice A n c)) (hcs b (.slice A2 n2 c2)) 29 29
  have fa := HF.of_blk ha ba
  have fb := HF.of_blk hb bb
  have q0 := fun W => addr_neq a.src b.src ha.s hb.s W
  rw [decide_eq_true h0] at q0
  simp only [Bool.not_true, Bool.not_false] at q0
  have q1 := fun W => addr_neq a.dst b.dst ha.d hb.d W
  rw [decide_eq_true h1] at q1
  simp only [Bool.not_true, Bool.not_false] at q1
  have t_pr : ((a.pr : Int) == (b.pr : Int)) = true := beq_iff_eq.2 (by omega)
  have n_pr : ((a.pr : Int) != (b.pr : Int)) = false := by rw [bne_eq_false_iff_eq]; omega
  have t_sp : ((a.sp : Int) == (b.sp : Int)) = true := beq_iff_eq.2 (by omega)
  have n_sp : ((a.sp : Int) != (b.sp : Int)) = false := by rw [bne_eq_false_iff_eq]; omega
  have t_dp : ((a.dp : Int) == (b.dp : Int)) = true := beq_iff_eq.2 (by omega)
  have n_dp : ((a.dp : Int) != (b.dp : Int)) = false := by rw [bne_eq_false_iff_eq]; omega
  have t_ttl : ((a.ttl : Int) == (b.ttl : Int)) = true := beq_iff_eq.2 (by omega)
  have n_ttl : ((a.ttl : Int) != (b.ttl : Int)) = false := by rw [bne_eq_false_iff_eq]; omega
  have t_cls : ((a.cls : Int) == (b.cls : Int)) = true := beq_iff_eq.2 (by omega)
  have n_cls : ((a.cls : Int) != (b.cls : Int)) = false := by rw [bne_eq_false_iff_eq]; omega
  have t_id : ((a.id : Int) == (b.id : Int)) = true := beq_iff_eq.2 (by omega)
  have n_id : ((a.id : Int) != (b.id : Int)) = false := by rw [bne_eq_false_iff_eq]; omega
  have t_fl : ((a.fl : Int) == (b.fl : Int)) = false := beq_eq_false_iff_ne.2 (by omega)
  have n_fl : ((a.fl : Int) != (b.fl : Int)) = true := bne_iff_ne.2 (by omega)
  have xa34 := fa.pr
  have xb34 := fb.pr
  have xa35 := fa.sp
  have xb35 := fb.sp
  have xa36 := fa.dp
  have xb36 := fb.dp
  have xa37 := fa.ttl
  have xb37 := fb.ttl
  have xa38 := fa.cls
  have xb38 := fb.cls
  have xa39 := fa.id
  have xb39 := fb.id
  have xa40 := fa.fl
  have xb40 := fb.fl
  have xa41 := fa.seq
  have xb41 := fb.seq
  have xa42 := fa.dat
  have xb42 := fb.dat
  
  have HZ := Lib.hid (And.intro (ad_sz ha.s) (And.intro (ad_sz hb.s) (And.intro (ad_sz ha.d) (ad_sz hb.d))))
  have HFA0 := Lib.hid fa
  have HFB0 := Lib.hid fb
  have HFA : Hid (SD w1 w.heap.size (adc a.src) (adc a.dst)) := Lib.hid ⟨fa.src, fa.dst⟩
  have HFB : Hid (SD w1 (w.heap.size + 1) (adc b.src) (adc b.dst)) := Lib.hid ⟨fb.src, fb.dst⟩
  have K1 := Lib.hid k1
  have HW := Lib.hid hw1
  unfold av at q0 q1
  unfold hvv
  clear hw1 k1 ba bb s1 fa fb ha hb hr hr2 hl hl2 h0 h1 h2 h3 h4 h5 h6 h7 h8 HFA0 HFB0 
  generalize hcs a (.slice A n c) = CA at *
  generalize hcs b (.slice A2 n2 c2) = CB at *
  generalize adc a.src = SA at *
  generalize adc b.src = SB at *
  generalize adc a.dst = DA at *
  generalize adc b.dst = DB at *
  go_enter Try.func12, Try.ntmps12
  dsimp only [List.append_eq, List.cons_append, List.nil_append]
  go_wp2_with (first
    | go_skip
    | ((try with_reducible rw [← HW.out]); refine wpList_load_mid rfl 24 _ rfl w.heap.size 0 rfl SA _ HFA.out.src Try.underlying24 rfl HZ.out.1 ?_)
    | (refine wpList_load_mid rfl 24 _ rfl (w.heap.size + 1) 0 rfl SB _ HFB.out.src Try.underlying24 rfl HZ.out.2.1 ?_)
    | (refine wpList_load_want (by kernel_rfl) 24 _ rfl w.heap.size 17 rfl DA _ HFA.out.dst Try.underlying24 rfl HZ.out.2.2.1 ?_)
    | (refine wpList_load_want (by kernel_rfl) 24 _ rfl (w.heap.size + 1) 17 rfl DB _ HFB.out.dst Try.underlying24 rfl HZ.out.2.2.2 ?_))
  try rw [Exit.noGoto_ret]
  go_ret
  exact ⟨rfl, K1.out⟩
set_option maxRecDepth 100000 in
set_option maxHeartbeats 1500000 in
theorem rsame_9 (a b : Hd) (ha : a.Wf) (hb : b.Wf) (A A2 : Option Addr) (n n2 c c2 : Nat) (hl : a.dat.length = n) (hl2 : b.dat.length = n2) (hr : Rd w w.heap.size A (by_ a.dat)) (hr2 : Rd w w.heap.size A2 (by_ b.dat))  (h0 : a.src = b.src) (h1 : a.dst = b.dst) (h2 : a.pr = b.pr) (h3 : a.sp = b.sp) (h4 : a.dp = b.dp) (h5 : a.ttl = b.ttl) (h6 : a.cls = b.cls) (h7 : a.id = b.id) (h8 : a.fl = b.fl) (h9 : ¬ a.seq = b.seq) :
    Calls Try.prog 12 #[hvv a (.slice A n c), hvv b (.slice A2 n2 c2)] w fun e w' => e = .returned (.bool false) ∧ ∀ S, Keeps S w w' := by
  obtain ⟨w1, hw1, k1, ba, bb, s1⟩ := box2 w (hcs a (.slice A n c)) (hcs b (.slice A2 n2 c2)) 29 29
  have fa := HF.of_blk ha ba
  have fb := HF.of_blk hb bb
  have q0 := fun W => addr_neq a.src b.src ha.s hb.s W
  rw [decide_eq_true h0] at q0
  simp only [Bool.not_true, Bool.not_false] at q0
  have q1 := fun W => addr_neq a.dst b.dst ha.d hb.d W
  rw [decide_eq_true h1] at q1
  simp only [Bool.not_true, Bool.not_false] at q1
  have t_pr : ((a.pr : Int) == (b.pr : Int)) = true := beq_iff_eq.2 (by omega)
  have n_pr : ((a.pr : Int) != (b.pr : Int)) = false := by rw [bne_eq_false_iff_eq]; omega
  have t_sp : ((a.sp : Int) == (b.sp : Int)) = true := beq_iff_eq.2 (by omega)
  have n_sp : ((a.sp : Int) != (b.sp : Int)) = false := by rw [bne_eq_false_iff_eq]; omega
  have t_dp : ((a.dp : Int) == (b.dp : Int)) = true := beq_iff_eq.2 (by omega)
  have n_dp : ((a.dp : Int) != (b.dp : Int)) = false := by rw [bne_eq_false_iff_eq]; omega
  have t_ttl : ((a.ttl : Int) == (b.ttl : Int)) = true := beq_iff_eq.2 (by omega)
  have n_ttl : ((a.ttl : Int) != (b.ttl : Int)) = false := by rw [bne_eq_false_iff_eq]; omega
  have t_cls : ((a.cls : Int) == (b.cls : Int)) = true := beq_iff_eq.2 (by omega)
  have n_cls : ((a.cls : Int) != (b.cls : Int)) = false := by rw [bne_eq_false_iff_eq]; omega
  have t_id : ((a.id : Int) == (b.id : Int)) = true := beq_iff_eq.2 (by omega)
  have n_id : ((a.id : Int) != (b.id : Int)) = false := by rw [bne_eq_false_iff_eq]; omega
  have t_fl : ((a.fl : Int) == (b.fl : Int)) = true := beq_iff_eq.2 (by omega)
  have n_fl : ((a.fl : Int) != (b.fl : Int)) = false := by rw [bne_eq_false_iff_eq]; omega
  have t_seq : ((a.seq : Int) == (b.seq : Int)) = false := beq_eq_false_iff_ne.2 (by omega)
  have n_seq : ((a.seq : Int) != (b.seq : Int)) = true := bne_iff_ne.2 (by omega)
  have xa34 := fa.pr
  have xb34 := fb.pr
  have xa35 := fa.sp
  have xb35 := fb.sp
  have xa36 := fa.dp
  have xb36 := fb.dp
  have xa37 := fa.ttl
  have xb37 := fb.ttl
  have xa38 := fa.cls
  have xb38 := fb.cls
  have xa39 := fa.id
  have xb39 := fb.id
  have xa40 := fa.fl
  have xb40 := fb.fl
  have xa41 := fa.seq
  have xb41 := fb.seq
  have xa42 := fa.dat
  have xb42 := fb.dat
  
  have HZ := Lib.hid (And.intro (ad_sz ha.s) (And.intro (ad_sz hb.s) (And.intro (ad_sz ha.d) (ad_sz hb.d))))
  have HFA0 := Lib.hid fa
  have HFB0 := Lib.hid fb
  have HFA : Hid (SD w1 w.heap.size (adc a.src) (adc a.dst)) := Lib.hid ⟨fa.src, fa.dst⟩
  have HFB : Hid (SD w1 (w.heap.size + 1) (adc b.src) (adc b.dst)) := Lib.hid ⟨fb.src, fb.dst⟩
  have K1 := Lib.hid k1
  have HW := Lib.hid hw1
  unfold av at q0 q1
  unfold hvv
  clear hw1 k1 ba bb s1 fa fb ha hb hr hr2 hl hl2 h0 h1 h2 h3 h4 h5 h6 h7 h8 h9 HFA0 HFB0 
  generalize hcs a (.slice A n c) = CA at *
  generalize hcs b (.slice A2 n2 c2) = CB at *
  generalize adc a.src = SA at *
  generalize adc b.src = SB at *
  generalize adc a.dst = DA at *
  generalize adc b.dst = DB at *
  go_enter Try.func12, Try.ntmps12
  dsimp only [List.append_eq, List.cons_append, List.nil_append]
  go_wp2_with (first
    | go_skip
    | ((try with_reducible rw [← HW.out]); refine wpList_load_mid rfl 24 _ rfl w.heap.size 0 rfl SA _ HFA.out.src Try.underlying24 rfl HZ.out.1 ?_)
    | (refine wpList_load_mid rfl 24 _ rfl (w.heap.size + 1) 0 rfl SB _ HFB.out.src Try.underlying24 rfl HZ.out.2.1 ?_)
    | (refine wpList_load_want (by kernel_rfl) 24 _ rfl w.heap.size 17 rfl DA _ HFA.out.dst Try.underlying24 rfl HZ.out.2.2.1 ?_)
    | (refine wpList_load_want (by kernel_rfl) 24 _ rfl (w.heap.size + 1) 17 rfl DB _ HFB.out.dst Try.underlying24 rfl HZ.out.2.2.2 ?_))
  try rw [Exit.noGoto_ret]
  go_ret
  exact ⟨rfl, K1.out⟩
set_option maxRecDepth 100000 in
set_option maxHeartbeats 1500000 in
theorem rsame_10 (a b : Hd) (ha : a.Wf) (hb : b.Wf) (A A2 : Option Addr) (n n2 c c2 : Nat) (hl : a.dat.length = n) (hl2 : b.dat.length = n2) (hr : Rd w w.heap.size A (by_ a.dat)) (hr2 : Rd w w.heap.size A2 (by_ b.dat))  (h0 : a.src = b.src) (h1 : a.dst = b.dst) (h2 : a.pr = b.pr) (h3 : a.sp = b.sp) (h4 : a.dp = b.dp) (h5 : a.ttl = b.ttl) (h6 : a.cls = b.cls) (h7 : a.id = b.id) (h8 : a.fl = b.fl) (h9 : a.seq = b.seq) (hnn : ¬ n = n2) :
    Calls Try.prog 12 #[hvv a (.slice A n c), hvv b (.slice A2 n2 c2)] w fun e w' => e = .returned (.bool false) ∧ ∀ S, Keeps S w w' := by
  obtain ⟨w1, hw1, k1, ba, bb, s1⟩ := box2 w (hcs a (.slice A n c)) (hcs b (.slice A2 n2 c2)) 29 29
  have fa := HF.of_blk ha ba
  have fb := HF.of_blk hb bb
  have q0 := fun W => addr_neq a.src b.src ha.s hb.s W
  rw [decide_eq_true h0] at q0
  simp only [Bool.not_true, Bool.not_false] at q0
  have q1 := fun W => addr_neq a.dst b.dst ha.d hb.d W
  rw [decide_eq_true h1] at q1
  simp only [Bool.not_true, Bool.not_false] at q1
  have t_pr : ((a.pr : Int) == (b.pr : Int)) = true := beq_iff_eq.2 (by omega)
  have n_pr : ((a.pr : Int) != (b.pr : Int)) = false := by rw [bne_eq_false_iff_eq]; omega
  have t_sp : ((a.sp : Int) == (b.sp : Int)) = true := beq_iff_eq.2 (by omega)
  have n_sp : ((a.sp : Int) != (b.sp : Int)) = false := by rw [bne_eq_false_iff_eq]; omega
  have t_dp : ((a.dp : Int) == (b.dp : Int)) = true := beq_iff_eq.2 (by omega)
  have n_dp : ((a.dp : Int) != (b.dp : Int)) = false := by rw [bne_eq_false_iff_eq]; omega
  have t_ttl : ((a.ttl : Int) == (b.ttl : Int)) = true := beq_iff_eq.2 (by omega)
  have n_ttl : ((a.ttl : Int) != (b.ttl : Int)) = false := by rw [bne_eq_false_iff_eq]; omega
  have t_cls : ((a.cls : Int) == (b.cls : Int)) = true := beq_iff_eq.2 (by omega)
  have n_cls : ((a.cls : Int) != (b.cls : Int)) = false := by rw [bne_eq_false_iff_eq]; omega
  have t_id : ((a.id : Int) == (b.id : Int)) = true := beq_iff_eq.2 (by omega)
  have n_id : ((a.id : Int) != (b.id : Int)) = false := by rw [bne_eq_false_iff_eq]; omega
  have t_fl : ((a.fl : Int) == (b.fl : Int)) = true := beq_iff_eq.2 (by omega)
  have n_fl : ((a.fl : Int) != (b.fl : Int)) = false := by rw [bne_eq_false_iff_eq]; omega
  have t_seq : ((a.seq : Int) == (b.seq : Int)) = true := beq_iff_eq.2 (by omega)
  have n_seq : ((a.seq : Int) != (b.seq : Int)) = false := by rw [bne_eq_false_iff_eq]; omega
  have xa34 := fa.pr
  have xb34 := fb.pr
  have xa35 := fa.sp
  have xb35 := fb.sp
  have xa36 := fa.dp
  have xb36 := fb.dp
  have xa37 := fa.ttl
  have xb37 := fb.ttl
  have xa38 := fa.cls
  have xb38 := fb.cls
  have xa39 := fa.id
  have xb39 := fb.id
  have xa40 := fa.fl
  have xb40 := fb.fl
  have xa41 := fa.seq
  have xb41 := fb.seq
  have t_n : ((n : Int) != (n2 : Int)) = true := bne_iff_ne.2 (by omega)
  have t_n2 : ((n : Int) == (n2 : Int)) = false := beq_eq_false_iff_ne.2 (by omega)
  have t_n3 : ¬ n = n2 := hnn
  have xa42 := fa.dat
  have xb42 := fb.dat
  
  have HZ := Lib.hid (And.intro (ad_sz ha.s) (And.intro (ad_sz hb.s) (And.intro (ad_sz ha.d) (ad_sz hb.d))))
  have HFA0 := Lib.hid fa
  have HFB0 := Lib.hid fb
  have HFA : Hid (SD w1 w.heap.size (adc a.src) (adc a.dst)) := Lib.hid ⟨fa.src, fa.dst⟩
  have HFB : Hid (SD w1 (w.heap.size + 1) (adc b.src) (adc b.dst)) := Lib.hid ⟨fb.src, fb.dst⟩
  have K1 := Lib.hid k1
  have HW := Lib.hid hw1
  unfold av at q0 q1
  unfold hvv
  clear hnn
  clear hw1 k1 ba bb s1 fa fb ha hb hr hr2 hl hl2 h0 h1 h2 h3 h4 h5 h6 h7 h8 h9 HFA0 HFB0 
  generalize hcs a (.slice A n c) = CA at *
  generalize hcs b (.slice A2 n2 c2) = CB at *
  generalize adc a.src = SA at *
  generalize adc b.src = SB at *
  generalize adc a.dst = DA at *
  generalize adc b.dst = DB at *
  go_enter Try.func12, Try.ntmps12
  dsimp only [List.append_eq, List.cons_append, List.nil_append]
  go_wp2_with (first
    | go_skip
    | ((try with_reducible rw [← HW.out]); refine wpList_load_mid rfl 24 _ rfl w.heap.size 0 rfl SA _ HFA.out.src Try.underlying24 rfl HZ.out.1 ?_)
    | (refine wpList_load_mid rfl 24 _ rfl (w.heap.size + 1) 0 rfl SB _ HFB.out.src Try.underlying24 rfl HZ.out.2.1 ?_)
    | (refine wpList_load_want (by kernel_rfl) 24 _ rfl w.heap.size 17 rfl DA _ HFA.out.dst Try.underlying24 rfl HZ.out.2.2.1 ?_)
    | (refine wpList_load_want (by kernel_rfl) 24 _ rfl (w.heap.size + 1) 17 rfl DB _ HFB.out.dst Try.underlying24 rfl HZ.out.2.2.2 ?_))
  try rw [Exit.noGoto_ret]
  go_ret
  exact ⟨rfl, K1.out⟩
set_option maxRecDepth 100000 in
set_option maxHeartbeats 1500000 in
theorem rsame_11 (a b : Hd) (ha : a.Wf) (hb : b.Wf) (A A2 : Option Addr) (n c c2 : Nat) (hl : a.dat.length = n) (hl2 : b.dat.length = n) (hn : n ≤ 140737488355328) (hr : Rd w w.heap.size A (by_ a.dat)) (hr2 : Rd w w.heap.size A2 (by_ b.dat))  (h0 : a.src = b.src) (h1 : a.dst = b.dst) (h2 : a.pr = b.pr) (h3 : a.sp = b.sp) (h4 : a.dp = b.dp) (h5 : a.ttl = b.ttl) (h6 : a.cls = b.cls) (h7 : a.id = b.id) (h8 : a.fl = b.fl) (h9 : a.seq = b.seq) :
    Calls Try.prog 12 #[hvv a (.slice A n c), hvv b (.slice A2 n c2)] w fun e w' => e = .returned (.bool (decide (a.dat = b.dat))) ∧ ∀ S, Keeps S w w' := by
  obtain ⟨w1, hw1, k1, ba, bb, s1⟩ := box2 w (hcs a (.slice A n c)) (hcs b (.slice A2 n c2)) 29 29
  have fa := HF.of_blk ha ba
  have fb := HF.of_blk hb bb
  have q0 := fun W => addr_neq a.src b.src ha.s hb.s W
  rw [decide_eq_true h0] at q0
  simp only [Bool.not_true, Bool.not_false] at q0
  have q1 := fun W => addr_neq a.dst b.dst ha.d hb.d W
  rw [decide_eq_true h1] at q1
  simp only [Bool.not_true, Bool.not_false] at q1
  have t_pr : ((a.pr : Int) == (b.pr : Int)) = true := beq_iff_eq.2 (by omega)
  have n_pr : ((a.pr : Int) != (b.pr : Int)) = false := by rw [bne_eq_false_iff_eq]; omega
  have t_sp : ((a.sp : Int) == (b.sp : Int)) = true := beq_iff_eq.2 (by omega)
  have n_sp : ((a.sp : Int) != (b.sp : Int)) = false := by rw [bne_eq_false_iff_eq]; omega
  have t_dp : ((a.dp : Int) == (b.dp : Int)) = true := beq_iff_eq.2 (by omega)
  have n_dp : ((a.dp : Int) != (b.dp : Int)) = false := by rw [bne_eq_false_iff_eq]; omega
  have t_ttl : ((a.ttl : Int) == (b.ttl : Int)) = true := beq_iff_eq.2 (by omega)
  have n_ttl : ((a.ttl : Int) != (b.ttl : Int)) = false := by rw [bne_eq_false_iff_eq]; omega
  have t_cls : ((a.cls : Int) == (b.cls : Int)) = true := beq_iff_eq.2 (by omega)
  have n_cls : ((a.cls : Int) != (b.cls : Int)) = false := by rw [bne_eq_false_iff_eq]; omega
  have t_id : ((a.id : Int) == (b.id : Int)) = true := beq_iff_eq.2 (by omega)
  have n_id : ((a.id : Int) != (b.id : Int)) = false := by rw [bne_eq_false_iff_eq]; omega
  have t_fl : ((a.fl : Int) == (b.fl : Int)) = true := beq_iff_eq.2 (by omega)
  have n_fl : ((a.fl : Int) != (b.fl : Int)) = false := by rw [bne_eq_false_iff_eq]; omega
  have t_seq : ((a.seq : Int) == (b.seq : Int)) = true := beq_iff_eq.2 (by omega)
  have n_seq : ((a.seq : Int) != (b.seq : Int)) = false := by rw [bne_eq_false_iff_eq]; omega
  have xa34 := fa.pr
  have xb34 := fb.pr
  have xa35 := fa.sp
  have xb35 := fb.sp
  have xa36 := fa.dp
  have xb36 := fb.dp
  have xa37 := fa.ttl
  have xb37 := fb.ttl
  have xa38 := fa.cls
  have xb38 := fb.cls
  have xa39 := fa.id
  have xb39 := fb.id
  have xa40 := fa.fl
  have xb40 := fb.fl
  have xa41 := fa.seq
  have xb41 := fb.seq
  have HR := rd_old hr (k1 _)
  have HR2 := rd_old hr2 (k1 _)
  have HL := Lib.hid (And.intro hl hl2)
  have t_n : ((n : Int) != (n : Int)) = false := by rw [bne_eq_false_iff_eq]
  obtain ⟨Z, hZ⟩ : ∃ Z, Z = decide (a.dat = b.dat) := ⟨_, rfl⟩
  rw [← hZ]
  have HZZ := Lib.hid hZ
  clear hZ
  have xa42 := fa.dat
  have xb42 := fb.dat
  
  have HZ := Lib.hid (And.intro (ad_sz ha.s) (And.intro (ad_sz hb.s) (And.intro (ad_sz ha.d) (ad_sz hb.d))))
  have HFA0 := Lib.hid fa
  have HFB0 := Lib.hid fb
  have HFA : Hid (SD w1 w.heap.size (adc a.src) (adc a.dst)) := Lib.hid ⟨fa.src, fa.dst⟩
  have HFB : Hid (SD w1 (w.heap.size + 1) (adc b.src) (adc b.dst)) := Lib.hid ⟨fb.src, fb.dst⟩
  have K1 := Lib.hid k1
  have HW := Lib.hid hw1
  unfold av at q0 q1
  unfold hvv
  clear hw1 k1 ba bb s1 fa fb ha hb hr hr2 hl hl2 h0 h1 h2 h3 h4 h5 h6 h7 h8 h9 HFA0 HFB0 
  generalize hcs a (.slice A n c) = CA at *
  generalize hcs b (.slice A2 n c2) = CB at *
  generalize a.dat = l at *
  generalize b.dat = m at *
  generalize adc a.src = SA at *
  generalize adc b.src = SB at *
  generalize adc a.dst = DA at *
  generalize adc b.dst = DB at *
  go_enter Try.func12, Try.ntmps12
  dsimp only [List.append_eq, List.cons_append, List.nil_append]
  go_wp2_with (first
    | go_skip
    | ((try with_reducible rw [← HW.out]); refine wpList_load_mid rfl 24 _ rfl w.heap.size 0 rfl SA _ HFA.out.src Try.underlying24 rfl HZ.out.1 ?_)
    | (refine wpList_load_mid rfl 24 _ rfl (w.heap.size + 1) 0 rfl SB _ HFB.out.src Try.underlying24 rfl HZ.out.2.1 ?_)
    | (refine wpList_load_want (by kernel_rfl) 24 _ rfl w.heap.size 17 rfl DA _ HFA.out.dst Try.underlying24 rfl HZ.out.2.2.1 ?_)
    | (refine wpList_load_want (by kernel_rfl) 24 _ rfl (w.heap.size + 1) 17 rfl DB _ HFB.out.dst Try.underlying24 rfl HZ.out.2.2.2 ?_))
  go_loopw [5] (fun i wr => ∃ k d : Nat, k ≤ n ∧ i = .int .i64 k ∧ w1.drewN d = wr ∧ l.take k = m.take k) (fun i _ => n - (intOf i).toNat)
  case atStart => exact ⟨0, 0, Nat.zero_le _, rfl, rfl, by simp⟩
  case round =>
    obtain ⟨k, d, hk, rfl, rfl, ht⟩ := hrel
    by_cases hlt : k < n
    · have hx := getq (bs := l) (k := k) (by rw [HL.out.1]; exact hlt)
      have hy := getq (bs := m) (k := k) (by rw [HL.out.2]; exact hlt)
      obtain ⟨b', o', rfl, hb', hc'⟩ := HR.byte hx
      obtain ⟨b'', o'', rfl, hb'', hc''⟩ := HR2.byte hy
      have HT := Lib.hid (fun e => same_take (by rw [HL.out.1]; exact hlt) (by rw [HL.out.2]; exact hlt) ht e)
      have HXY := Lib.hid (And.intro hx hy)
      have hlt' : (k : Int) < (n : Int) := by omega
      have h0 : (0 : Int) ≤ (k : Int) := by omega
      clear hx hy ht
      generalize l.getD k 0 = x at *
      generalize m.getD k 0 = y at *
      by_cases hq : x = y
      · have HT2 := Lib.hid (HT.out hq)
        clear HT
        subst hq
        go_wp2
        go_quiet (fail)
        go_wp2
        go_roundw
        case rel => exact ⟨k + 1, d + nq, by omega, by go_num, rfl, HT2.out⟩
        case measure => simp [intOf]; omega
      · have d1 : ((x : Int) != (y : Int)) = true := bne_iff_ne.2 (by omega)
        have d2 : ((x : Int) == (y : Int)) = false := beq_eq_false_iff_ne.2 (by omega)
        have d3 : ¬ x = y := hq
        have e : Z = false := by
          rw [HZZ.out]
          refine decide_eq_false fun q => hq ?_
          have := HXY.out.1
          rw [q, HXY.out.2] at this
          injection this with this
          exact this.symm
        clear HZZ HT HXY hq
        subst e
        go_wp2
        go_quiet (fail)
        go_wp2
        try rw [Exit.noGoto_ret]
        try simp only [Exit.inBlock, Exit.then]
        go_ret
        exact ⟨rfl, fun S => ((K1.out S).trans (Keeps.of_drew _ _)).trans (Keeps.of_drew _ _)⟩
    · have e : Z = true := by
        rw [HZZ.out]
        rw [List.take_of_length_le (by rw [HL.out.1]; omega), List.take_of_length_le (by rw [HL.out.2]; omega)] at ht
        exact decide_eq_true ht
      clear HZZ ht
      subst e
      go_wp2
      go_ret
      exact ⟨rfl, fun S => (K1.out S).trans (Keeps.of_drew _ _)⟩
theorem rsame_ (a b : Hd) (ha : a.Wf) (hb : b.Wf) (A A2 : Option Addr) (n n2 c c2 : Nat) (hl : a.dat.length = n) (hl2 : b.dat.length = n2) (hn : n ≤ 140737488355328) (hr : Rd w w.heap.size A (by_ a.dat)) (hr2 : Rd w w.heap.size A2 (by_ b.dat)) :
    Calls Try.prog 12 #[hvv a (.slice A n c), hvv b (.slice A2 n2 c2)] w fun e w' => e = .returned (.bool (sameH a b)) ∧ ∀ S, Keeps S w w' := by
  by_cases h0 : a.src = b.src
  case neg => rw [same_no (fun e => h0 (by rw [e]))]; exact rsame_0 w a b ha hb A A2 n n2 c c2 hl hl2 hr hr2 h0
  by_cases h1 : a.dst = b.dst
  case neg => rw [same_no (fun e => h1 (by rw [e]))]; exact rsame_1 w a b ha hb A A2 n n2 c c2 hl hl2 hr hr2 h0 h1
  by_cases h2 : a.pr = b.pr
  case neg => rw [same_no (fun e => h2 (by rw [e]))]; exact rsame_2 w a b ha hb A A2 n n2 c c2 hl hl2 hr hr2 h0 h1 h2
  by_cases h3 : a.sp = b.sp
  case neg => rw [same_no (fun e => h3 (by rw [e]))]; exact rsame_3 w a b ha hb A A2 n n2 c c2 hl hl2 hr hr2 h0 h1 h2 h3
  by_cases h4 : a.dp = b.dp
  case neg => rw [same_no (fun e => h4 (by rw [e]))]; exact rsame_4 w a b ha hb A A2 n n2 c c2 hl hl2 hr hr2 h0 h1 h2 h3 h4
  by_cases h5 : a.ttl = b.ttl
  case neg => rw [same_no (fun e => h5 (by rw [e]))]; exact rsame_5 w a b ha hb A A2 n n2 c c2 hl hl2 hr hr2 h0 h1 h2 h3 h4 h5
  by_cases h6 : a.cls = b.cls
  case neg => rw [same_no (fun e => h6 (by rw [e]))]; exact rsame_6 w a b ha hb A A2 n n2 c c2 hl hl2 hr hr2 h0 h1 h2 h3 h4 h5 h6
  by_cases h7 : a.id = b.id
  case neg => rw [same_no (fun e => h7 (by rw [e]))]; exact rsame_7 w a b ha hb A A2 n n2 c c2 hl hl2 hr hr2 h0 h1 h2 h3 h4 h5 h6 h7
  by_cases h8 : a.fl = b.fl
  case neg => rw [same_no (fun e => h8 (by rw [e]))]; exact rsame_8 w a b ha hb A A2 n n2 c c2 hl hl2 hr hr2 h0 h1 h2 h3 h4 h5 h6 h7 h8
  by_cases h9 : a.seq = b.seq
  case neg => rw [same_no (fun e => h9 (by rw [e]))]; exact rsame_9 w a b ha hb A A2 n n2 c c2 hl hl2 hr hr2 h0 h1 h2 h3 h4 h5 h6 h7 h8 h9
  by_cases hnn : n = n2
  case neg => rw [same_no (fun e => hnn (by rw [← hl, ← hl2, e]))]; exact rsame_10 w a b ha hb A A2 n n2 c c2 hl hl2 hr hr2 h0 h1 h2 h3 h4 h5 h6 h7 h8 h9 hnn
  subst hnn
  have e : sameH a b = decide (a.dat = b.dat) := by
    by_cases h : a.dat = b.dat
    · rw [same_yes (Hd.eq_of h0 h1 h2 h3 h4 h5 h6 h7 h8 h9 h), decide_eq_true h]
    · rw [same_no (fun e => h (by rw [e])), decide_eq_false h]
  rw [e]
  exact rsame_11 w a b ha hb A A2 n c c2 hl hl2 hn hr hr2 h0 h1 h2 h3 h4 h5 h6 h7 h8 h9
end
end Go.Proofs.Ytidengmcbppcoaa.pk
