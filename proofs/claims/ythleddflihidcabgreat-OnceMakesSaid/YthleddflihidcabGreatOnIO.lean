/-
  once at int: a Once, free.
-/
import Derived.Test.YthleddflihidcabGreatOnI
import Derived.Deep.RegionHeld3
import Derived.LaidEql
import Derived.Deep.QuietTactic
import Derived.BigQuiet
set_option linter.unusedVariables false
set_option linter.unusedSimpArgs false
namespace Go.Proofs.YthleddflihidcabGreat.onI
open Go.RowKit Go.Proofs.YthleddflihidcabGreat.oc Go.Proofs.YthleddflihidcabGreat.mz Go.Proofs.YthleddflihidcabGreat.at_ Go.Proofs.YthleddflihidcabGreat.on
/-- block C is a Once with that make, of which the slot's cells are cs -/
def Once_ (w : World) (C : Nat) (mk : Value) (cs : List Value) : Prop := Slot w C 2 135 [.pointer (some ⟨C, 0, none⟩), mk] [] cs
theorem one_info : (Tryz.prog.info? 135).map (fun i => i.size) = some 11 := by kernel_rfl
theorem one_self (w : World) (a : Addr) : (binOp .neq 110 (.pointer (some a)) (.pointer (some a))).run Tryz.prog w = .ok (.bool false) w := by
  cases hi : Tryz.prog.info? 135 with
  | none => have := one_info; rw [hi] at this; cases this
  | some i => exact Lib.run_neq_ptr_same w a Tryz.underlying110 hi
theorem fn_not_nil (f : FuncId) (cp : Array Value) (w : World) : (binOp .eql 112 (.func (.func f) #[] cp) .nilFunc).run Tryz.prog w = .ok (.bool false) w := by kernel_rfl
theorem fn_nil (w : World) : (binOp .eql 112   .nilFunc .nilFunc).run Tryz.prog w = .ok (.bool true) w := by kernel_rfl
theorem ptr_nil (w : World) : (binOp .eql 110 (.pointer none) (.pointer none)).run Tryz.prog w = .ok (.bool true) w := by kernel_rfl
theorem ptr_other (a : Addr) (w : World) : (binOp .neq 110 (.pointer none) (.pointer (some a))).run Tryz.prog w = .ok (.bool true) w := by kernel_rfl
set_option maxRecDepth 100000 in
set_option maxHeartbeats 2000000 in
theorem none_ (C : Nat) (mk : Value) (cs : List Value) (w : World) (h : Once_ w C mk cs) : Calls Tryz.prog 46 #[.pointer (some ⟨C, 0, none⟩)] w fun e w' => e = .returned (.bool false) ∧ w = w' := by
  have p0 : w.cell? ⟨C, 0, none⟩ = some (.pointer (some ⟨C, 0, none⟩)) := by rw [h.blk.cell]; rfl
  have hns := one_self
  clear h
  have hpn := ptr_nil
  have hpo := ptr_other
  go_enter Tryz.func46, Tryz.ntmps46
  go_wp2
  go_ret
  exact ⟨rfl, rfl⟩
set_option maxRecDepth 100000 in
set_option maxHeartbeats 2000000 in
theorem none_nil (w : World) : Calls Tryz.prog 46 #[.pointer none] w fun e w' => e = .returned (.bool true) ∧ w = w' := by
  have hpn := ptr_nil
  have hpo := ptr_other
  go_enter Tryz.func46, Tryz.ntmps46
  go_wp2
  go_ret
  exact ⟨rfl, rfl⟩
set_option maxRecDepth 100000 in
set_option maxHeartbeats 2000000 in
theorem none_zero (C : Nat) (w : World) (h : w.cell? ⟨C, 0, none⟩ = some (.pointer none)) : Calls Tryz.prog 46 #[.pointer (some ⟨C, 0, none⟩)] w fun e w' => e = .returned (.bool true) ∧ w = w' := by
  have hpn := ptr_nil
  have hpo := ptr_other
  go_enter Tryz.func46, Tryz.ntmps46
  go_wp2
  go_ret
  exact ⟨rfl, rfl⟩
set_option maxRecDepth 100000 in
set_option maxHeartbeats 2000000 in
theorem new_ (f : FuncId) (cp : Array Value) (w : World) :
    Calls Tryz.prog 31 #[.func (.func f) #[] cp] w fun e w' => e = .returned (.pointer (some ⟨w.heap.size, 0, none⟩)) ∧ Once_ w' w.heap.size (.func (.func f) #[] cp) (sl 0 0 0 4294967296 0 (.int .i64 0) 0) ∧ ∀ S, Keeps S w w' := by
  obtain ⟨w1, hw1⟩ : ∃ w1, w1 = w.alloc (.cells #[.pointer (some ⟨w.heap.size, 0, none⟩), .func (.func f) #[] cp, .int .u64 0, .int .u32 0, .int .i32 0, .int .u32 0, .int .u64 0, .int .u32 0, .int .u64 0, .int .i64 0, .int .i64 0] 135) := ⟨_, rfl⟩
  have s1 : Slot w1 w.heap.size 2 135 [.pointer (some ⟨w.heap.size, 0, none⟩), .func (.func f) #[] cp] [] (sl 0 0 0 0 0 (.int .i64 0) 0) := ⟨by rw [hw1]; exact Blk.new w _ _, rfl⟩
  have HB := Lib.hid (begin_ w.heap.size 2 _ _ _ (.int .i64 0) w1 s1)
  have hfn := fn_not_nil
  have k1 : ∀ S, Keeps S w w1 := fun S => by rw [hw1]; exact (Keeps.refl _ w).alloc _
  have HW := Lib.hid hw1
  have K1 : Hid (∀ S, Keeps S w w1) := Lib.hid k1
  clear s1 k1 hw1
  go_enter Tryz.func31, Tryz.ntmps31
  go_wp2_with fail
  rw [← HW.out]
  refine HB.out.mono ?_
  rintro e w2 ⟨rfl, s2, k2⟩
  have S2 := Lib.hid s2
  have K2 := Lib.hid k2
  clear s2 k2
  go_wp2
  go_ret
  refine ⟨rfl, S2.out, fun S => ?_⟩
  have ka := K1.out S
  refine ⟨by have := K2.out.size; have := ka.size; omega, fun b hb hs => ?_, ka.same.trans K2.out.same⟩
  rw [K2.out.block b (by have := ka.size; omega) (by omega), ka.block b hb hs]
set_option maxRecDepth 100000 in
set_option maxHeartbeats 2000000 in
theorem new_nil (w : World) : Calls Tryz.prog 31 #[.nilFunc] w fun e w' => e = .returned (.pointer none) ∧ w = w' := by
  have hfn := fn_nil
  go_enter Tryz.func31, Tryz.ntmps31
  go_wp2
  go_ret
  exact ⟨rfl, rfl⟩
set_option maxRecDepth 100000 in
set_option maxHeartbeats 2000000 in
theorem oget_ok (C : Nat) (en num : Int) (v0 : Value) (x : Int) (f : FuncId) (cp : Array Value) (S : Nat → Prop) (Q : World → Prop) (w : World)
    (h : Once_ w C (.func (.func f) #[] cp) (sl 0 0 0 4294967296 en v0 num)) (hS : ¬ S C) (hSw : ∀ k, S k → k < w.heap.size) (hQ : ∀ w1 w2, Q w1 → Keeps (· = C) w1 w2 → Q w2) 
    (HI : ∀ args w, (callFunc f args).run Tryz.prog w = .ok (.enter f args) w)
    (HM : ∀ w1, Keeps (· = C) w w1 → Calls Tryz.prog f cp w1 fun e w' => e = .returned (.tuple #[.int .i64 x, .int .i64 0]) ∧ Keeps S w1 w' ∧ Q w') :
    Calls Tryz.prog 33 #[.pointer (some ⟨C, 0, none⟩), .nilIface] w fun e w' => e = .returned (.tuple #[.int .i64 x, .int .i64 0]) ∧ Once_ w' C (.func (.func f) #[] cp) (sl 2 1 0 0 2 (.int .i64 x) num) ∧ Keeps (fun k => k = C ∨ S k) w w' ∧ Q w' := by
  have HN := Lib.hid (none_ C _ _ w h)
  have c1 : w.drew.cell? ⟨C, 1, none⟩ = some (.func (.func f) #[] cp) := by show w.cell? _ = _; rw [h.blk.cell]; rfl
  have c1' : w.cell? ⟨C, 1, none⟩ = some (.func (.func f) #[] cp) := c1
  have kd : Keeps (· = C) w w.drew := (Keeps.refl _ w).drew
  have HG := Lib.hid (get_ok C 2 _ _ _ en num 0 v0 x  f cp S Q w.drew (h.drewN 1) hS hSw hQ  HI (fun w2 k2 => HM w2 (kd.trans k2)))
  have KD := Lib.hid kd
  clear h HI HM hQ hSw kd
  go_enter Tryz.func33, Tryz.ntmps33
  go_wp2_with fail
  refine HN.out.mono ?_
  rintro e w' ⟨rfl, rfl⟩
  go_wp2_with fail
  go_region_held3 (fun w' => w'.cell? ⟨C, 1, none⟩ = some (.func (.func f) #[] cp)) (first | exact c1 | exact c2) ((first | (go_at_call 47; refine HG.out.mono ?_; rintro e w2 ⟨rfl, s2, k2, q2⟩; have c2 : w2.cell? ⟨C, 1, none⟩ = some (.func (.func f) #[] cp) := (by rw [s2.blk.cell]; rfl); have S2 := Lib.hid s2; have K2 := Lib.hid k2; have Q2 := Lib.hid q2; clear s2 k2 q2)))
  go_wp2
  try rw [Exit.noGoto_ret]
  go_ret2
  exact ⟨rfl, S2.out, (KD.out.mono (fun _ _ e => .inl e)).trans K2.out, Q2.out⟩
set_option maxRecDepth 100000 in
set_option maxHeartbeats 2000000 in
theorem oget2_ok (C : Nat) (st mu wg num : Int) (v0 : Value) (x : Int) (f : FuncId) (cp : Array Value) (w : World)
    (h : Once_ w C (.func (.func f) #[] cp) (sl st 1 mu wg 2 (.int .i64 x) num)) :
    Calls Tryz.prog 33 #[.pointer (some ⟨C, 0, none⟩), .nilIface] w fun e w' => e = .returned (.tuple #[.int .i64 x, .int .i64 0]) ∧ ∀ S, Keeps S w w' := by
  have HN := Lib.hid (none_ C _ _ w h)
  have c1 : w.drew.cell? ⟨C, 1, none⟩ = some (.func (.func f) #[] cp) := by show w.cell? _ = _; rw [h.blk.cell]; rfl
  have c1' : w.cell? ⟨C, 1, none⟩ = some (.func (.func f) #[] cp) := c1
  have HG := Lib.hid (get2_ok C 2 _ _ _ st mu wg num 0 v0 x  (.func (.func f) #[] cp) w.drew ⟨f, cp, rfl⟩ (h.drewN 1))
  clear h
  go_enter Tryz.func33, Tryz.ntmps33
  go_wp2_with fail
  refine HN.out.mono ?_
  rintro e w' ⟨rfl, rfl⟩
  go_wp2_with fail
  go_region_held3 (fun w' => w'.cell? ⟨C, 1, none⟩ = some (.func (.func f) #[] cp)) (first | exact c1 | exact c2) ((first | (go_at_call 47; refine HG.out.mono ?_; rintro e w2 ⟨rfl, k2⟩; have c2 : w2.cell? ⟨C, 1, none⟩ = some (.func (.func f) #[] cp) := Keeps.cell (k2 (fun _ => False)) c1 (fun z => z); have K2 : Hid (∀ S, Keeps S w.drew w2) := Lib.hid k2; clear k2)))
  go_wp2
  try rw [Exit.noGoto_ret]
  go_ret2
  exact ⟨rfl, fun S => (Keeps.refl S w).drew.trans (K2.out S)⟩
set_option maxRecDepth 100000 in
set_option maxHeartbeats 2000000 in
theorem oget_err (C : Nat) (en num : Int) (v0 : Value) (x : Int) (r : Int) (f : FuncId) (cp : Array Value) (S : Nat → Prop) (Q : World → Prop) (w : World)
    (h : Once_ w C (.func (.func f) #[] cp) (sl 0 0 0 4294967296 en v0 num)) (hS : ¬ S C) (hSw : ∀ k, S k → k < w.heap.size) (hQ : ∀ w1 w2, Q w1 → Keeps (· = C) w1 w2 → Q w2) (hr : (r == 0) = false)
    (HI : ∀ args w, (callFunc f args).run Tryz.prog w = .ok (.enter f args) w)
    (HM : ∀ w1, Keeps (· = C) w w1 → Calls Tryz.prog f cp w1 fun e w' => e = .returned (.tuple #[.int .i64 x, .int .i64 r]) ∧ Keeps S w1 w' ∧ Q w') :
    Calls Tryz.prog 33 #[.pointer (some ⟨C, 0, none⟩), .nilIface] w fun e w' => e = .returned (.tuple #[.int .i64 0, .int .i64 r]) ∧ Once_ w' C (.func (.func f) #[] cp) (sl 3 1 0 0 3 v0 r) ∧ Keeps (fun k => k = C ∨ S k) w w' ∧ Q w' := by
  have HN := Lib.hid (none_ C _ _ w h)
  have c1 : w.drew.cell? ⟨C, 1, none⟩ = some (.func (.func f) #[] cp) := by show w.cell? _ = _; rw [h.blk.cell]; rfl
  have c1' : w.cell? ⟨C, 1, none⟩ = some (.func (.func f) #[] cp) := c1
  have kd : Keeps (· = C) w w.drew := (Keeps.refl _ w).drew
  have HG := Lib.hid (get_err C 2 _ _ _ en num 0 v0 x r f cp S Q w.drew (h.drewN 1) hS hSw hQ hr HI (fun w2 k2 => HM w2 (kd.trans k2)))
  have KD := Lib.hid kd
  clear h HI HM hQ hSw kd
  go_enter Tryz.func33, Tryz.ntmps33
  go_wp2_with fail
  refine HN.out.mono ?_
  rintro e w' ⟨rfl, rfl⟩
  go_wp2_with fail
  go_region_held3 (fun w' => w'.cell? ⟨C, 1, none⟩ = some (.func (.func f) #[] cp)) (first | exact c1 | exact c2) ((first | (go_at_call 47; refine HG.out.mono ?_; rintro e w2 ⟨rfl, s2, k2, q2⟩; have c2 : w2.cell? ⟨C, 1, none⟩ = some (.func (.func f) #[] cp) := (by rw [s2.blk.cell]; rfl); have S2 := Lib.hid s2; have K2 := Lib.hid k2; have Q2 := Lib.hid q2; clear s2 k2 q2)))
  go_wp2
  try rw [Exit.noGoto_ret]
  go_ret2
  exact ⟨rfl, S2.out, (KD.out.mono (fun _ _ e => .inl e)).trans K2.out, Q2.out⟩
set_option maxRecDepth 100000 in
set_option maxHeartbeats 2000000 in
theorem oget2_err (C : Nat) (st mu wg num : Int) (v0 : Value) (x : Int) (r : Int) (f : FuncId) (cp : Array Value) (w : World)
    (h : Once_ w C (.func (.func f) #[] cp) (sl st 1 mu wg 3 v0 r)) :
    Calls Tryz.prog 33 #[.pointer (some ⟨C, 0, none⟩), .nilIface] w fun e w' => e = .returned (.tuple #[.int .i64 0, .int .i64 r]) ∧ ∀ S, Keeps S w w' := by
  have HN := Lib.hid (none_ C _ _ w h)
  have c1 : w.drew.cell? ⟨C, 1, none⟩ = some (.func (.func f) #[] cp) := by show w.cell? _ = _; rw [h.blk.cell]; rfl
  have c1' : w.cell? ⟨C, 1, none⟩ = some (.func (.func f) #[] cp) := c1
  have HG := Lib.hid (get2_err C 2 _ _ _ st mu wg num 0 v0 x r (.func (.func f) #[] cp) w.drew ⟨f, cp, rfl⟩ (h.drewN 1))
  clear h
  go_enter Tryz.func33, Tryz.ntmps33
  go_wp2_with fail
  refine HN.out.mono ?_
  rintro e w' ⟨rfl, rfl⟩
  go_wp2_with fail
  go_region_held3 (fun w' => w'.cell? ⟨C, 1, none⟩ = some (.func (.func f) #[] cp)) (first | exact c1 | exact c2) ((first | (go_at_call 47; refine HG.out.mono ?_; rintro e w2 ⟨rfl, k2⟩; have c2 : w2.cell? ⟨C, 1, none⟩ = some (.func (.func f) #[] cp) := Keeps.cell (k2 (fun _ => False)) c1 (fun z => z); have K2 : Hid (∀ S, Keeps S w.drew w2) := Lib.hid k2; clear k2)))
  go_wp2
  try rw [Exit.noGoto_ret]
  go_ret2
  exact ⟨rfl, fun S => (Keeps.refl S w).drew.trans (K2.out S)⟩
set_option maxRecDepth 100000 in
set_option maxHeartbeats 2000000 in
theorem oget_nil (w : World) : Calls Tryz.prog 33 #[.pointer none, .nilIface] w fun e w' => e = .returned (.tuple #[.int .i64 0, .int .i64 1]) ∧ w = w' := by
  have HN := Lib.hid (none_nil w)
  go_enter Tryz.func33, Tryz.ntmps33
  go_wp2_with fail
  refine HN.out.mono ?_
  rintro e w' ⟨rfl, rfl⟩
  go_wp2
  try rw [Exit.noGoto_ret]
  go_ret2
  exact ⟨rfl, rfl⟩
set_option maxRecDepth 100000 in
set_option maxHeartbeats 2000000 in
theorem oget_zero (C : Nat) (w : World) (h : w.cell? ⟨C, 0, none⟩ = some (.pointer none)) : Calls Tryz.prog 33 #[.pointer (some ⟨C, 0, none⟩), .nilIface] w fun e w' => e = .returned (.tuple #[.int .i64 0, .int .i64 1]) ∧ w = w' := by
  have HN := Lib.hid (none_zero C w h)
  clear h
  go_enter Tryz.func33, Tryz.ntmps33
  go_wp2_with fail
  refine HN.out.mono ?_
  rintro e w' ⟨rfl, rfl⟩
  go_wp2
  try rw [Exit.noGoto_ret]
  go_ret2
  exact ⟨rfl, rfl⟩
end Go.Proofs.YthleddflihidcabGreat.onI
