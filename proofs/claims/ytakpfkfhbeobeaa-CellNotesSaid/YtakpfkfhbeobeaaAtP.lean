/-
  sync/atomic's Pointer, walked by one goroutine: Load, Store, CompareAndSwap that finds the old pointer.
-/
import Derived.Test.YtakpfkfhbeobeaaAtU
import Derived.Lib.Builder
import Derived.LaidEql
set_option linter.unusedVariables false
namespace Go.Proofs.Ytakpfkfhbeobeaa.at_
open Go.RowKit Go.Proofs.Ytakpfkfhbeobeaa.oc Go.Proofs.Ytakpfkfhbeobeaa.mz
theorem run_call_loadp {P : Program} {f : FuncId} {fn : Func} (hf : P.funcs[f]? = some fn) (hname : (fn.name == "runtime.NumGoroutine") = false) (hb : fn.body.isNone = true) (hn : Extern.findNext fn = none)
    (he : Extern.find fn = some (Extern.Atomic.loadT .ptr)) {a : Addr} {x : Option Addr} {w : World} (hc : w.cell? a = some (.pointer x)) :
    (callFunc f #[.pointer (some a)]).run P w = .ok (.value (.pointer x)) w := by
  rw [run_callFunc_extern hf hname hb hn he]
  change (Sem.run P (do Extern.Atomic.read .ptr (← asAddr (.pointer (some a)))) w).andThen _ = _
  simp [Extern.Atomic.read, asAddr, hc, Result.andThen]
theorem run_call_storep {P : Program} {f : FuncId} {fn : Func} (hf : P.funcs[f]? = some fn) (hname : (fn.name == "runtime.NumGoroutine") = false) (hb : fn.body.isNone = true) (hn : Extern.findNext fn = none)
    (he : Extern.find fn = some Extern.Atomic.storeT) {a : Addr} {y : Option Addr} {u : Value} {w : World} (hc : w.cell? a = some u) (hz : w.frozen? a = false) :
    (callFunc f #[.pointer (some a), .pointer y]).run P w = .ok (.value (.tuple #[])) (w.setCell a (.pointer y)) := by
  rw [run_callFunc_extern hf hname hb hn he]
  change (Sem.run P (do
    store (← asAddr (.pointer (some a))) (.pointer y) .atomic
    pure Extern.Atomic.none_) w).andThen _ = _
  simp [asAddr, hc, hz, run_store P w a (.pointer y) .atomic rfl, Result.andThen, Extern.Atomic.none_]
theorem run_call_casp {P : Program} {f : FuncId} {fn : Func} (hf : P.funcs[f]? = some fn) (hname : (fn.name == "runtime.NumGoroutine") = false) (hb : fn.body.isNone = true) (hn : Extern.findNext fn = none)
    (he : Extern.find fn = some (Extern.Atomic.casT .ptr)) {a x : Addr} {y : Option Addr} {w : World} (hc : w.cell? a = some (.pointer (some x))) (hz : w.frozen? a = false) :
    (callFunc f #[.pointer (some a), .pointer (some x), .pointer y]).run P w = .ok (.value (.bool true)) (w.setCell a (.pointer y)) := by
  rw [run_callFunc_extern hf hname hb hn he]
  change (Sem.run P (do
    let a' ← asAddr (.pointer (some a))
    if ← Extern.Atomic.touchesFrozen a' then unsupported (.unsafePointer "a write to bytes that a string shares")
    let eq ← match Extern.Atomic.T.ptr, ← Extern.Atomic.read .ptr a', Value.pointer (some x) with
      | _, .int _ x, .int _ y => pure (x == y)
      | .ptr, .pointer x, .pointer y => samePointer x y
      | .int _, .pointer (some _), .int _ 0 | .int _, .int _ 0, .pointer (some _) => pure false
      | .int _, .pointer (some _), _ | .int _, _, .pointer (some _) => unsupported .addressObserved
      | _, _, _ => stuck "atomic.CompareAndSwap: old is no T"
    if eq then store a' (.pointer y) .atomic
    pure (Value.bool eq)) w).andThen _ = _
  simp [Extern.Atomic.touchesFrozen, Extern.Atomic.read, asAddr, viewAt, World.shape?_isSome_of_cell? hc, hc, hz, run_store P w a (.pointer y) .atomic rfl, Result.andThen, samePointer, run_sameAddr_same]
theorem shape_of_blk {w : World} {g : Nat} {t : TypeId} {cs : List Value} (h : Blk w g t cs) : w.shape? g = some (t, cs.length) := by
  unfold Blk at h
  unfold World.shape?
  simp [h]
theorem ent32_info : (Try.prog.info? 121).map (fun i => decide (i.size = 0)) = some false := by kernel_rfl
theorem ent32_lies : liesAt Try.prog Try.prog.depth 121 (2 / Try.prog.cellsOf 121) 0 121 1 = true := by kernel_rfl
set_option maxRecDepth 100000 in
set_option maxHeartbeats 1000000 in
theorem ent32_to {w : World} {g : Nat} {v n : Value} (h : Blk w g 121 [v, n]) : (convert 112 114 (.pointer (some ⟨g, 0, none⟩))).run Try.prog w = .ok (.pointer (some ⟨g, 0, none⟩)) w :=
  run_convert_to_unsafe (t := 121) (by kernel_rfl) (by kernel_rfl) ent32_info (v := v) (by rw [h.cell]; rfl)
set_option maxRecDepth 100000 in
set_option maxHeartbeats 1000000 in
theorem ent32_from {w : World} {g : Nat} {v n : Value} (h : Blk w g 121 [v, n]) : (convert 114 112 (.pointer (some ⟨g, 0, none⟩))).run Try.prog w = .ok (.pointer (some ⟨g, 0, none⟩)) w := by
  obtain ⟨j, hj, _⟩ := Option.map_eq_some_iff.1 ent32_info
  exact Lib.run_from_unsafe (e := 121) (u := 121) (cells := 2) w ⟨g, 0, none⟩ (by kernel_rfl) (by kernel_rfl) hj (shape_of_blk h) ent32_lies
set_option maxRecDepth 100000 in
set_option maxHeartbeats 1000000 in
theorem p32_load (b o e : Nat) (v n : Value) (w : World) (h : w.cell? ⟨b, o, none⟩ = some (.pointer (some ⟨e, 0, none⟩))) (he : Blk w e 121 [v, n]) : Calls Try.prog 60 #[.pointer (some ⟨b, o, none⟩)] w fun r w' => r = .returned (.pointer (some ⟨e, 0, none⟩)) ∧ w = w' := by
  have hl := run_call_loadp (P := Try.prog) Try.func74 (by kernel_rfl) (by kernel_rfl) (by kernel_rfl) (by kernel_rfl) h
  have hc := ent32_from he
  clear he
  go_enter Try.func60, Try.ntmps60
  go_wp2
  go_ret
  exact ⟨rfl, rfl⟩
set_option maxRecDepth 100000 in
set_option maxHeartbeats 1000000 in
theorem p32_store (b o e : Nat) (u v n : Value) (w : World) (h : w.cell? ⟨b, o, none⟩ = some u) (hf : w.frozen? ⟨b, o, none⟩ = false) (he : Blk w e 121 [v, n]) : Calls Try.prog 41 #[.pointer (some ⟨b, o, none⟩), .pointer (some ⟨e, 0, none⟩)] w fun r w' => r = .returned (.tuple #[]) ∧ w.setCell ⟨b, o, none⟩ (.pointer (some ⟨e, 0, none⟩)) = w' := by
  have hl := run_call_storep (P := Try.prog) Try.func63 (by kernel_rfl) (by kernel_rfl) (by kernel_rfl) (by kernel_rfl) (y := some ⟨e, 0, none⟩) h hf
  have hc := ent32_to he
  clear he
  go_enter Try.func41, Try.ntmps41
  go_wp2
  go_end0
  exact ⟨rfl, rfl⟩
set_option maxRecDepth 100000 in
set_option maxHeartbeats 1000000 in
theorem p32_cas (b o e e' : Nat) (v n v' n' : Value) (w : World) (h : w.cell? ⟨b, o, none⟩ = some (.pointer (some ⟨e, 0, none⟩))) (hf : w.frozen? ⟨b, o, none⟩ = false) (he : Blk w e 121 [v, n]) (he' : Blk w e' 121 [v', n']) : Calls Try.prog 75 #[.pointer (some ⟨b, o, none⟩), .pointer (some ⟨e, 0, none⟩), .pointer (some ⟨e', 0, none⟩)] w fun r w' => r = .returned (.bool true) ∧ w.setCell ⟨b, o, none⟩ (.pointer (some ⟨e', 0, none⟩)) = w' := by
  have hl := run_call_casp (P := Try.prog) Try.func78 (by kernel_rfl) (by kernel_rfl) (by kernel_rfl) (by kernel_rfl) (y := some ⟨e', 0, none⟩) h hf
  have hc := ent32_to he
  have hc' := ent32_to he'
  clear he he'
  go_enter Try.func75, Try.ntmps75
  go_wp2
  go_ret
  exact ⟨rfl, rfl⟩
end Go.Proofs.Ytakpfkfhbeobeaa.at_
