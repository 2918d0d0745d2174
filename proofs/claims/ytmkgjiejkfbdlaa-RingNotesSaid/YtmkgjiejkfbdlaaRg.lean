/-
  ring: its words, New's object, the single operations, the slot of a count.
-/
import Derived.Test.YtmkgjiejkfbdlaaGt
import Derived.Test.YtmkgjiejkfbdlaaAtU
import Derived.RegionTactic
import Derived.RegionCalls
import Derived.BigRegion
import Derived.Deep.OwnRows
import Derived.Lib.BitFns
import Derived.IntWalk
set_option linter.unusedVariables false
namespace Go.Proofs.Ytmkgjiejkfbdlaa.rg
open Go.RowKit Go.Proofs.Ytmkgjiejkfbdlaa.oc Go.Proofs.Ytmkgjiejkfbdlaa.mz Go.Proofs.Ytmkgjiejkfbdlaa.at_ Go.Proofs.Ytmkgjiejkfbdlaa.gt
/-- block R is a ring of n slots, its words ws lie in block W -/
structure Rg (w : World) (R W n : Nat) (ws : List Nat) : Prop where
  blk : Blk w R 65 [.pointer (some ⟨R, 0, none⟩), .int .u64 (n : Int), .slice (some ⟨W, 0, none⟩) (n + 2) (n + 2)]
  row : Blk w W 98 (u64s ws)
  len : ws.length = n + 2
  sm : ∀ x ∈ ws, x < 18446744073709551616
  ne : R ≠ W
  pos : 0 < n
  top : n ≤ 1024
section
variable {w w' : World} {R W n : Nat} {ws : List Nat}
theorem Rg.keeps {S : Nat → Prop} (h : Rg w R W n ws) (k : Keeps S w w') (hR : ¬ S R) (hW : ¬ S W) : Rg w' R W n ws := ⟨Blk.keeps h.blk k hR, Blk.keeps h.row k hW, h.len, h.sm, h.ne, h.pos, h.top⟩
theorem Rg.cell0 (h : Rg w R W n ws) : w.cell? ⟨R, 0, none⟩ = some (.pointer (some ⟨R, 0, none⟩)) := by rw [h.blk.cell]; rfl
theorem Rg.cell1 (h : Rg w R W n ws) : w.cell? ⟨R, 1, none⟩ = some (.int .u64 (n : Int)) := by rw [h.blk.cell]; rfl
theorem Rg.cell2 (h : Rg w R W n ws) : w.cell? ⟨R, 2, none⟩ = some (.slice (some ⟨W, 0, none⟩) (n + 2) (n + 2)) := by rw [h.blk.cell]; rfl
theorem Rg.word (h : Rg w R W n ws) {k : Nat} (hk : k < n + 2) : w.cell? ⟨W, k, none⟩ = some (.int .u64 ((ws[k]?.getD 0 : Nat) : Int)) := by
  rw [h.row.cell]
  have hl := h.len
  have : ws[k]? = some (ws[k]?.getD 0) := by rw [List.getElem?_eq_getElem (by omega)]; rfl
  rw [u64s, List.getElem?_map, this]; rfl
theorem Rg.small (h : Rg w R W n ws) (k : Nat) : ws[k]?.getD 0 < 18446744073709551616 := by
  rcases Nat.lt_or_ge k ws.length with q | q
  · rw [List.getElem?_eq_getElem q]; exact h.sm _ (List.getElem_mem q)
  · rw [List.getElem?_eq_none q]; simp
theorem Rg.set (h : Rg w R W n ws) {k v : Nat} (hv : v < 18446744073709551616) : Rg (w.setCell ⟨W, k, none⟩ (.int .u64 (v : Int))) R W n (ws.set k v) := by
  refine ⟨h.blk.far (p := ⟨W, k, none⟩) h.ne _, ?_, by simpa using h.len, fun x hx => ?_, h.ne, h.pos, h.top⟩
  · have := h.row.put k (.int .u64 (v : Int))
    rwa [show (u64s ws).set k (.int .u64 (v : Int)) = u64s (ws.set k v) from by simp [u64s, List.map_set]] at this
  · rcases List.mem_or_eq_of_mem_set hx with q | q
    · exact h.sm x q
    · subst q; exact hv
end
theorem ring_info : (Try.prog.info? 65).map (fun i => i.size) = some 3 := by kernel_rfl
theorem ring_self (w : World) (a : Addr) : (binOp .neq 25 (.pointer (some a)) (.pointer (some a))).run Try.prog w = .ok (.bool false) w := by
  cases hi : Try.prog.info? 65 with
  | none => have := ring_info; rw [hi] at this; cases this
  | some i => exact Lib.run_neq_ptr_same w a Try.underlying25 hi
set_option maxRecDepth 100000 in
set_option maxHeartbeats 1000000 in
theorem none_ (R W n : Nat) (ws : List Nat) (w : World) (h : Rg w R W n ws) : Calls Try.prog 22 #[.pointer (some ⟨R, 0, none⟩)] w fun e w' => e = .returned (.bool false) ∧ w = w' := by
  have p0 := h.cell0
  have hns := ring_self
  clear h
  go_enter Try.func22, Try.ntmps22
  go_wp2
  go_ret
  exact ⟨rfl, rfl⟩
set_option maxRecDepth 100000 in
set_option maxHeartbeats 1000000 in
theorem load_ (R W n k N : Nat) (ws : List Nat) (gv : Value) (ms : List (Nat × Nat)) (w : World) (h : Rg w R W n ws) (hg : Gate w gv N ms) (hl : ms.length < 1000000) (hk : k < n + 2) (hR : R < N) (hW : W < N) :
    Calls Try.prog 23 #[.pointer (some ⟨R, 0, none⟩), gv, .int .i64 (k : Int)] w fun e w' => e = .returned (.int .u64 ((ws[k]?.getD 0 : Nat) : Int)) ∧ Gate w' gv N (ms ++ [(1, k)]) ∧ Keeps (fun b => N ≤ b) w w' := by
  have HT := Lib.hid (gate_tell gv 1 k N w ms hg hl)
  have H := Lib.hid h
  have HB : Hid (R < N ∧ W < N) := Lib.hid ⟨hR, hW⟩
  have hk' : (k : Int) < (n : Int) + 2 := by omega
  have h0 : (0 : Int) ≤ (k : Int) := by omega
  have HK : Hid (k < n + 2) := Lib.hid hk
  clear h hg hl hR hW hk
  go_enter Try.func23, Try.ntmps23
  go_wp2_with fail
  refine HT.out.mono ?_
  rintro e w1 ⟨rfl, g1, k1⟩
  have h1 := H.out.keeps k1 (by have := HB.out; omega) (by have := HB.out; omega)
  have c2 := h1.cell2
  have G1 := Lib.hid g1
  have K1 := Lib.hid k1
  have HL := Lib.hid (u64_load W k _ w1 (h1.word HK.out))
  clear g1 k1 h1
  go_wp2_with fail
  refine HL.out.mono ?_
  rintro e w2 ⟨rfl, rfl⟩
  go_wp2
  go_ret
  exact ⟨rfl, G1.out, K1.out⟩
set_option maxRecDepth 100000 in
set_option maxHeartbeats 1000000 in
theorem store_ (R W n k N v : Nat) (ws : List Nat) (gv : Value) (ms : List (Nat × Nat)) (w : World) (h : Rg w R W n ws) (hg : Gate w gv N ms) (hl : ms.length < 1000000) (hk : k < n + 2) (hR : R < N) (hW : W < N) (hv : v < 18446744073709551616) :
    Calls Try.prog 24 #[.pointer (some ⟨R, 0, none⟩), gv, .int .i64 (k : Int), .int .u64 (v : Int)] w fun e w' => e = .returned (.tuple #[]) ∧ Rg w' R W n (ws.set k v) ∧ Gate w' gv N (ms ++ [(2, k)]) ∧ Keeps (fun b => b = W ∨ N ≤ b) w w' := by
  have HT := Lib.hid (gate_tell gv 2 k N w ms hg hl)
  have H := Lib.hid h
  have HB : Hid (R < N ∧ W < N) := Lib.hid ⟨hR, hW⟩
  have hk' : (k : Int) < (n : Int) + 2 := by omega
  have h0 : (0 : Int) ≤ (k : Int) := by omega
  have HK : Hid (k < n + 2) := Lib.hid hk
  have HV : Hid (v < 18446744073709551616) := Lib.hid hv
  clear h hg hl hR hW hk hv
  go_enter Try.func24, Try.ntmps24
  go_wp2_with fail
  refine HT.out.mono ?_
  rintro e w1 ⟨rfl, g1, k1⟩
  have h1 := H.out.keeps k1 (by have := HB.out; omega) (by have := HB.out; omega)
  have c2 := h1.cell2
  have G1 := Lib.hid g1
  have K1 := Lib.hid k1
  have H1 := Lib.hid h1
  have HL := Lib.hid (u64_store W k _ v w1 (h1.word HK.out) (h1.row.frozen k))
  clear g1 k1 h1
  go_wp2_with fail
  refine HL.out.mono ?_
  rintro e w2 ⟨rfl, rfl⟩
  go_wp2
  go_end0
  have kW : Keeps (· = W) w1 (w1.setCell ⟨W, k, none⟩ (.int .u64 (v : Int))) := Keeps.here _
  exact ⟨rfl, H1.out.set HV.out, G1.out.keeps kW (fun b hb e => by have := HB.out; omega), (K1.out.mono (fun _ _ z => .inr z)).trans (kW.mono (fun _ _ z => .inl z))⟩
theorem slot_eq (n c : Nat) (h0 : 0 < n) (hn : n ≤ 1024) (hc : c < 18446744073709551616) : wrap64 (2 + wrap64 (bits BinOp.and IntKind.u64 (c : Int) (IntKind.u64.wrap ((n : Int) - 1)))) = ((((n - 1) &&& c) + 2 : Nat) : Int) := by
  have e1 : IntKind.u64.wrap ((n : Int) - 1) = ((n - 1 : Nat) : Int) := by rw [wrap_u64]; omega
  rw [e1, u64_and_nat c (n - 1) hc (by omega), Nat.and_comm]
  have hle : (n - 1) &&& c ≤ n - 1 := Nat.and_le_left
  generalize (n - 1) &&& c = s at *
  unfold wrap64
  omega
set_option maxRecDepth 100000 in
set_option maxHeartbeats 1000000 in
theorem slot_ (R W n c : Nat) (ws : List Nat) (w : World) (h : Rg w R W n ws) (hc : c < 18446744073709551616) :
    Calls Try.prog 25 #[.pointer (some ⟨R, 0, none⟩), .int .u64 (c : Int)] w fun e w' => e = .returned (.int .i64 ((((n - 1) &&& c) + 2 : Nat) : Int)) ∧ w = w' := by
  have c1 := h.cell1
  rw [← slot_eq n c h.pos h.top hc]
  clear h hc
  go_enter Try.func25, Try.ntmps25
  go_wp2
  go_ret
  exact ⟨rfl, rfl⟩
end Go.Proofs.Ytmkgjiejkfbdlaa.rg
