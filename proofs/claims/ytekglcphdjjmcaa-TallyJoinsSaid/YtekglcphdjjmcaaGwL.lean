/-
  gates.Words under a gate of notes, or none: Load; the gate's frame told.
-/
import Derived.Test.YtekglcphdjjmcaaGf
import Derived.Test.YtekglcphdjjmcaaAtU
import Derived.RegionTactic
import Derived.RegionCalls
import Derived.BigRegion
import Derived.Deep.OwnRows
import Derived.Lib.BitFns
import Derived.IntWalk
set_option linter.unusedVariables false
namespace Go.Proofs.Ytekglcphdjjmcaa.gw
open Go.RowKit Go.Proofs.Ytekglcphdjjmcaa.oc Go.Proofs.Ytekglcphdjjmcaa.mz Go.Proofs.Ytekglcphdjjmcaa.at_ Go.Proofs.Ytekglcphdjjmcaa.gt
/-- the words ws lie in block W -/
structure Wd (w : World) (W : Nat) (ws : List Nat) : Prop where
  row : Blk w W 88 (u64s ws)
  sm : ∀ x ∈ ws, x < 18446744073709551616
section
variable {w w' : World} {W : Nat} {ws : List Nat}
theorem Wd.keeps {S : Nat → Prop} (h : Wd w W ws) (k : Keeps S w w') (hW : ¬ S W) : Wd w' W ws := ⟨Blk.keeps h.row k hW, h.sm⟩
theorem Wd.word (h : Wd w W ws) {k : Nat} (hk : k < ws.length) : w.cell? ⟨W, k, none⟩ = some (.int .u64 ((ws[k]?.getD 0 : Nat) : Int)) := by
  rw [h.row.cell]
  have : ws[k]? = some (ws[k]?.getD 0) := by rw [List.getElem?_eq_getElem hk]; rfl
  rw [u64s, List.getElem?_map, this]; rfl
theorem Wd.small (h : Wd w W ws) (k : Nat) : ws[k]?.getD 0 < 18446744073709551616 := by
  rcases Nat.lt_or_ge k ws.length with q | q
  · rw [List.getElem?_eq_getElem q]; exact h.sm _ (List.getElem_mem q)
  · rw [List.getElem?_eq_none q]; simp
theorem Wd.set (h : Wd w W ws) {k v : Nat} (hv : v < 18446744073709551616) : Wd (w.setCell ⟨W, k, none⟩ (.int .u64 (v : Int))) W (ws.set k v) := by
  refine ⟨?_, fun x hx => ?_⟩
  · have := h.row.put k (.int .u64 (v : Int))
    rwa [show (u64s ws).set k (.int .u64 (v : Int)) = u64s (ws.set k v) from by simp [u64s, List.map_set]] at this
  · rcases List.mem_or_eq_of_mem_set hx with q | q
    · exact h.sm x q
    · subst q; exact hv
end
section
variable (W L k N : Nat) (ws : List Nat) (gv : Value) (ms : List (Nat × Nat)) (F : Nat → Prop) (w : World)
set_option maxRecDepth 100000 in
set_option maxHeartbeats 1000000 in
theorem load_ (h : Wd w W ws) (hL : ws.length = L) (hg : GF w gv N ms F) (hl : ms.length < 1000000) (hk : k < L) (hW : ¬ F W) :
    Calls Try.prog 23 #[.slice (some ⟨W, 0, none⟩) L L, gv, .int .i64 (k : Int)] w fun e w' => e = .returned (.int .u64 ((ws[k]?.getD 0 : Nat) : Int)) ∧ GF w' gv N (ms ++ [(1, k)]) (Grown w w' F) ∧ Keeps F w w' := by
  have HT := Lib.hid (gf_tell gv 1 k N w ms F hg hl)
  have H := Lib.hid h
  have hk' : (k : Int) < (L : Int) := by omega
  have h0 : (0 : Int) ≤ (k : Int) := by omega
  have HK : Hid (k < ws.length) := Lib.hid (by omega)
  have HB : Hid (¬ F W) := Lib.hid hW
  clear h hg hl hW hk hL
  go_enter Try.func23, Try.ntmps23
  go_wp2_with fail
  refine HT.out.mono ?_
  rintro e w1 ⟨rfl, g1, k1⟩
  have h1 := H.out.keeps k1 HB.out
  have G1 := Lib.hid g1
  have K1 := Lib.hid k1
  have HL := Lib.hid (u64_load W k _ w1 (h1.word HK.out))
  clear g1 k1 h1
  go_wp2_with fail
  refine HL.out.mono ?_
  rintro e w2 ⟨rfl, rfl⟩
  go_wp2
  go_ret
  exact ⟨rfl, G1.out, K1.out⟩
end
end Go.Proofs.Ytekglcphdjjmcaa.gw
