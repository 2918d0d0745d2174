/-
  gates.Words under a gate of notes, or none: Load, Store, CAS; the gate's frame told.
-/
import Derived.Test.YtjgbbjfphjhdcaaGt
import Derived.Test.YtjgbbjfphjhdcaaAtU
import Derived.RegionTactic
import Derived.RegionCalls
import Derived.BigRegion
import Derived.Deep.OwnRows
import Derived.Lib.BitFns
import Derived.IntWalk
set_option linter.unusedVariables false
namespace Go.Proofs.Ytjgbbjfphjhdcaa.gw
open Go.RowKit Go.Proofs.Ytjgbbjfphjhdcaa.oc Go.Proofs.Ytjgbbjfphjhdcaa.mz Go.Proofs.Ytjgbbjfphjhdcaa.at_ Go.Proofs.Ytjgbbjfphjhdcaa.gt
/-- a gate: none, or the notes at N, told ms, that may write in F alone -/
def GF (w : World) (gv : Value) (N : Nat) (ms : List (Nat × Nat)) (F : Nat → Prop) : Prop := gv = .nilIface ∨ (gv = .iface 44 (.pointer (some ⟨N, 0, none⟩)) ∧ NInv w N ms F)
theorem GF.keeps {w w' : World} {gv : Value} {N : Nat} {ms : List (Nat × Nat)} {F S : Nat → Prop} (h : GF w gv N ms F) (k : Keeps S w w') (hs : ∀ b, F b → ¬ S b) : GF w' gv N ms F := by
  rcases h with h | ⟨e, h⟩
  · exact .inl h
  · exact .inr ⟨e, h.keeps k hs⟩
theorem GF.nil_ (w : World) (N : Nat) (ms : List (Nat × Nat)) (F : Nat → Prop) : GF w .nilIface N ms F := .inl rfl
theorem GF.gate {w : World} {gv : Value} {N : Nat} {ms : List (Nat × Nat)} {F : Nat → Prop} (h : GF w gv N ms F) : Gate w gv N ms := by
  rcases h with h | ⟨e, h⟩
  · exact .inl h
  · exact .inr ⟨e, F, h⟩
theorem gate_gf {w : World} {gv : Value} {N : Nat} {ms : List (Nat × Nat)} (h : Gate w gv N ms) : ∃ F, GF w gv N ms F ∧ ∀ b, F b → N ≤ b ∧ b < w.heap.size := by
  rcases h with h | ⟨e, F, h⟩
  · exact ⟨fun _ => False, .inl h, fun b z => z.elim⟩
  · exact ⟨F, .inr ⟨e, h⟩, h.above⟩
theorem grown_twice {w w1 w2 : World} {F : Nat → Prop} (h1 : w.heap.size ≤ w1.heap.size) (h2 : w1.heap.size ≤ w2.heap.size) : Grown w1 w2 (Grown w w1 F) = Grown w w2 F := by
  funext b
  unfold mz.Grown
  apply propext
  constructor
  · rintro ((h | h) | h)
    · exact .inl h
    · exact .inr ⟨h.1, by omega⟩
    · exact .inr ⟨by omega, h.2⟩
  · rintro (h | h)
    · exact .inl (.inl h)
    · rcases Nat.lt_or_ge b w1.heap.size with q | q
      · exact .inl (.inr ⟨h.1, q⟩)
      · exact .inr ⟨q, h.2⟩
/-- one behind the other: what is new in between does not count -/
theorem Keeps.glue {S S' : Nat → Prop} {a b c : World} (h : Keeps S a b) (k : Keeps S' b c) (hs : ∀ x, x < a.heap.size → S' x → S x) : Keeps S a c :=
  ⟨Nat.le_trans h.size k.size, fun x hx hn => (k.block x (by have := h.size; omega) (fun z => hn (hs x hx z))).trans (h.block x hx hn), h.same.trans k.same⟩
theorem grown_not {w w1 : World} {F : Nat → Prop} {b : Nat} (hb : b < w.heap.size) (hF : ¬ F b) : ¬ Grown w w1 F b := by
  rintro (h | h)
  · exact hF h
  · omega
theorem grown_old {w w1 : World} {F : Nat → Prop} {b : Nat} (hb : b < w.heap.size) (h : Grown w w1 F b) : F b := by
  rcases h with h | h
  · exact h
  · omega
theorem gf_tell (gv : Value) (op x N : Nat) (w : World) (ms : List (Nat × Nat)) (F : Nat → Prop) (h : GF w gv N ms F) (hl : ms.length < 1000000) :
    Calls Try.prog 21 #[gv, .int .u8 op, .int .i64 (x : Int)] w fun e w' => e = .returned (.tuple #[]) ∧ GF w' gv N (ms ++ [(op, x)]) (Grown w w' F) ∧ Keeps F w w' := by
  rcases h with rfl | ⟨rfl, h⟩
  · refine (tell_nil op x w).mono ?_
    rintro e w' ⟨rfl, rfl⟩
    exact ⟨rfl, .inl rfl, Keeps.refl _ _⟩
  · refine (tell_notes N op x w ms F h hl).mono ?_
    rintro e w' ⟨rfl, h1, h2⟩
    exact ⟨rfl, .inr ⟨rfl, h1⟩, h2⟩
/-- the words ws lie in block W -/
structure Wd (w : World) (W : Nat) (ws : List Nat) : Prop where
  row : Blk w W 62 (u64s ws)
  sm : ∀ x ∈ ws, x < 18446744073709551616
section
variable {w w' : World} {W : Nat} {ws : List Nat}
theorem Wd.keeps {S : Nat → Prop} (h : Wd w W ws) (k : Keeps S w w') (hW : ¬ S W) : Wd w' W ws := ⟨Blk.keeps h.row k hW, h.sm⟩
theorem Wd.word (h : Wd w W ws) {k : Nat} (hk : k < ws.length) : w.cell? ⟨W, k, none⟩ = some (.int .u64 ((ws[k]?.getD 0 : Nat) : Int)) := by
  rw [h.row.cell]
  have : ws[k]? = some (ws[k]?.getD 0) := by rw [List.getElem?_eq_getElem hk]; rfl
  rw [u64s, List.getElem?_map, this]; rfl
theorem Wd.small (h : Wd w W ws) (k : Nat) : ws[k]?.getD 0 < 18446744073709551616 := by
  rcases Nat.lt_or_ge k ws.length with q | q
  · rw [List.getElem?_eq_getElem q]; exact h.sm _ (List.getElem_mem q)
  · rw [List.getElem?_eq_none q]; simp
theorem Wd.set (h : Wd w W ws) {k v : Nat} (hv : v < 18446744073709551616) : Wd (w.setCell ⟨W, k, none⟩ (.int .u64 (v : Int))) W (ws.set k v) := by
  refine ⟨?_, fun x hx => ?_⟩
  · have := h.row.put k (.int .u64 (v : Int))
    rwa [show (u64s ws).set k (.int .u64 (v : Int)) = u64s (ws.set k v) from by simp [u64s, List.map_set]] at this
  · rcases List.mem_or_eq_of_mem_set hx with q | q
    · exact h.sm x q
    · subst q; exact hv
end
section
variable (W L k N : Nat) (ws : List Nat) (gv : Value) (ms : List (Nat × Nat)) (F : Nat → Prop) (w : World)
set_option maxRecDepth 100000 in
set_option maxHeartbeats 1000000 in
theorem load_ (h : Wd w W ws) (hL : ws.length = L) (hg : GF w gv N ms F) (hl : ms.length < 1000000) (hk : k < L) (hW : ¬ F W) :
    Calls Try.prog 20 #[.slice (some ⟨W, 0, none⟩) L L, gv, .int .i64 (k : Int)] w fun e w' => e = .returned (.int .u64 ((ws[k]?.getD 0 : Nat) : Int)) ∧ GF w' gv N (ms ++ [(1, k)]) (Grown w w' F) ∧ Keeps F w w' := by
  have HT := Lib.hid (gf_tell gv 1 k N w ms F hg hl)
  have H := Lib.hid h
  have hk' : (k : Int) < (L : Int) := by omega
  have h0 : (0 : Int) ≤ (k : Int) := by omega
  have HK : Hid (k < ws.length) := Lib.hid (by omega)
  have HB : Hid (¬ F W) := Lib.hid hW
  clear h hg hl hW hk hL
  go_enter Try.func20, Try.ntmps20
  go_wp2_with fail
  refine HT.out.mono ?_
  rintro e w1 ⟨rfl, g1, k1⟩
  have h1 := H.out.keeps k1 HB.out
  have G1 := Lib.hid g1
  have K1 := Lib.hid k1
  have HL := Lib.hid (u64_load W k _ w1 (h1.word HK.out))
  clear g1 k1 h1
  go_wp2_with fail
  refine HL.out.mono ?_
  rintro e w2 ⟨rfl, rfl⟩
  go_wp2
  go_ret
  exact ⟨rfl, G1.out, K1.out⟩
set_option maxRecDepth 100000 in
set_option maxHeartbeats 1000000 in
theorem store_ (v : Nat) (h : Wd w W ws) (hL : ws.length = L) (hg : GF w gv N ms F) (hl : ms.length < 1000000) (hk : k < L) (hW : ¬ F W) (hWl : W < w.heap.size) (hv : v < 18446744073709551616) :
    Calls Try.prog 11 #[.slice (some ⟨W, 0, none⟩) L L, gv, .int .i64 (k : Int), .int .u64 (v : Int)] w fun e w' => e = .returned (.tuple #[]) ∧ Wd w' W (ws.set k v) ∧ GF w' gv N (ms ++ [(2, k)]) (Grown w w' F) ∧ Keeps (fun b => b = W ∨ F b) w w' := by
  have HT := Lib.hid (gf_tell gv 2 k N w ms F hg hl)
  have H := Lib.hid h
  have hk' : (k : Int) < (L : Int) := by omega
  have h0 : (0 : Int) ≤ (k : Int) := by omega
  have HK : Hid (k < ws.length) := Lib.hid (by omega)
  have HB : Hid (¬ F W ∧ W < w.heap.size ∧ v < 18446744073709551616) := Lib.hid ⟨hW, hWl, hv⟩
  clear h hg hl hW hk hL hWl hv
  go_enter Try.func11, Try.ntmps11
  go_wp2_with fail
  refine HT.out.mono ?_
  rintro e w1 ⟨rfl, g1, k1⟩
  have h1 := H.out.keeps k1 HB.out.1
  have G1 := Lib.hid g1
  have K1 := Lib.hid k1
  have H1 := Lib.hid h1
  have HL := Lib.hid (u64_store W k _ v w1 (h1.word HK.out) (h1.row.frozen k))
  clear g1 k1 h1
  go_wp2_with fail
  refine HL.out.mono ?_
  rintro e w2 ⟨rfl, rfl⟩
  go_wp2
  go_end0
  have kW : Keeps (· = W) w1 (w1.setCell ⟨W, k, none⟩ (.int .u64 (v : Int))) := Keeps.here _
  have hz : (w1.setCell ⟨W, k, none⟩ (.int .u64 (v : Int))).heap.size = w1.heap.size := by simp [World.setCell]
  refine ⟨rfl, H1.out.set HB.out.2.2, ?_, (K1.out.mono (fun _ _ z => .inr z)).trans (kW.mono (fun _ _ z => .inl z))⟩
  have g2 := G1.out.keeps kW (fun b hb e => by subst e; exact grown_not HB.out.2.1 HB.out.1 hb)
  have he : Grown w (w1.setCell ⟨W, k, none⟩ (.int .u64 (v : Int))) F = Grown w w1 F := by unfold mz.Grown; rw [hz]
  rw [he]
  exact g2
set_option maxRecDepth 100000 in
set_option maxHeartbeats 1000000 in
theorem cas_ (u v : Nat) (h : Wd w W ws) (hL : ws.length = L) (hu : ws[k]?.getD 0 = u) (hg : GF w gv N ms F) (hl : ms.length < 1000000) (hk : k < L) (hW : ¬ F W) (hWl : W < w.heap.size) (hv : v < 18446744073709551616) :
    Calls Try.prog 25 #[.slice (some ⟨W, 0, none⟩) L L, gv, .int .i64 (k : Int), .int .u64 (u : Int), .int .u64 (v : Int)] w fun e w' => e = .returned (.bool true) ∧ Wd w' W (ws.set k v) ∧ GF w' gv N (ms ++ [(5, k)]) (Grown w w' F) ∧ Keeps (fun b => b = W ∨ F b) w w' := by
  have HT := Lib.hid (gf_tell gv 5 k N w ms F hg hl)
  have H := Lib.hid h
  have hk' : (k : Int) < (L : Int) := by omega
  have h0 : (0 : Int) ≤ (k : Int) := by omega
  have HK : Hid (k < ws.length) := Lib.hid (by omega)
  have HU : Hid (ws[k]?.getD 0 = u) := Lib.hid hu
  have HB : Hid (¬ F W ∧ W < w.heap.size ∧ v < 18446744073709551616) := Lib.hid ⟨hW, hWl, hv⟩
  clear h hg hl hW hk hL hWl hv hu
  go_enter Try.func25, Try.ntmps25
  go_wp2_with fail
  refine HT.out.mono ?_
  rintro e w1 ⟨rfl, g1, k1⟩
  have h1 := H.out.keeps k1 HB.out.1
  have G1 := Lib.hid g1
  have K1 := Lib.hid k1
  have H1 := Lib.hid h1
  have hw := h1.word HK.out
  rw [HU.out] at hw
  have HL := Lib.hid (u64_cas W k _ v w1 hw (h1.row.frozen k))
  clear g1 k1 h1 hw
  go_wp2_with fail
  refine HL.out.mono ?_
  rintro e w2 ⟨rfl, rfl⟩
  go_wp2
  go_ret
  have kW : Keeps (· = W) w1 (w1.setCell ⟨W, k, none⟩ (.int .u64 (v : Int))) := Keeps.here _
  have hz : (w1.setCell ⟨W, k, none⟩ (.int .u64 (v : Int))).heap.size = w1.heap.size := by simp [World.setCell]
  refine ⟨rfl, H1.out.set HB.out.2.2, ?_, (K1.out.mono (fun _ _ z => .inr z)).trans (kW.mono (fun _ _ z => .inl z))⟩
  have g2 := G1.out.keeps kW (fun b hb e => by subst e; exact grown_not HB.out.2.1 HB.out.1 hb)
  have he : Grown w (w1.setCell ⟨W, k, none⟩ (.int .u64 (v : Int))) F = Grown w w1 F := by unfold mz.Grown; rw [hz]
  rw [he]
  exact g2
end
end Go.Proofs.Ytjgbbjfphjhdcaa.gw
