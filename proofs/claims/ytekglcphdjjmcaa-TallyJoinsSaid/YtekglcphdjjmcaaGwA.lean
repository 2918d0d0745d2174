/-
  gates.Words under a gate of notes, or none: Add; the gate's frame told.
-/
import Derived.Test.YtekglcphdjjmcaaGwL
set_option linter.unusedVariables false
namespace Go.Proofs.Ytekglcphdjjmcaa.gw
open Go.RowKit Go.Proofs.Ytekglcphdjjmcaa.oc Go.Proofs.Ytekglcphdjjmcaa.mz Go.Proofs.Ytekglcphdjjmcaa.at_ Go.Proofs.Ytekglcphdjjmcaa.gt
section
variable (W L k N : Nat) (ws : List Nat) (gv : Value) (ms : List (Nat × Nat)) (F : Nat → Prop) (w : World)
set_option maxRecDepth 100000 in
set_option maxHeartbeats 1000000 in
theorem add_ (n : Nat) (h : Wd w W ws) (hL : ws.length = L) (hg : GF w gv N ms F) (hl : ms.length < 1000000) (hk : k < L) (hW : ¬ F W) (hWl : W < w.heap.size) :
    Calls Try.prog 22 #[.slice (some ⟨W, 0, none⟩) L L, gv, .int .i64 (k : Int), .int .u64 (n : Int)] w fun e w' => e = .returned (.int .u64 (((ws[k]?.getD 0 + n) % W64 : Nat) : Int)) ∧ Wd w' W (ws.set k ((ws[k]?.getD 0 + n) % W64)) ∧ GF w' gv N (ms ++ [(3, k)]) (Grown w w' F) ∧ Keeps (fun b => b = W ∨ F b) w w' := by
  have HT := Lib.hid (gf_tell gv 3 k N w ms F hg hl)
  have H := Lib.hid h
  have hk' : (k : Int) < (L : Int) := by omega
  have h0 : (0 : Int) ≤ (k : Int) := by omega
  have HK : Hid (k < ws.length) := Lib.hid (by omega)
  have HB : Hid (¬ F W ∧ W < w.heap.size) := Lib.hid ⟨hW, hWl⟩
  have ht := mod_lt64 (ws[k]?.getD 0 + n)
  have HUL : Hid (∀ w1, Wd w1 W ws → Calls Try.prog 35 #[.pointer (some ⟨W, k, none⟩), .int .u64 n] w1 fun e w' => e = .returned (.int .u64 (((ws[k]?.getD 0 + n) % W64 : Nat) : Int)) ∧ w' = w1.setCell ⟨W, k, none⟩ (.int .u64 (((ws[k]?.getD 0 + n) % W64 : Nat) : Int))) := Lib.hid (fun w1 h1 => u64_add W k _ n w1 (h1.word HK.out) (h1.row.frozen k))
  clear h hg hl hW hk hL hWl
  generalize (ws[k]?.getD 0 + n) % W64 = t at *
  have HTT := Lib.hid ht
  clear ht
  go_enter Try.func22, Try.ntmps22
  go_wp2_with fail
  refine HT.out.mono ?_
  rintro e w1 ⟨rfl, g1, k1⟩
  have h1 := H.out.keeps k1 HB.out.1
  have G1 := Lib.hid g1
  have K1 := Lib.hid k1
  have H1 := Lib.hid h1
  have HL := Lib.hid (HUL.out w1 h1)
  clear g1 k1 h1
  go_wp2_with fail
  refine HL.out.mono ?_
  rintro e w2 ⟨rfl, rfl⟩
  go_wp2
  go_ret
  have kW : Keeps (· = W) w1 (w1.setCell ⟨W, k, none⟩ (.int .u64 (t : Int))) := Keeps.here _
  have hz : (w1.setCell ⟨W, k, none⟩ (.int .u64 (t : Int))).heap.size = w1.heap.size := by simp [World.setCell]
  refine ⟨rfl, H1.out.set HTT.out, ?_, (K1.out.mono (fun _ _ z => .inr z)).trans (kW.mono (fun _ _ z => .inl z))⟩
  have g2 := G1.out.keeps kW (fun b hb e => by subst e; exact grown_not HB.out.2 HB.out.1 hb)
  have he : Grown w (w1.setCell ⟨W, k, none⟩ (.int .u64 (t : Int))) F = Grown w w1 F := by unfold mz.Grown; rw [hz]
  rw [he]
  exact g2
end
end Go.Proofs.Ytekglcphdjjmcaa.gw
