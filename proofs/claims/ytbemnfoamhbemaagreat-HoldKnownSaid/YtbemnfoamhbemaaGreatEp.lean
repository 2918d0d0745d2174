/-
  epoch: New's object, its words, the single operations, check, elsewhere.
-/
import Derived.Test.YtbemnfoamhbemaaGreatGf
import Derived.Test.YtbemnfoamhbemaaGreatAtU
import Derived.RegionTactic
import Derived.RegionCalls
import Derived.BigRegion
import Derived.Deep.LoopGhost
import Derived.WalkMore
import Derived.Deep.RegionHeld3
import Derived.StillTailTactics
import Derived.Deep.QuietTactic
import Derived.BigQuiet
import Derived.IntWalk
set_option linter.unusedVariables false
namespace Go.Proofs.YtbemnfoamhbemaaGreat.ep
open Go.RowKit Go.Proofs.YtbemnfoamhbemaaGreat.oc Go.Proofs.YtbemnfoamhbemaaGreat.mz Go.Proofs.YtbemnfoamhbemaaGreat.at_ Go.Proofs.YtbemnfoamhbemaaGreat.gt Go.Proofs.YtbemnfoamhbemaaGreat.gw
/-- a domain's words, those that do not count too -/
def full (n : Nat) (ws : List Nat) : List Nat := ws ++ List.replicate (16 - n) 0
/-- block D is a domain of n slots, its words are ws -/
structure Ep (w : World) (D n : Nat) (ws : List Nat) : Prop where
  blk : Blk w D 188 (.pointer (some ⟨D, 0, none⟩) :: .int .i64 (n : Int) :: u64s (full n ws))
  len : ws.length = n + 1
  sm : ∀ x ∈ ws, x < 1000000
  pos : 1 ≤ n
  top : n ≤ 16
section
variable {w w' : World} {D n : Nat} {ws : List Nat}
theorem Ep.keeps {S : Nat → Prop} (h : Ep w D n ws) (k : Keeps S w w') (hD : ¬ S D) : Ep w' D n ws := ⟨Blk.keeps h.blk k hD, h.len, h.sm, h.pos, h.top⟩
theorem Ep.drew (h : Ep w D n ws) : Ep w.drew D n ws := h.keeps (S := fun _ => False) (Keeps.refl _ w).drew (fun z => z)
theorem Ep.cell0 (h : Ep w D n ws) : w.cell? ⟨D, 0, none⟩ = some (.pointer (some ⟨D, 0, none⟩)) := by rw [h.blk.cell]; rfl
theorem Ep.cell1 (h : Ep w D n ws) : w.cell? ⟨D, 1, none⟩ = some (.int .i64 (n : Int)) := by rw [h.blk.cell]; rfl
theorem Ep.lt (h : Ep w D n ws) : D < w.heap.size := h.blk.lt
theorem Ep.word (h : Ep w D n ws) {k : Nat} (hk : k < n + 1) : w.cell? ⟨D, k + 2, none⟩ = some (.int .u64 ((ws[k]?.getD 0 : Nat) : Int)) := by
  have hl := h.len
  have e1 : (full n ws)[k]? = some (ws[k]?.getD 0) := by
    unfold full
    rw [List.getElem?_append_left (by omega), List.getElem?_eq_getElem (by omega)]; rfl
  rw [h.blk.cell, List.getElem?_cons_succ, List.getElem?_cons_succ, u64s, List.getElem?_map, e1]; rfl
theorem Ep.small (h : Ep w D n ws) (k : Nat) : ws[k]?.getD 0 < 1000000 := by
  rcases Nat.lt_or_ge k ws.length with q | q
  · rw [List.getElem?_eq_getElem q]; exact h.sm _ (List.getElem_mem q)
  · rw [List.getElem?_eq_none q]; decide
theorem Ep.set (h : Ep w D n ws) {k v : Nat} (hk : k < n + 1) (hv : v < 1000000) : Ep (w.setCell ⟨D, k + 2, none⟩ (.int .u64 (v : Int))) D n (ws.set k v) := by
  have hl := h.len
  refine ⟨?_, by simpa using h.len, fun x hx => ?_, h.pos, h.top⟩
  · have := h.blk.put (k + 2) (.int .u64 (v : Int))
    rw [List.set_cons_succ, List.set_cons_succ] at this
    rwa [show (u64s (full n ws)).set k (.int .u64 (v : Int)) = u64s (full n (ws.set k v)) from by
      unfold full
      rw [u64s, ← List.map_set, List.set_append_left _ _ (by omega)]; rfl] at this
  · rcases List.mem_or_eq_of_mem_set hx with q | q
    · exact h.sm x q
    · subst q; exact hv
end
/-- what a call leaves: its domain, its gate, the frame -/
structure Left (D n N : Nat) (ws' : List Nat) (gv : Value) (ms' : List (Nat × Nat)) (F : Nat → Prop) (w w' : World) : Prop where
  ep : Ep w' D n ws'
  gate : GF w' gv N ms' (Grown w w' F)
  keep : Keeps (fun b => b = D ∨ F b) w w'
theorem Left.trans {D n N : Nat} {ws1 ws2 : List Nat} {gv : Value} {ms1 ms2 : List (Nat × Nat)} {F : Nat → Prop} {w w1 w2 : World} (h : Left D n N ws1 gv ms1 F w w1) (k : Left D n N ws2 gv ms2 (Grown w w1 F) w1 w2) : Left D n N ws2 gv ms2 F w w2 := by
  refine ⟨k.ep, ?_, Keeps.glue h.keep k.keep (fun x hx z => ?_)⟩
  · have := k.gate
    rwa [grown_twice h.keep.size k.keep.size] at this
  · rcases z with z | z
    · exact .inl z
    · exact .inr (grown_old hx z)
/-- what a call finds -/
structure St (w : World) (D n N : Nat) (ws : List Nat) (gv : Value) (ms : List (Nat × Nat)) (F : Nat → Prop) : Prop where
  ep : Ep w D n ws
  gf : GF w gv N ms F
  fd : ¬ F D
section
variable {D n N : Nat} {ws ws' : List Nat} {gv : Value} {ms ms' : List (Nat × Nat)} {F : Nat → Prop} {w w' : World}
theorem Left.st (s : St w D n N ws gv ms F) (l : Left D n N ws' gv ms' F w w') : St w' D n N ws' gv ms' (Grown w w' F) := ⟨l.ep, l.gate, grown_not s.ep.lt s.fd⟩
theorem St.keeps {S : Nat → Prop} (s : St w D n N ws gv ms F) (k : Keeps S w w') (hD : ¬ S D) (hF : ∀ b, F b → ¬ S b) : St w' D n N ws gv ms F := ⟨s.ep.keeps k hD, s.gf.keeps k hF, s.fd⟩
theorem St.drew (s : St w D n N ws gv ms F) : St w.drew D n N ws gv ms F := s.keeps (S := fun _ => False) (Keeps.refl _ w).drew (fun z => z) (fun _ _ z => z)
theorem Left.of_drew (l : Left D n N ws' gv ms' F w.drew w') : Left D n N ws' gv ms' F w w' := ⟨l.ep, l.gate, Keeps.trans (Keeps.refl _ w).drew l.keep⟩
theorem St.here (s : St w D n N ws gv ms F) (hz : ∀ b, F b → b < w.heap.size) : Left D n N ws gv ms F w w :=
  ⟨s.ep, by
    have e : Grown w w F = F := by funext b; unfold mz.Grown; apply propext; exact ⟨fun z => by rcases z with z | z; exact z; omega, .inl⟩
    rw [e]; exact s.gf, Keeps.refl _ _⟩
end
theorem domain_info : (Tryz.prog.info? 188).map (fun i => i.size) = some 19 := by kernel_rfl
theorem domain_self (w : World) (a : Addr) : (binOp .neq 30 (.pointer (some a)) (.pointer (some a))).run Tryz.prog w = .ok (.bool false) w := by
  cases hi : Tryz.prog.info? 188 with
  | none => have := domain_info; rw [hi] at this; cases this
  | some i => exact Lib.run_neq_ptr_same w a Tryz.underlying30 hi
set_option maxRecDepth 100000 in
set_option maxHeartbeats 1000000 in
theorem none_ (D n : Nat) (ws : List Nat) (w : World) (h : Ep w D n ws) : Calls Tryz.prog 82 #[.pointer (some ⟨D, 0, none⟩)] w fun e w' => e = .returned (.bool false) ∧ w = w' := by
  have p0 := h.cell0
  have hns := domain_self
  clear h
  go_enter Tryz.func82, Tryz.ntmps82
  go_wp2
  go_ret
  exact ⟨rfl, rfl⟩
section
variable (D n N k : Nat) (ws : List Nat) (gv : Value) (ms : List (Nat × Nat)) (F : Nat → Prop) (w : World)
set_option maxRecDepth 100000 in
set_option maxHeartbeats 1000000 in
theorem now_ (s : St w D n N ws gv ms F) (hl : ms.length < 1000000) :
    Calls Tryz.prog 78 #[.pointer (some ⟨D, 0, none⟩), gv] w fun e w' => e = .returned (.int .u64 ((ws[0]?.getD 0 : Nat) : Int)) ∧ Left D n N ws gv (ms ++ [(1, 0)]) F w w' := by
  have HT := Lib.hid (gf_tell gv 1 0 N w ms F s.gf hl)
  have H := Lib.hid s
  clear s hl
  go_enter Tryz.func78, Tryz.ntmps78
  go_wp2_with fail
  refine HT.out.mono ?_
  rintro e w1 ⟨rfl, g1, k1⟩
  have h1 := H.out.ep.keeps k1 H.out.fd
  have L1 := Lib.hid (show Left D n N ws gv (ms ++ [(1, 0)]) F w w1 from ⟨h1, g1, k1.mono (fun _ _ z => .inr z)⟩)
  have HL := Lib.hid (u64_load D 2 _ w1 (h1.word (k := 0) (by omega)))
  clear g1 k1 h1
  go_wp2_with fail
  refine HL.out.mono ?_
  rintro e w2 ⟨rfl, rfl⟩
  go_wp2
  go_ret
  exact ⟨rfl, L1.out⟩
set_option maxRecDepth 100000 in
set_option maxHeartbeats 1000000 in
theorem pinned_ (s : St w D n N ws gv ms F) (hl : ms.length < 1000000) (hk : k < n) :
    Calls Tryz.prog 77 #[.pointer (some ⟨D, 0, none⟩), gv, .int .i64 (k : Int)] w fun e w' => e = .returned (.int .u64 ((ws[k + 1]?.getD 0 : Nat) : Int)) ∧ Left D n N ws gv (ms ++ [(1, k + 1)]) F w w' := by
  have HT := Lib.hid (gf_tell gv 1 (k + 1) N w ms F s.gf hl)
  have H := Lib.hid s
  have ht := s.ep.top
  have hk' : (k : Int) < 16 := by omega
  have h0 : (0 : Int) ≤ (k : Int) := by omega
  have HK := Lib.hid hk
  have HC := Lib.hid (show 1 + (k : Int) = ((k + 1 : Nat) : Int) by omega)
  clear s hl hk ht
  go_enter Tryz.func77, Tryz.ntmps77
  go_wp2_with fail
  rw [HC.out]
  refine HT.out.mono ?_
  rintro e w1 ⟨rfl, g1, k1⟩
  have h1 := H.out.ep.keeps k1 H.out.fd
  have L1 := Lib.hid (show Left D n N ws gv (ms ++ [(1, k + 1)]) F w w1 from ⟨h1, g1, k1.mono (fun _ _ z => .inr z)⟩)
  have HL := Lib.hid (u64_load D (3 + k) _ w1 (by have := h1.word (k := k + 1) (by have := HK.out; omega); rwa [show k + 1 + 2 = 3 + k from by omega] at this))
  clear g1 k1 h1
  go_wp2_with fail
  refine HL.out.mono ?_
  rintro e w2 ⟨rfl, rfl⟩
  go_wp2
  go_ret
  exact ⟨rfl, L1.out⟩
set_option maxRecDepth 100000 in
set_option maxHeartbeats 1000000 in
theorem put_ (v : Nat) (s : St w D n N ws gv ms F) (hl : ms.length < 1000000) (hk : k < n) (hv : v < 1000000) :
    Calls Tryz.prog 79 #[.pointer (some ⟨D, 0, none⟩), gv, .int .i64 (k : Int), .int .u64 (v : Int)] w fun e w' => e = .returned (.tuple #[]) ∧ Left D n N (ws.set (k + 1) v) gv (ms ++ [(2, k + 1)]) F w w' := by
  have HT := Lib.hid (gf_tell gv 2 (k + 1) N w ms F s.gf hl)
  have H := Lib.hid s
  have ht := s.ep.top
  have hk' : (k : Int) < 16 := by omega
  have h0 : (0 : Int) ≤ (k : Int) := by omega
  have HK := Lib.hid hk
  have HV := Lib.hid hv
  have HC := Lib.hid (show 1 + (k : Int) = ((k + 1 : Nat) : Int) by omega)
  clear s hl hk ht hv
  go_enter Tryz.func79, Tryz.ntmps79
  go_wp2_with fail
  rw [HC.out]
  refine HT.out.mono ?_
  rintro e w1 ⟨rfl, g1, k1⟩
  have h1 := H.out.ep.keeps k1 H.out.fd
  have G1 := Lib.hid g1
  have K1 := Lib.hid k1
  have H1 := Lib.hid h1
  have HL := Lib.hid (u64_store D (3 + k) _ (v : Int) w1 (by have := h1.word (k := k + 1) (by have := HK.out; omega); rwa [show k + 1 + 2 = 3 + k from by omega] at this) (h1.blk.frozen _))
  clear g1 k1 h1
  go_wp2_with fail
  refine HL.out.mono ?_
  rintro e w2 ⟨rfl, rfl⟩
  go_wp2
  go_end0
  have kD : Keeps (· = D) w1 (w1.setCell ⟨D, 3 + k, none⟩ (.int .u64 (v : Int))) := Keeps.here _
  have e3 := H1.out.set (k := k + 1) (by have := HK.out; omega) HV.out
  rw [show k + 1 + 2 = 3 + k from by omega] at e3
  have g2 := G1.out.keeps kD (fun b hb e => by subst e; exact grown_not H.out.ep.lt H.out.fd hb)
  have hz : (w1.setCell ⟨D, 3 + k, none⟩ (.int .u64 (v : Int))).heap.size = w1.heap.size := by simp [World.setCell]
  have he : Grown w (w1.setCell ⟨D, 3 + k, none⟩ (.int .u64 (v : Int))) F = Grown w w1 F := by unfold mz.Grown; rw [hz]
  rw [← he] at g2
  exact ⟨rfl, e3, g2, (K1.out.mono (fun _ _ z => .inr z)).trans (kD.mono (fun _ _ z => .inl z))⟩
end
set_option maxRecDepth 100000 in
set_option maxHeartbeats 1000000 in
theorem check_ok (D n k : Nat) (ws : List Nat) (w : World) (h : Ep w D n ws) (hk : k < n) : Calls Tryz.prog 76 #[.pointer (some ⟨D, 0, none⟩), .int .i64 (k : Int)] w fun e w' => e = .returned (.int .i64 0) ∧ w = w' := by
  have HN := Lib.hid (none_ D n ws w h)
  have c1 := h.cell1
  have ht := h.top
  have h0 : (0 : Int) ≤ (k : Int) := by omega
  have h1 : (k : Int) < (n : Int) := by omega
  clear h hk ht
  go_enter Tryz.func76, Tryz.ntmps76
  go_wp2_with fail
  refine HN.out.mono ?_
  rintro e w' ⟨rfl, rfl⟩
  go_wp2
  try rw [Exit.noGoto_ret]
  go_ret
  exact ⟨rfl, rfl⟩
set_option maxRecDepth 100000 in
set_option maxHeartbeats 1000000 in
theorem check_no (D n : Nat) (s : Int) (ws : List Nat) (w : World) (h : Ep w D n ws) (hk : s < 0 ∨ (n : Int) ≤ s) : Calls Tryz.prog 76 #[.pointer (some ⟨D, 0, none⟩), .int .i64 s] w fun e w' => e = .returned (.int .i64 5) ∧ w = w' := by
  have HN := Lib.hid (none_ D n ws w h)
  have c1 := h.cell1
  have ht := h.top
  rcases Int.lt_or_le s 0 with h0 | h0
  · have h1 : decide (s < 0) = true := decide_eq_true h0
    clear h hk ht
    go_enter Tryz.func76, Tryz.ntmps76
    go_wp2_with fail
    refine HN.out.mono ?_
    rintro e w' ⟨rfl, rfl⟩
    go_wp2
    try rw [Exit.noGoto_ret]
    go_ret
    exact ⟨rfl, rfl⟩
  · have h1 : (n : Int) ≤ s := by omega
    have h2 : decide (s < 0) = false := decide_eq_false (by omega)
    have h3 : decide ((n : Int) ≤ s) = true := decide_eq_true h1
    clear h hk ht
    go_enter Tryz.func76, Tryz.ntmps76
    go_wp2_with fail
    refine HN.out.mono ?_
    rintro e w' ⟨rfl, rfl⟩
    go_wp2
    try rw [Exit.noGoto_ret]
    go_ret
    exact ⟨rfl, rfl⟩
end Go.Proofs.YtbemnfoamhbemaaGreat.ep
