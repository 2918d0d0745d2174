/-
  meter: New's object, its single operations, its calls, under a gate of notes or none.
-/
import Derived.Test.YtgenblefbddilaaGf
import Derived.Test.YtgenblefbddilaaAtU
import Derived.Test.YtgenblefbddilaaBq
import Derived.RegionTactic
import Derived.RegionCalls
import Derived.BigRegion
import Derived.Deep.LoopGhost
import Derived.WalkMore
import Derived.Deep.RegionHeld3
import Derived.StillTailTactics
import Derived.Deep.QuietTactic
import Derived.BigQuiet
import Derived.IntWalk
set_option linter.unusedVariables false
namespace Go.Proofs.Ytgenblefbddilaa.mt
open Go.RowKit Go.Proofs.Ytgenblefbddilaa.oc Go.Proofs.Ytgenblefbddilaa.mz Go.Proofs.Ytgenblefbddilaa.at_ Go.Proofs.Ytgenblefbddilaa.gt Go.Proofs.Ytgenblefbddilaa.gw Go.Proofs.Ytgenblefbddilaa.bk Go.Proofs.Ytgenblefbddilaa.bp
/-- block D is a meter by the bucket n d b, its state is s -/
structure Mt (w : World) (D n d b s : Nat) : Prop where
  blk : Blk w D 61 [.pointer (some ⟨D, 0, none⟩), .int .u64 (n : Int), .int .u64 (d : Int), .int .u64 (b : Int), .int .u64 (s : Int)]
  may : May n d b
  sm : s < 18446744073709551616
section
variable {w w' : World} {D n d b s : Nat}
theorem Mt.keeps {S : Nat → Prop} (h : Mt w D n d b s) (k : Keeps S w w') (hD : ¬ S D) : Mt w' D n d b s := ⟨Blk.keeps h.blk k hD, h.may, h.sm⟩
theorem Mt.drew (h : Mt w D n d b s) : Mt w.drew D n d b s := h.keeps (S := fun _ => False) (Keeps.refl _ w).drew (fun z => z)
theorem Mt.cell0 (h : Mt w D n d b s) : w.cell? ⟨D, 0, none⟩ = some (.pointer (some ⟨D, 0, none⟩)) := by rw [h.blk.cell]; rfl
theorem Mt.cell1 (h : Mt w D n d b s) : w.cell? ⟨D, 1, none⟩ = some (.int .u64 (n : Int)) := by rw [h.blk.cell]; rfl
theorem Mt.cell2 (h : Mt w D n d b s) : w.cell? ⟨D, 2, none⟩ = some (.int .u64 (d : Int)) := by rw [h.blk.cell]; rfl
theorem Mt.cell3 (h : Mt w D n d b s) : w.cell? ⟨D, 3, none⟩ = some (.int .u64 (b : Int)) := by rw [h.blk.cell]; rfl
theorem Mt.cell4 (h : Mt w D n d b s) : w.cell? ⟨D, 4, none⟩ = some (.int .u64 (s : Int)) := by rw [h.blk.cell]; rfl
theorem Mt.lt (h : Mt w D n d b s) : D < w.heap.size := h.blk.lt
theorem Mt.set (h : Mt w D n d b s) {v : Nat} (hv : v < 18446744073709551616) : Mt (w.setCell ⟨D, 4, none⟩ (.int .u64 (v : Int))) D n d b v := ⟨by simpa using h.blk.put 4 (.int .u64 (v : Int)), h.may, hv⟩
end
/-- what a call leaves: its meter, its gate, the frame -/
structure Left (D n d b N s' : Nat) (gv : Value) (ms' : List (Nat × Nat)) (F : Nat → Prop) (w w' : World) : Prop where
  mt : Mt w' D n d b s'
  gate : GF w' gv N ms' (Grown w w' F)
  keep : Keeps (fun x => x = D ∨ F x) w w'
theorem Left.trans {D n d b N s1 s2 : Nat} {gv : Value} {ms1 ms2 : List (Nat × Nat)} {F : Nat → Prop} {w w1 w2 : World} (h : Left D n d b N s1 gv ms1 F w w1) (k : Left D n d b N s2 gv ms2 (Grown w w1 F) w1 w2) : Left D n d b N s2 gv ms2 F w w2 := by
  refine ⟨k.mt, ?_, Keeps.glue h.keep k.keep (fun x hx z => ?_)⟩
  · have := k.gate
    rwa [grown_twice h.keep.size k.keep.size] at this
  · rcases z with z | z
    · exact .inl z
    · exact .inr (grown_old hx z)
/-- what a call finds -/
structure St (w : World) (D n d b N s : Nat) (gv : Value) (ms : List (Nat × Nat)) (F : Nat → Prop) : Prop where
  mt : Mt w D n d b s
  gf : GF w gv N ms F
  fd : ¬ F D
section
variable {D n d b N s s' : Nat} {gv : Value} {ms ms' : List (Nat × Nat)} {F : Nat → Prop} {w w' : World}
theorem Left.st (st : St w D n d b N s gv ms F) (l : Left D n d b N s' gv ms' F w w') : St w' D n d b N s' gv ms' (Grown w w' F) := ⟨l.mt, l.gate, grown_not st.mt.lt st.fd⟩
theorem St.keeps {S : Nat → Prop} (st : St w D n d b N s gv ms F) (k : Keeps S w w') (hD : ¬ S D) (hF : ∀ x, F x → ¬ S x) : St w' D n d b N s gv ms F := ⟨st.mt.keeps k hD, st.gf.keeps k hF, st.fd⟩
theorem St.drew (st : St w D n d b N s gv ms F) : St w.drew D n d b N s gv ms F := st.keeps (S := fun _ => False) (Keeps.refl _ w).drew (fun z => z) (fun _ _ z => z)
theorem Left.of_drew (l : Left D n d b N s' gv ms' F w.drew w') : Left D n d b N s' gv ms' F w w' := ⟨l.mt, l.gate, Keeps.trans (Keeps.refl _ w).drew l.keep⟩
theorem St.here (st : St w D n d b N s gv ms F) (hz : ∀ x, F x → x < w.heap.size) : Left D n d b N s gv ms F w w :=
  ⟨st.mt, by
    have e : Grown w w F = F := by funext x; unfold mz.Grown; apply propext; exact ⟨fun z => by rcases z with z | z; exact z; omega, .inl⟩
    rw [e]; exact st.gf, Keeps.refl _ _⟩
theorem left_new {w1 : World} (st : St w D n d b N s gv ms F) (k : ∀ S, Keeps S w w1) (hN : N ≤ w.heap.size) : Left D n d b N s gv ms F w w1 := by
  refine ⟨st.mt.keeps (k (fun _ => False)) (fun z => z), ?_, k _⟩
  rcases st.gf with e | ⟨e, h⟩
  · exact .inl e
  · exact .inr ⟨e, (h.keeps (k (fun _ => False)) (fun _ _ z => z)).grown hN⟩
theorem Left.more (st : St w D n d b N s gv ms F) (l : Left D n d b N s' gv ms' F w w') {w2 : World} (k : ∀ S, Keeps S w' w2) (hN : N ≤ w.heap.size) : Left D n d b N s' gv ms' F w w2 := l.trans (left_new (l.st st) k (Nat.le_trans hN l.keep.size))
end
theorem meter_info : (Try.prog.info? 61).map (fun i => i.size) = some 5 := by kernel_rfl
theorem meter_self (w : World) (a : Addr) : (binOp .neq 26 (.pointer (some a)) (.pointer (some a))).run Try.prog w = .ok (.bool false) w := by
  cases hi : Try.prog.info? 61 with
  | none => have := meter_info; rw [hi] at this; cases this
  | some i => exact Lib.run_neq_ptr_same w a Try.underlying26 hi
set_option maxRecDepth 100000 in
set_option maxHeartbeats 1000000 in
theorem none_ (D n d b s : Nat) (w : World) (h : Mt w D n d b s) : Calls Try.prog 21 #[.pointer (some ⟨D, 0, none⟩)] w fun e w' => e = .returned (.bool false) ∧ w = w' := by
  have p0 := h.cell0
  have hns := meter_self
  clear h
  go_enter Try.func21, Try.ntmps21
  go_wp2
  go_ret
  exact ⟨rfl, rfl⟩
set_option maxRecDepth 100000 in
set_option maxHeartbeats 1000000 in
theorem wrong_ok' (D n d b s now : Nat) (w : World) (h : Mt w D n d b s) (hn : now ≤ 1099511627776) : Calls Try.prog 29 #[.pointer (some ⟨D, 0, none⟩), .int .u64 (now : Int)] w fun e w' => e = .returned (.int .i64 0) ∧ w = w' := by
  have HN := Lib.hid (none_ D n d b s w h)
  have q1 : ¬ (1099511627776 : Int) < (now : Int) := by omega
  clear h hn
  go_enter Try.func29, Try.ntmps29
  go_wp2_with fail
  refine HN.out.mono ?_
  rintro e w' ⟨rfl, rfl⟩
  go_wp2
  try rw [Exit.noGoto_ret]
  go_ret
  exact ⟨rfl, rfl⟩
set_option maxRecDepth 100000 in
set_option maxHeartbeats 1000000 in
theorem wrong_late (D n d b s now : Nat) (w : World) (h : Mt w D n d b s) (hn : ¬ now ≤ 1099511627776) : Calls Try.prog 29 #[.pointer (some ⟨D, 0, none⟩), .int .u64 (now : Int)] w fun e w' => e = .returned (.int .i64 5) ∧ w = w' := by
  have HN := Lib.hid (none_ D n d b s w h)
  have q1 : (1099511627776 : Int) < (now : Int) := by omega
  clear h hn
  go_enter Try.func29, Try.ntmps29
  go_wp2_with fail
  refine HN.out.mono ?_
  rintro e w' ⟨rfl, rfl⟩
  go_wp2
  try rw [Exit.noGoto_ret]
  go_ret
  exact ⟨rfl, rfl⟩
section
variable (D n d b N s : Nat) (gv : Value) (ms : List (Nat × Nat)) (F : Nat → Prop) (w : World)
set_option maxRecDepth 100000 in
set_option maxHeartbeats 1000000 in
theorem load_ (st : St w D n d b N s gv ms F) (hl : ms.length < 1000000) :
    Calls Try.prog 30 #[.pointer (some ⟨D, 0, none⟩), gv] w fun e w' => e = .returned (.int .u64 (s : Int)) ∧ Left D n d b N s gv (ms ++ [(1, 0)]) F w w' := by
  have HT := Lib.hid (gf_tell gv 1 0 N w ms F st.gf hl)
  have H := Lib.hid st
  clear st hl
  go_enter Try.func30, Try.ntmps30
  go_wp2_with fail
  refine HT.out.mono ?_
  rintro e w1 ⟨rfl, g1, k1⟩
  have h1 := H.out.mt.keeps k1 H.out.fd
  have L1 := Lib.hid (show Left D n d b N s gv (ms ++ [(1, 0)]) F w w1 from ⟨h1, g1, k1.mono (fun _ _ z => .inr z)⟩)
  have HL := Lib.hid (u64_load D 4 _ w1 h1.cell4)
  clear g1 k1 h1
  go_wp2_with fail
  refine HL.out.mono ?_
  rintro e w2 ⟨rfl, rfl⟩
  go_wp2
  go_ret
  exact ⟨rfl, L1.out⟩
set_option maxRecDepth 100000 in
set_option maxHeartbeats 1000000 in
theorem swap_ (v : Nat) (st : St w D n d b N s gv ms F) (hl : ms.length < 1000000) (hv : v < 18446744073709551616) :
    Calls Try.prog 32 #[.pointer (some ⟨D, 0, none⟩), gv, .int .u64 (s : Int), .int .u64 (v : Int)] w fun e w' => e = .returned (.bool true) ∧ Left D n d b N v gv (ms ++ [(5, 0)]) F w w' := by
  have HT := Lib.hid (gf_tell gv 5 0 N w ms F st.gf hl)
  have H := Lib.hid st
  have HV := Lib.hid hv
  clear st hl hv
  go_enter Try.func32, Try.ntmps32
  go_wp2_with fail
  refine HT.out.mono ?_
  rintro e w1 ⟨rfl, g1, k1⟩
  have h1 := H.out.mt.keeps k1 H.out.fd
  have G1 := Lib.hid g1
  have K1 := Lib.hid k1
  have H1 := Lib.hid h1
  have HL := Lib.hid (u64_cas D 4 _ (v : Int) w1 h1.cell4 (h1.blk.frozen 4))
  clear g1 k1 h1
  go_wp2_with fail
  refine HL.out.mono ?_
  rintro e w2 ⟨rfl, rfl⟩
  go_wp2
  go_ret
  have kD : Keeps (· = D) w1 (w1.setCell ⟨D, 4, none⟩ (.int .u64 (v : Int))) := Keeps.here _
  have g2 := G1.out.keeps kD (fun b hb e => by subst e; exact grown_not H.out.mt.lt H.out.fd hb)
  have hz : (w1.setCell ⟨D, 4, none⟩ (.int .u64 (v : Int))).heap.size = w1.heap.size := by simp [World.setCell]
  have he : Grown w (w1.setCell ⟨D, 4, none⟩ (.int .u64 (v : Int))) F = Grown w w1 F := by unfold mz.Grown; rw [hz]
  rw [← he] at g2
  exact ⟨rfl, H1.out.set HV.out, g2, (K1.out.mono (fun _ _ z => .inr z)).trans (kD.mono (fun _ _ z => .inl z))⟩
end
end Go.Proofs.Ytgenblefbddilaa.mt
