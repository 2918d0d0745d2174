/-
  gauge: a breaker: its word, New's object, its single operations, Ask, Tell, Get, under a gate of notes or none.
-/
import Derived.Test.YtadnkidbglhdlaaGf
import Derived.Test.YtadnkidbglhdlaaAtU
import Derived.RegionTactic
import Derived.RegionCalls
import Derived.BigRegion
import Derived.Deep.LoopGhost
import Derived.WalkMore
import Derived.Deep.RegionHeld3
import Derived.StillTailTactics
import Derived.Deep.QuietTactic
import Derived.BigQuiet
import Derived.IntWalk
set_option linter.unusedVariables false
namespace Go.Proofs.Ytadnkidbglhdlaa.ga
open Go.RowKit Go.Proofs.Ytadnkidbglhdlaa.oc Go.Proofs.Ytadnkidbglhdlaa.mz Go.Proofs.Ytadnkidbglhdlaa.at_ Go.Proofs.Ytadnkidbglhdlaa.gt Go.Proofs.Ytadnkidbglhdlaa.gw
/-- a breaker's word: its state, its fails, since when -/
def pk (st f s : Nat) : Nat := st + 4 * f + 8388608 * s
/-- what a breaker's word may hold -/
def Wd (st f s : Nat) : Prop := st < 4 ∧ f < 2097152 ∧ s < 2199023255552
theorem pk_lt {st f s : Nat} (h : Wd st f s) : pk st f s < 18446744073709551616 := by unfold Wd at h; unfold pk; omega
theorem pk_inj {st f s st' f' s' : Nat} (h : Wd st f s) (h' : Wd st' f' s') (e : pk st f s = pk st' f' s') : st = st' ∧ f = f' ∧ s = s' := by unfold Wd at h h'; unfold pk at e; omega
theorem pk_or {st f s : Nat} (h : Wd st f s) : st ||| 4 * f ||| 8388608 * s = pk st f s := by
  unfold Wd at h
  unfold pk
  have e1 : st ||| 4 * f = 4 * f + st := by
    rw [Nat.or_comm, show (4 : Nat) = 2 ^ 2 from rfl, ← Nat.two_pow_add_eq_or_of_lt (by omega)]
  have e2 : (4 * f + st) ||| 8388608 * s = 8388608 * s + (4 * f + st) := by
    rw [Nat.or_comm, show (8388608 : Nat) = 2 ^ 23 from rfl, ← Nat.two_pow_add_eq_or_of_lt (by omega)]
  rw [e1, e2]; omega
theorem pk_bits {st f s : Nat} (h : Wd st f s) : bits BinOp.or IntKind.u64 (bits BinOp.or IntKind.u64 (IntKind.u64.wrap (st : Int)) (IntKind.u64.wrap ((f : Int) * 4))) (IntKind.u64.wrap ((s : Int) * 8388608)) = ((pk st f s : Nat) : Int) := by
  have hh := h
  unfold Wd at h
  have w1 : IntKind.u64.wrap (st : Int) = ((st : Nat) : Int) := by rw [wrap_u64]; omega
  have w2 : IntKind.u64.wrap ((f : Int) * 4) = ((4 * f : Nat) : Int) := by rw [wrap_u64]; omega
  have w3 : IntKind.u64.wrap ((s : Int) * 8388608) = ((8388608 * s : Nat) : Int) := by rw [wrap_u64]; omega
  have ho := Nat.or_lt_two_pow (n := 64) (x := st) (y := 4 * f) (by omega) (by omega)
  rw [w1, w2, w3, u64_or_nat _ _ (by omega) (by omega), u64_or_nat _ _ (by omega) (by omega), pk_or hh]
theorem pk_st {st f s : Nat} (h : Wd st f s) : bits BinOp.and IntKind.u64 ((pk st f s : Nat) : Int) 3 = ((st : Nat) : Int) := by
  have hl := pk_lt h
  rw [show (3 : Int) = ((3 : Nat) : Int) from rfl, u64_and_nat _ _ hl (by omega), show (3 : Nat) = 2 ^ 2 - 1 from rfl, Nat.and_two_pow_sub_one_eq_mod]
  unfold Wd at h; unfold pk; congr 1; omega
theorem pk_fails {st f s : Nat} (h : Wd st f s) : bits BinOp.and IntKind.u64 (((pk st f s : Nat) : Int) / 4) 2097151 = ((f : Nat) : Int) := by
  have hl := pk_lt h
  have e : ((pk st f s : Nat) : Int) / 4 = ((pk st f s / 4 : Nat) : Int) := by omega
  rw [e, show (2097151 : Int) = ((2097151 : Nat) : Int) from rfl, u64_and_nat _ _ (by omega) (by omega), show (2097151 : Nat) = 2 ^ 21 - 1 from rfl, Nat.and_two_pow_sub_one_eq_mod]
  unfold Wd at h; unfold pk; congr 1; omega
theorem pk_since {st f s : Nat} (h : Wd st f s) : ((pk st f s : Nat) : Int) / 8388608 = ((s : Nat) : Int) := by
  unfold Wd at h; unfold pk; omega
set_option maxRecDepth 100000 in
set_option maxHeartbeats 1000000 in
theorem pack_ (st f s : Nat) (w : World) (h : Wd st f s) :
    Calls Try.prog 24 #[.int .i64 (st : Int), .int .u64 (f : Int), .int .u64 (s : Int)] w fun e w' => e = .returned (.int .u64 ((pk st f s : Nat) : Int)) ∧ w = w' := by
  have e1 := pk_bits h
  rw [← e1]
  clear e1 h
  go_enter Try.func24, Try.ntmps24
  go_wp2
  go_ret
  exact ⟨rfl, rfl⟩
set_option maxRecDepth 100000 in
set_option maxHeartbeats 1000000 in
theorem unpack_ (st f s : Nat) (w : World) (h : Wd st f s) :
    Calls Try.prog 22 #[.int .u64 ((pk st f s : Nat) : Int)] w fun e w' => e = .returned (.tuple #[.int .i64 (st : Int), .int .u64 (f : Int), .int .u64 (s : Int)]) ∧ w = w' := by
  have e1 := pk_st h
  have e2 := pk_fails h
  have e3 := pk_since h
  have e4 : IntKind.i64.wrap (st : Int) = (st : Int) := by have := h.1; simp [IntKind.wrap, IntKind.signed, IntKind.bits]; omega
  clear h
  generalize pk st f s = v at *
  go_enter Try.func22, Try.ntmps22
  go_wp2
  go_ret3
  exact ⟨rfl, rfl⟩
/-- block D is a breaker with f fails and the wait t, its word is s -/
structure Br (w : World) (D f t s : Nat) : Prop where
  blk : Blk w D 62 [.pointer (some ⟨D, 0, none⟩), .int .u64 (f : Int), .int .u64 (t : Int), .int .u64 (s : Int)]
  may : 1 ≤ f ∧ f ≤ 1048576 ∧ 1 ≤ t ∧ t ≤ 1099511627776
  sm : s < 18446744073709551616
section
variable {w w' : World} {D f t s : Nat}
theorem Br.keeps {S : Nat → Prop} (h : Br w D f t s) (k : Keeps S w w') (hD : ¬ S D) : Br w' D f t s := ⟨Blk.keeps h.blk k hD, h.may, h.sm⟩
theorem Br.drew (h : Br w D f t s) : Br w.drew D f t s := h.keeps (S := fun _ => False) (Keeps.refl _ w).drew (fun z => z)
theorem Br.cell0 (h : Br w D f t s) : w.cell? ⟨D, 0, none⟩ = some (.pointer (some ⟨D, 0, none⟩)) := by rw [h.blk.cell]; rfl
theorem Br.cell1 (h : Br w D f t s) : w.cell? ⟨D, 1, none⟩ = some (.int .u64 (f : Int)) := by rw [h.blk.cell]; rfl
theorem Br.cell2 (h : Br w D f t s) : w.cell? ⟨D, 2, none⟩ = some (.int .u64 (t : Int)) := by rw [h.blk.cell]; rfl
theorem Br.cell3 (h : Br w D f t s) : w.cell? ⟨D, 3, none⟩ = some (.int .u64 (s : Int)) := by rw [h.blk.cell]; rfl
theorem Br.lt (h : Br w D f t s) : D < w.heap.size := h.blk.lt
theorem Br.set (h : Br w D f t s) {v : Nat} (hv : v < 18446744073709551616) : Br (w.setCell ⟨D, 3, none⟩ (.int .u64 (v : Int))) D f t v := ⟨by simpa using h.blk.put 3 (.int .u64 (v : Int)), h.may, hv⟩
end
/-- what a call leaves: its meter, its gate, the frame -/
structure Left (D f t N s' : Nat) (gv : Value) (ms' : List (Nat × Nat)) (F : Nat → Prop) (w w' : World) : Prop where
  br : Br w' D f t s'
  gate : GF w' gv N ms' (Grown w w' F)
  keep : Keeps (fun x => x = D ∨ F x) w w'
theorem Left.trans {D f t N s1 s2 : Nat} {gv : Value} {ms1 ms2 : List (Nat × Nat)} {F : Nat → Prop} {w w1 w2 : World} (h : Left D f t N s1 gv ms1 F w w1) (k : Left D f t N s2 gv ms2 (Grown w w1 F) w1 w2) : Left D f t N s2 gv ms2 F w w2 := by
  refine ⟨k.br, ?_, Keeps.glue h.keep k.keep (fun x hx z => ?_)⟩
  · have := k.gate
    rwa [grown_twice h.keep.size k.keep.size] at this
  · rcases z with z | z
    · exact .inl z
    · exact .inr (grown_old hx z)
/-- what a call finds -/
structure St (w : World) (D f t N s : Nat) (gv : Value) (ms : List (Nat × Nat)) (F : Nat → Prop) : Prop where
  br : Br w D f t s
  gf : GF w gv N ms F
  fd : ¬ F D
section
variable {D f t N s s' : Nat} {gv : Value} {ms ms' : List (Nat × Nat)} {F : Nat → Prop} {w w' : World}
theorem Left.st (st : St w D f t N s gv ms F) (l : Left D f t N s' gv ms' F w w') : St w' D f t N s' gv ms' (Grown w w' F) := ⟨l.br, l.gate, grown_not st.br.lt st.fd⟩
theorem St.keeps {S : Nat → Prop} (st : St w D f t N s gv ms F) (k : Keeps S w w') (hD : ¬ S D) (hF : ∀ x, F x → ¬ S x) : St w' D f t N s gv ms F := ⟨st.br.keeps k hD, st.gf.keeps k hF, st.fd⟩
theorem St.drew (st : St w D f t N s gv ms F) : St w.drew D f t N s gv ms F := st.keeps (S := fun _ => False) (Keeps.refl _ w).drew (fun z => z) (fun _ _ z => z)
theorem Left.of_drew (l : Left D f t N s' gv ms' F w.drew w') : Left D f t N s' gv ms' F w w' := ⟨l.br, l.gate, Keeps.trans (Keeps.refl _ w).drew l.keep⟩
theorem St.here (st : St w D f t N s gv ms F) (hz : ∀ x, F x → x < w.heap.size) : Left D f t N s gv ms F w w :=
  ⟨st.br, by
    have e : Grown w w F = F := by funext x; unfold mz.Grown; apply propext; exact ⟨fun z => by rcases z with z | z; exact z; omega, .inl⟩
    rw [e]; exact st.gf, Keeps.refl _ _⟩
theorem left_new {w1 : World} (st : St w D f t N s gv ms F) (k : ∀ S, Keeps S w w1) (hN : N ≤ w.heap.size) : Left D f t N s gv ms F w w1 := by
  refine ⟨st.br.keeps (k (fun _ => False)) (fun z => z), ?_, k _⟩
  rcases st.gf with e | ⟨e, h⟩
  · exact .inl e
  · exact .inr ⟨e, (h.keeps (k (fun _ => False)) (fun _ _ z => z)).grown hN⟩
theorem Left.more (st : St w D f t N s gv ms F) (l : Left D f t N s' gv ms' F w w') {w2 : World} (k : ∀ S, Keeps S w' w2) (hN : N ≤ w.heap.size) : Left D f t N s' gv ms' F w w2 := l.trans (left_new (l.st st) k (Nat.le_trans hN l.keep.size))
end
theorem breaker_info : (Try.prog.info? 62).map (fun i => i.size) = some 4 := by kernel_rfl
theorem breaker_self (w : World) (a : Addr) : (binOp .neq 27 (.pointer (some a)) (.pointer (some a))).run Try.prog w = .ok (.bool false) w := by
  cases hi : Try.prog.info? 62 with
  | none => have := breaker_info; rw [hi] at this; cases this
  | some i => exact Lib.run_neq_ptr_same w a Try.underlying27 hi
set_option maxRecDepth 100000 in
set_option maxHeartbeats 1000000 in
theorem none_ (D f t s : Nat) (w : World) (h : Br w D f t s) : Calls Try.prog 27 #[.pointer (some ⟨D, 0, none⟩)] w fun e w' => e = .returned (.bool false) ∧ w = w' := by
  have p0 := h.cell0
  have hns := breaker_self
  clear h
  go_enter Try.func27, Try.ntmps27
  go_wp2
  go_ret
  exact ⟨rfl, rfl⟩
set_option maxRecDepth 100000 in
set_option maxHeartbeats 1000000 in
theorem wrong_ok (D f t s now : Nat) (w : World) (h : Br w D f t s) (hn : now ≤ 1099511627776) : Calls Try.prog 20 #[.pointer (some ⟨D, 0, none⟩), .int .u64 (now : Int)] w fun e w' => e = .returned (.int .i64 0) ∧ w = w' := by
  have HN := Lib.hid (none_ D f t s w h)
  have q1 : ¬ (1099511627776 : Int) < (now : Int) := by omega
  clear h hn
  go_enter Try.func20, Try.ntmps20
  go_wp2_with fail
  refine HN.out.mono ?_
  rintro e w' ⟨rfl, rfl⟩
  go_wp2
  try rw [Exit.noGoto_ret]
  go_ret
  exact ⟨rfl, rfl⟩
set_option maxRecDepth 100000 in
set_option maxHeartbeats 1000000 in
theorem wrong_late (D f t s now : Nat) (w : World) (h : Br w D f t s) (hn : ¬ now ≤ 1099511627776) : Calls Try.prog 20 #[.pointer (some ⟨D, 0, none⟩), .int .u64 (now : Int)] w fun e w' => e = .returned (.int .i64 2) ∧ w = w' := by
  have HN := Lib.hid (none_ D f t s w h)
  have q1 : (1099511627776 : Int) < (now : Int) := by omega
  clear h hn
  go_enter Try.func20, Try.ntmps20
  go_wp2_with fail
  refine HN.out.mono ?_
  rintro e w' ⟨rfl, rfl⟩
  go_wp2
  try rw [Exit.noGoto_ret]
  go_ret
  exact ⟨rfl, rfl⟩
section
variable (D f t N s : Nat) (gv : Value) (ms : List (Nat × Nat)) (F : Nat → Prop) (w : World)
set_option maxRecDepth 100000 in
set_option maxHeartbeats 1000000 in
theorem load_ (st : St w D f t N s gv ms F) (hl : ms.length < 1000000) :
    Calls Try.prog 21 #[.pointer (some ⟨D, 0, none⟩), gv] w fun e w' => e = .returned (.int .u64 (s : Int)) ∧ Left D f t N s gv (ms ++ [(1, 0)]) F w w' := by
  have HT := Lib.hid (gf_tell gv 1 0 N w ms F st.gf hl)
  have H := Lib.hid st
  clear st hl
  go_enter Try.func21, Try.ntmps21
  go_wp2_with fail
  refine HT.out.mono ?_
  rintro e w1 ⟨rfl, g1, k1⟩
  have h1 := H.out.br.keeps k1 H.out.fd
  have L1 := Lib.hid (show Left D f t N s gv (ms ++ [(1, 0)]) F w w1 from ⟨h1, g1, k1.mono (fun _ _ z => .inr z)⟩)
  have HL := Lib.hid (u64_load D 3 _ w1 h1.cell3)
  clear g1 k1 h1
  go_wp2_with fail
  refine HL.out.mono ?_
  rintro e w2 ⟨rfl, rfl⟩
  go_wp2
  go_ret
  exact ⟨rfl, L1.out⟩
set_option maxRecDepth 100000 in
set_option maxHeartbeats 1000000 in
theorem swap_ (v : Nat) (st : St w D f t N s gv ms F) (hl : ms.length < 1000000) (hv : v < 18446744073709551616) :
    Calls Try.prog 23 #[.pointer (some ⟨D, 0, none⟩), gv, .int .u64 (s : Int), .int .u64 (v : Int)] w fun e w' => e = .returned (.bool true) ∧ Left D f t N v gv (ms ++ [(5, 0)]) F w w' := by
  have HT := Lib.hid (gf_tell gv 5 0 N w ms F st.gf hl)
  have H := Lib.hid st
  have HV := Lib.hid hv
  clear st hl hv
  go_enter Try.func23, Try.ntmps23
  go_wp2_with fail
  refine HT.out.mono ?_
  rintro e w1 ⟨rfl, g1, k1⟩
  have h1 := H.out.br.keeps k1 H.out.fd
  have G1 := Lib.hid g1
  have K1 := Lib.hid k1
  have H1 := Lib.hid h1
  have HL := Lib.hid (u64_cas D 3 _ (v : Int) w1 h1.cell3 (h1.blk.frozen 3))
  clear g1 k1 h1
  go_wp2_with fail
  refine HL.out.mono ?_
  rintro e w2 ⟨rfl, rfl⟩
  go_wp2
  go_ret
  have kD : Keeps (· = D) w1 (w1.setCell ⟨D, 3, none⟩ (.int .u64 (v : Int))) := Keeps.here _
  have g2 := G1.out.keeps kD (fun b hb e => by subst e; exact grown_not H.out.br.lt H.out.fd hb)
  have hz : (w1.setCell ⟨D, 3, none⟩ (.int .u64 (v : Int))).heap.size = w1.heap.size := by simp [World.setCell]
  have he : Grown w (w1.setCell ⟨D, 3, none⟩ (.int .u64 (v : Int))) F = Grown w w1 F := by unfold mz.Grown; rw [hz]
  rw [← he] at g2
  exact ⟨rfl, H1.out.set HV.out, g2, (K1.out.mono (fun _ _ z => .inr z)).trans (kD.mono (fun _ _ z => .inl z))⟩
end
end Go.Proofs.Ytadnkidbglhdlaa.ga
