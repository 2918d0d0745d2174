/-
  stack: New's object, tops and followers, take and lay alone.
-/
import Derived.Test.YtjgbbjfphjhdcaaGw
import Derived.Test.YtjgbbjfphjhdcaaSkRow
import Derived.Deep.LoopGhost
import Derived.WalkMore
import Derived.Deep.RegionHeld3
import Derived.StillTailTactics
import Derived.Deep.QuietTactic
import Derived.BigQuiet
set_option linter.unusedVariables false
namespace Go.Proofs.Ytjgbbjfphjhdcaa.sk
open Go.RowKit Go.Proofs.Ytjgbbjfphjhdcaa.oc Go.Proofs.Ytjgbbjfphjhdcaa.mz Go.Proofs.Ytjgbbjfphjhdcaa.at_ Go.Proofs.Ytjgbbjfphjhdcaa.gt Go.Proofs.Ytjgbbjfphjhdcaa.gw
/-- block Q is a stack of n slots, its words ws lie in block W -/
structure Sk (w : World) (Q W n : Nat) (ws : List Nat) : Prop where
  blk : Blk w Q 41 [.pointer (some ⟨Q, 0, none⟩), .int .i64 (n : Int), .slice (some ⟨W, 0, none⟩) (2 * n + 2) (2 * n + 2)]
  wd : Wd w W ws
  len : ws.length = 2 * n + 2
  ne : Q ≠ W
  pos : 1 ≤ n
  top : n ≤ 1024
section
variable {w w' : World} {Q W n : Nat} {ws : List Nat}
theorem Sk.keeps {S : Nat → Prop} (h : Sk w Q W n ws) (k : Keeps S w w') (hQ : ¬ S Q) (hW : ¬ S W) : Sk w' Q W n ws := ⟨Blk.keeps h.blk k hQ, h.wd.keeps k hW, h.len, h.ne, h.pos, h.top⟩
theorem Sk.wrote {S : Nat → Prop} {ws' : List Nat} (h : Sk w Q W n ws) (k : Keeps S w w') (hQ : ¬ S Q) (hd : Wd w' W ws') (hl : ws'.length = 2 * n + 2) : Sk w' Q W n ws' := ⟨Blk.keeps h.blk k hQ, hd, hl, h.ne, h.pos, h.top⟩
theorem Sk.cell0 (h : Sk w Q W n ws) : w.cell? ⟨Q, 0, none⟩ = some (.pointer (some ⟨Q, 0, none⟩)) := by rw [h.blk.cell]; rfl
theorem Sk.cell1 (h : Sk w Q W n ws) : w.cell? ⟨Q, 1, none⟩ = some (.int .i64 (n : Int)) := by rw [h.blk.cell]; rfl
theorem Sk.cell2 (h : Sk w Q W n ws) : w.cell? ⟨Q, 2, none⟩ = some (.slice (some ⟨W, 0, none⟩) (2 * n + 2) (2 * n + 2)) := by rw [h.blk.cell]; rfl
theorem Sk.ltQ (h : Sk w Q W n ws) : Q < w.heap.size := h.blk.lt
theorem Sk.ltW (h : Sk w Q W n ws) : W < w.heap.size := h.wd.row.lt
end
/-- what a call leaves: its stack, its gate, the frame -/
structure Left (Q W n N : Nat) (ws' : List Nat) (gv : Value) (ms' : List (Nat × Nat)) (F : Nat → Prop) (w w' : World) : Prop where
  sk : Sk w' Q W n ws'
  gate : GF w' gv N ms' (Grown w w' F)
  keep : Keeps (fun b => b = W ∨ F b) w w'
theorem Left.trans {Q W n N : Nat} {ws1 ws2 : List Nat} {gv : Value} {ms1 ms2 : List (Nat × Nat)} {F : Nat → Prop} {w w1 w2 : World} (h : Left Q W n N ws1 gv ms1 F w w1) (k : Left Q W n N ws2 gv ms2 (Grown w w1 F) w1 w2) : Left Q W n N ws2 gv ms2 F w w2 := by
  refine ⟨k.sk, ?_, Keeps.glue h.keep k.keep (fun x hx z => ?_)⟩
  · have := k.gate
    rwa [grown_twice h.keep.size k.keep.size] at this
  · rcases z with z | z
    · exact .inl z
    · exact .inr (grown_old hx z)
/-- what a call finds -/
structure St (w : World) (Q W n N : Nat) (ws : List Nat) (gv : Value) (ms : List (Nat × Nat)) (F : Nat → Prop) : Prop where
  sk : Sk w Q W n ws
  gf : GF w gv N ms F
  fq : ¬ F Q
  fw : ¬ F W
section
variable {Q W n N : Nat} {ws ws' : List Nat} {gv : Value} {ms ms' : List (Nat × Nat)} {F : Nat → Prop} {w w' : World}
theorem Left.st (s : St w Q W n N ws gv ms F) (l : Left Q W n N ws' gv ms' F w w') : St w' Q W n N ws' gv ms' (Grown w w' F) :=
  ⟨l.sk, l.gate, grown_not s.sk.ltQ s.fq, grown_not s.sk.ltW s.fw⟩
theorem St.keeps {S : Nat → Prop} (s : St w Q W n N ws gv ms F) (k : Keeps S w w') (hQ : ¬ S Q) (hW : ¬ S W) (hF : ∀ b, F b → ¬ S b) : St w' Q W n N ws gv ms F :=
  ⟨s.sk.keeps k hQ hW, s.gf.keeps k hF, s.fq, s.fw⟩
theorem St.drew (s : St w Q W n N ws gv ms F) : St w.drew Q W n N ws gv ms F := s.keeps (S := fun _ => False) (Keeps.refl _ w).drew (fun z => z) (fun z => z) (fun _ _ z => z)
theorem Left.of_drew (l : Left Q W n N ws' gv ms' F w.drew w') : Left Q W n N ws' gv ms' F w w' := ⟨l.sk, l.gate, Keeps.trans (Keeps.refl _ w).drew l.keep⟩
theorem kstore {k v : Nat} (s : St w Q W n N ws gv ms F) (hl : ms.length < 1000000) (hk : k < 2 * n + 2) (hv : v < 18446744073709551616) :
    Calls Try.prog 11 #[.slice (some ⟨W, 0, none⟩) (2 * n + 2) (2 * n + 2), gv, .int .i64 (k : Int), .int .u64 (v : Int)] w fun e w' => e = .returned (.tuple #[]) ∧ Left Q W n N (ws.set k v) gv (ms ++ [(2, k)]) F w w' := by
  refine (store_ W (2 * n + 2) k N ws gv ms F w v s.sk.wd s.sk.len s.gf hl hk s.fw s.sk.ltW hv).mono ?_
  rintro e w' ⟨rfl, d, g, kk⟩
  exact ⟨rfl, s.sk.wrote kk (fun z => by rcases z with z | z; exact s.sk.ne z; exact s.fq z) d (by simpa using s.sk.len), g, kk⟩
theorem kload {k : Nat} (s : St w Q W n N ws gv ms F) (hl : ms.length < 1000000) (hk : k < 2 * n + 2) :
    Calls Try.prog 20 #[.slice (some ⟨W, 0, none⟩) (2 * n + 2) (2 * n + 2), gv, .int .i64 (k : Int)] w fun e w' => e = .returned (.int .u64 ((ws[k]?.getD 0 : Nat) : Int)) ∧ Left Q W n N ws gv (ms ++ [(1, k)]) F w w' := by
  refine (load_ W (2 * n + 2) k N ws gv ms F w s.sk.wd s.sk.len s.gf hl hk s.fw).mono ?_
  rintro e w' ⟨rfl, g, kk⟩
  exact ⟨rfl, s.sk.keeps kk s.fq s.fw, g, kk.mono (fun _ _ z => .inr z)⟩
theorem kcas {k v : Nat} (s : St w Q W n N ws gv ms F) (hl : ms.length < 1000000) (hk : k < 2 * n + 2) (hv : v < 18446744073709551616) :
    Calls Try.prog 25 #[.slice (some ⟨W, 0, none⟩) (2 * n + 2) (2 * n + 2), gv, .int .i64 (k : Int), .int .u64 ((ws[k]?.getD 0 : Nat) : Int), .int .u64 (v : Int)] w fun e w' => e = .returned (.bool true) ∧ Left Q W n N (ws.set k v) gv (ms ++ [(5, k)]) F w w' := by
  refine (cas_ W (2 * n + 2) k N ws gv ms F w _ v s.sk.wd s.sk.len rfl s.gf hl hk s.fw s.sk.ltW hv).mono ?_
  rintro e w' ⟨rfl, d, g, kk⟩
  exact ⟨rfl, s.sk.wrote kk (fun z => by rcases z with z | z; exact s.sk.ne z; exact s.fq z) d (by simpa using s.sk.len), g, kk⟩
end
theorem stack_info : (Try.prog.info? 41).map (fun i => i.size) = some 3 := by kernel_rfl
theorem stack_self (w : World) (a : Addr) : (binOp .neq 22 (.pointer (some a)) (.pointer (some a))).run Try.prog w = .ok (.bool false) w := by
  cases hi : Try.prog.info? 41 with
  | none => have := stack_info; rw [hi] at this; cases this
  | some i => exact Lib.run_neq_ptr_same w a Try.underlying22 hi
set_option maxRecDepth 100000 in
set_option maxHeartbeats 1000000 in
theorem none_ (Q W n : Nat) (ws : List Nat) (w : World) (h : Sk w Q W n ws) : Calls Try.prog 16 #[.pointer (some ⟨Q, 0, none⟩)] w fun e w' => e = .returned (.bool false) ∧ w = w' := by
  have p0 := h.cell0
  have hns := stack_self
  clear h
  go_enter Try.func16, Try.ntmps16
  go_wp2
  go_ret
  exact ⟨rfl, rfl⟩
set_option maxRecDepth 100000 in
set_option maxHeartbeats 1000000 in
theorem next_ (i : Nat) (w : World) (h1 : 1 ≤ i) (h2 : i ≤ 1024) :
    Calls Try.prog 12 #[.int .u64 (i : Int)] w fun e w' => e = .returned (.int .i64 ((2 * i : Nat) : Int)) ∧ w = w' := by
  have e1 : IntKind.u64.wrap ((i : Int) - 1) = ((i - 1 : Nat) : Int) := by rw [wrap_u64]; omega
  have e2 : IntKind.i64.wrap ((i - 1 : Nat) : Int) = ((i - 1 : Nat) : Int) := by simp [IntKind.wrap, IntKind.signed, IntKind.bits]; omega
  have e3 : ((2 * i : Nat) : Int) = wrap64 (2 + wrap64 (2 * ((i - 1 : Nat) : Int))) := by unfold wrap64; omega
  rw [e3]
  clear h1 h2 e3
  go_enter Try.func12, Try.ntmps12
  go_wp2
  go_ret
  exact ⟨rfl, rfl⟩
theorem fol_bits (t m : Nat) (hm : m < 4294967296) : ((fol t m : Nat) : Int) = bits BinOp.or IntKind.u64 (IntKind.u64.wrap (((t : Int) / 4294967296 + 1) * 4294967296)) (m : Int) := by
  have e1 : IntKind.u64.wrap (((t : Int) / 4294967296 + 1) * 4294967296) = (((t / 4294967296 + 1) % 4294967296 * 4294967296 : Nat) : Int) := by rw [wrap_u64]; omega
  have e2 : (t / 4294967296 + 1) % 4294967296 * 4294967296 ||| m = fol t m := by
    unfold fol
    generalize (t / 4294967296 + 1) % 4294967296 = a
    rw [show (4294967296 : Nat) = 2 ^ 32 from rfl, Nat.mul_comm, Nat.two_pow_add_eq_or_of_lt hm]
  rw [e1, u64_or_nat _ _ (by have := Nat.mod_lt (t / 4294967296 + 1) (show 4294967296 > 0 by omega); omega) (by omega), e2]
set_option maxRecDepth 100000 in
set_option maxHeartbeats 1000000 in
theorem nodeOf_ (t : Nat) (w : World) (h : t < 18446744073709551616) :
    Calls Try.prog 24 #[.int .u64 (t : Int)] w fun e w' => e = .returned (.int .u64 ((nd t : Nat) : Int)) ∧ w = w' := by
  have e1 : ((nd t : Nat) : Int) = IntKind.u64.wrap ((t : Int) * 4294967296) / 4294967296 := by rw [wrap_u64]; unfold nd; omega
  rw [e1]
  clear e1 h
  go_enter Try.func24, Try.ntmps24
  go_wp2
  go_ret
  exact ⟨rfl, rfl⟩
set_option maxRecDepth 100000 in
set_option maxHeartbeats 1000000 in
theorem follower_ (t m : Nat) (w : World) (h : t < 18446744073709551616) (hm : m < 4294967296) :
    Calls Try.prog 26 #[.int .u64 (t : Int), .int .u64 (m : Int)] w fun e w' => e = .returned (.int .u64 ((fol t m : Nat) : Int)) ∧ w = w' := by
  have e1 := fol_bits t m hm
  rw [e1]
  clear e1 hm
  go_enter Try.func26, Try.ntmps26
  go_wp2
  go_ret
  exact ⟨rfl, rfl⟩
end Go.Proofs.Ytjgbbjfphjhdcaa.sk
