/-
  queue: its words, New's object, the words of a ticket's slot, draw alone.
-/
import Derived.Test.YtlpgdpdjaoppbaaGw
import Derived.Deep.LoopGhost
import Derived.WalkMore
import Derived.Deep.RegionHeld3
import Derived.StillTailTactics
import Derived.Deep.QuietTactic
import Derived.BigQuiet
set_option linter.unusedVariables false
namespace Go.Proofs.Ytlpgdpdjaoppbaa.qu
open Go.RowKit Go.Proofs.Ytlpgdpdjaoppbaa.oc Go.Proofs.Ytlpgdpdjaoppbaa.mz Go.Proofs.Ytlpgdpdjaoppbaa.at_ Go.Proofs.Ytlpgdpdjaoppbaa.gt Go.Proofs.Ytlpgdpdjaoppbaa.gw
/-- block Q is a queue of n slots, its words ws lie in block W -/
structure Qu (w : World) (Q W n : Nat) (ws : List Nat) : Prop where
  blk : Blk w Q 65 [.pointer (some ⟨Q, 0, none⟩), .int .u64 (n : Int), .slice (some ⟨W, 0, none⟩) (2 * n + 2) (2 * n + 2)]
  wd : Wd w W ws
  len : ws.length = 2 * n + 2
  ne : Q ≠ W
  pos : 2 ≤ n
  top : n ≤ 1024
section
variable {w w' : World} {Q W n : Nat} {ws : List Nat}
theorem Qu.keeps {S : Nat → Prop} (h : Qu w Q W n ws) (k : Keeps S w w') (hQ : ¬ S Q) (hW : ¬ S W) : Qu w' Q W n ws := ⟨Blk.keeps h.blk k hQ, h.wd.keeps k hW, h.len, h.ne, h.pos, h.top⟩
theorem Qu.wrote {S : Nat → Prop} {ws' : List Nat} (h : Qu w Q W n ws) (k : Keeps S w w') (hQ : ¬ S Q) (hd : Wd w' W ws') (hl : ws'.length = 2 * n + 2) : Qu w' Q W n ws' := ⟨Blk.keeps h.blk k hQ, hd, hl, h.ne, h.pos, h.top⟩
theorem Qu.drew (h : Qu w Q W n ws) : Qu w.drew Q W n ws := h.keeps (S := fun _ => False) (Keeps.refl _ w).drew (fun z => z) (fun z => z)
theorem Qu.cell0 (h : Qu w Q W n ws) : w.cell? ⟨Q, 0, none⟩ = some (.pointer (some ⟨Q, 0, none⟩)) := by rw [h.blk.cell]; rfl
theorem Qu.cell1 (h : Qu w Q W n ws) : w.cell? ⟨Q, 1, none⟩ = some (.int .u64 (n : Int)) := by rw [h.blk.cell]; rfl
theorem Qu.cell2 (h : Qu w Q W n ws) : w.cell? ⟨Q, 2, none⟩ = some (.slice (some ⟨W, 0, none⟩) (2 * n + 2) (2 * n + 2)) := by rw [h.blk.cell]; rfl
theorem Qu.ltQ (h : Qu w Q W n ws) : Q < w.heap.size := h.blk.lt
theorem Qu.ltW (h : Qu w Q W n ws) : W < w.heap.size := h.wd.row.lt
end
/-- what a call leaves: its queue, its gate, the frame -/
structure Left (Q W n N : Nat) (ws' : List Nat) (gv : Value) (ms' : List (Nat × Nat)) (F : Nat → Prop) (w w' : World) : Prop where
  qu : Qu w' Q W n ws'
  gate : GF w' gv N ms' (Grown w w' F)
  keep : Keeps (fun b => b = W ∨ F b) w w'
theorem Left.trans {Q W n N : Nat} {ws1 ws2 : List Nat} {gv : Value} {ms1 ms2 : List (Nat × Nat)} {F : Nat → Prop} {w w1 w2 : World} (h : Left Q W n N ws1 gv ms1 F w w1) (k : Left Q W n N ws2 gv ms2 (Grown w w1 F) w1 w2) : Left Q W n N ws2 gv ms2 F w w2 := by
  refine ⟨k.qu, ?_, Keeps.glue h.keep k.keep (fun x hx z => ?_)⟩
  · have := k.gate
    rwa [grown_twice h.keep.size k.keep.size] at this
  · rcases z with z | z
    · exact .inl z
    · exact .inr (grown_old hx z)
/-- the word of a ticket's sequence -/
def seqOf (n t : Nat) : Nat := 2 * ((n - 1) &&& t) + 2
theorem seqOf_lt {n : Nat} (h : 2 ≤ n) (t : Nat) : seqOf n t + 1 < 2 * n + 2 ∧ 2 ≤ seqOf n t := by
  unfold seqOf
  have : (n - 1) &&& t ≤ n - 1 := Nat.and_le_left
  omega
theorem queue_info : (Try.prog.info? 65).map (fun i => i.size) = some 3 := by kernel_rfl
theorem queue_self (w : World) (a : Addr) : (binOp .neq 25 (.pointer (some a)) (.pointer (some a))).run Try.prog w = .ok (.bool false) w := by
  cases hi : Try.prog.info? 65 with
  | none => have := queue_info; rw [hi] at this; cases this
  | some i => exact Lib.run_neq_ptr_same w a Try.underlying25 hi
set_option maxRecDepth 100000 in
set_option maxHeartbeats 1000000 in
theorem none_ (Q W n : Nat) (ws : List Nat) (w : World) (h : Qu w Q W n ws) : Calls Try.prog 24 #[.pointer (some ⟨Q, 0, none⟩)] w fun e w' => e = .returned (.bool false) ∧ w = w' := by
  have p0 := h.cell0
  have hns := queue_self
  clear h
  go_enter Try.func24, Try.ntmps24
  go_wp2
  go_ret
  exact ⟨rfl, rfl⟩
theorem seq_eq (n c : Nat) (h0 : 2 ≤ n) (hn : n ≤ 1024) (hc : c < 18446744073709551616) : wrap64 (2 + wrap64 (2 * wrap64 (bits BinOp.and IntKind.u64 (c : Int) (IntKind.u64.wrap ((n : Int) - 1))))) = ((seqOf n c : Nat) : Int) := by
  have e1 : IntKind.u64.wrap ((n : Int) - 1) = ((n - 1 : Nat) : Int) := by rw [wrap_u64]; omega
  rw [e1, u64_and_nat c (n - 1) hc (by omega), Nat.and_comm]
  have hle : (n - 1) &&& c ≤ n - 1 := Nat.and_le_left
  unfold seqOf
  generalize (n - 1) &&& c = s at *
  unfold wrap64
  omega
set_option maxRecDepth 100000 in
set_option maxHeartbeats 1000000 in
theorem seq_ (Q W n c : Nat) (ws : List Nat) (w : World) (h : Qu w Q W n ws) (hc : c < 18446744073709551616) :
    Calls Try.prog 23 #[.pointer (some ⟨Q, 0, none⟩), .int .u64 (c : Int)] w fun e w' => e = .returned (.int .i64 ((seqOf n c : Nat) : Int)) ∧ w = w' := by
  have c1 := h.cell1
  rw [← seq_eq n c h.pos h.top hc]
  clear h hc
  go_enter Try.func23, Try.ntmps23
  go_wp2
  go_ret
  exact ⟨rfl, rfl⟩
set_option maxRecDepth 100000 in
set_option maxHeartbeats 1000000 in
theorem value_ (Q W n c : Nat) (ws : List Nat) (w : World) (h : Qu w Q W n ws) (hc : c < 18446744073709551616) :
    Calls Try.prog 26 #[.pointer (some ⟨Q, 0, none⟩), .int .u64 (c : Int)] w fun e w' => e = .returned (.int .i64 ((seqOf n c + 1 : Nat) : Int)) ∧ w = w' := by
  have HS := Lib.hid (seq_ Q W n c ws w h hc)
  have hb := seqOf_lt h.pos c
  have ht := h.top
  have e1 : ((seqOf n c + 1 : Nat) : Int) = wrap64 ((seqOf n c : Nat) + 1 : Int) := by unfold wrap64; omega
  rw [e1]
  generalize seqOf n c = s at *
  clear h hc e1 hb ht
  go_enter Try.func26, Try.ntmps26
  go_wp2_with fail
  refine HS.out.mono ?_
  rintro e w' ⟨rfl, rfl⟩
  go_wp2
  go_ret
  exact ⟨rfl, rfl⟩
set_option maxRecDepth 100000 in
set_option maxHeartbeats 1000000 in
theorem behind_ (s t : Nat) (w : World) (hs : s ≤ t) (ht : t < 1000000) :
    Calls Try.prog 37 #[.int .u64 (s : Int), .int .u64 (t : Int)] w fun e w' => e = .returned (.bool (decide (s < t))) ∧ w = w' := by
  have e1 : decide (s < t) = decide ((9223372036854775808 : Int) ≤ IntKind.u64.wrap ((s : Int) - (t : Int))) := by
    rw [wrap_u64]
    by_cases h : s < t
    · rw [decide_eq_true h, decide_eq_true (by omega)]
    · rw [decide_eq_false h, decide_eq_false (by omega)]
  rw [e1]
  clear e1 hs ht
  go_enter Try.func37, Try.ntmps37
  go_wp2
  go_ret
  exact ⟨rfl, rfl⟩
section
variable (Q W n N k a t s : Nat) (ws : List Nat) (gv : Value) (ms : List (Nat × Nat)) (F : Nat → Prop) (w : World)
set_option maxRecDepth 100000 in
set_option maxHeartbeats 2000000 in
theorem draw_no (h : Qu w Q W n ws) (hg : GF w gv N ms F) (hl : ms.length < 900000) (hQ : ¬ F Q) (hW : ¬ F W) (hk : k < 2) (ha : a < 2) (ht : ws[k]?.getD 0 = t) (hs : ws[seqOf n t]?.getD 0 = s) (hlt : s < t + a) (hsm : t < 900000) :
    Calls Try.prog 25 #[.pointer (some ⟨Q, 0, none⟩), gv, .int .i64 (k : Int), .int .u64 (a : Int)] w fun e w' => e = .returned (.tuple #[.int .u64 0, .bool false]) ∧ Left Q W n N ws gv (ms ++ [(1, k)] ++ [(1, seqOf n t)]) F w w' := by
  have hb := seqOf_lt h.pos t
  have c2 := h.cell2
  have H := Lib.hid h
  have HT1 := Lib.hid (load_ W (2 * n + 2) k N ws gv ms F w h.wd h.len hg (by omega) (by omega) hW)
  rw [ht] at HT1
  have HT2 : Hid (∀ w1, Qu w1 Q W n ws → _) := Lib.hid (fun w1 r1 => seq_ Q W n t ws w1 r1 (by omega))
  have HT3 : Hid (∀ w1 F1, Qu w1 Q W n ws → GF w1 gv N (ms ++ [(1, k)]) F1 → ¬ F1 W → _) := Lib.hid (fun w1 F1 r1 g1 q1 => load_ W (2 * n + 2) (seqOf n t) N ws gv (ms ++ [(1, k)]) F1 w1 r1.wd r1.len g1 (by simp; omega) (by omega) q1)
  rw [hs] at HT3
  have HB : Hid (∀ w, Calls Try.prog 37 #[.int .u64 (s : Int), .int .u64 ((t + a : Nat) : Int)] w fun e w' => e = .returned (.bool true) ∧ w = w') := Lib.hid (fun w => by have := behind_ s (t + a) w (by omega) (by omega); rwa [decide_eq_true hlt] at this)
  have HE := Lib.hid (show IntKind.u64.wrap ((t : Int) + (a : Int)) = ((t + a : Nat) : Int) by rw [wrap_u64]; omega)
  have HF : Hid (¬ F Q ∧ ¬ F W) := Lib.hid ⟨hQ, hW⟩
  clear h hg hl hQ hW hk ha ht hs hlt hsm hb
  generalize seqOf n t = sq at *
  go_enter Try.func25, Try.ntmps25
  go_wp2_with fail
  go_step3
  go_wp2_with fail
  go_step3
  go_wp2_with fail
  refine wp_loop_rounds 1 ?_
  rw [rounds_succ]
  go_wp2_with fail
  refine HT1.out.mono ?_
  rintro e w1 ⟨rfl, g1, k1⟩
  have r1 := H.out.keeps k1 HF.out.1 HF.out.2
  have c2 := r1.cell2
  have R1 := Lib.hid r1
  have K1 := Lib.hid k1
  have g1d : GF w1.drew gv N (ms ++ [(1, k)]) (Grown w w1.drew F) := g1.keeps (S := fun _ => False) (Keeps.refl _ w1).drew (fun _ _ z => z)
  have HT4 := Lib.hid (HT3.out w1.drew _ r1.drew g1d (grown_not H.out.ltW HF.out.2))
  have HT5 := Lib.hid (HT2.out w1.drew r1.drew)
  clear g1 g1d k1 r1 HT2 HT3
  go_wp2_with fail
  go_region_held3 (fun w' => w'.cell? ⟨Q, 2, none⟩ = some (.slice (some ⟨W, 0, none⟩) (2 * n + 2) (2 * n + 2))) (first | exact c2 | exact c2w)
    ((first
      | (go_at_call 23; refine HT5.out.mono ?_; rintro e w' ⟨rfl, rfl⟩)
      | (go_at_call 27; refine HT4.out.mono ?_; rintro e w2 ⟨rfl, g2, k2d⟩; have k2 : Keeps _ w1 w2 := Keeps.trans (Keeps.refl _ w1).drew k2d; have c2w := (R1.out.keeps k2 (grown_not H.out.ltQ HF.out.1) (grown_not H.out.ltW HF.out.2)).cell2; have K2 := Lib.hid k2; have G2 := Lib.hid g2; clear g2 k2d k2)))
  go_wp2_with fail
  rw [HE.out]
  refine (HB.out w2).mono ?_
  rintro e w' ⟨rfl, rfl⟩
  go_wp2
  try rw [Exit.noGoto_ret]
  go_ret2
  have hF1 := HF.out
  have hr2 := R1.out.keeps K2.out (grown_not H.out.ltQ hF1.1) (grown_not H.out.ltW hF1.2)
  have hg2 := G2.out
  rw [show Grown w1.drew w2 (Grown w w1.drew F) = Grown w w2 F from grown_twice K1.out.size K2.out.size] at hg2
  exact ⟨rfl, hr2, hg2, Keeps.glue (K1.out.mono (fun _ _ z => .inr z)) K2.out (fun x hx z => .inr (grown_old hx z))⟩
set_option maxRecDepth 100000 in
set_option maxHeartbeats 2000000 in
theorem draw_yes (h : Qu w Q W n ws) (hg : GF w gv N ms F) (hl : ms.length < 900000) (hQ : ¬ F Q) (hW : ¬ F W) (hk : k < 2) (ha : a < 2) (ht : ws[k]?.getD 0 = t) (hs : ws[seqOf n t]?.getD 0 = s) (hst : s = t + a) (hsm : t < 900000) :
    Calls Try.prog 25 #[.pointer (some ⟨Q, 0, none⟩), gv, .int .i64 (k : Int), .int .u64 (a : Int)] w fun e w' => e = .returned (.tuple #[.int .u64 (t : Int), .bool true]) ∧ Left Q W n N (ws.set k (t + 1)) gv (ms ++ [(1, k)] ++ [(1, seqOf n t)] ++ [(5, k)]) F w w' := by
  have hb := seqOf_lt h.pos t
  have c2 := h.cell2
  have H := Lib.hid h
  have HT1 := Lib.hid (load_ W (2 * n + 2) k N ws gv ms F w h.wd h.len hg (by omega) (by omega) hW)
  rw [ht] at HT1
  have HT2 : Hid (∀ w1, Qu w1 Q W n ws → _) := Lib.hid (fun w1 r1 => seq_ Q W n t ws w1 r1 (by omega))
  have HT3 : Hid (∀ w1 F1, Qu w1 Q W n ws → GF w1 gv N (ms ++ [(1, k)]) F1 → ¬ F1 W → _) := Lib.hid (fun w1 F1 r1 g1 q1 => load_ W (2 * n + 2) (seqOf n t) N ws gv (ms ++ [(1, k)]) F1 w1 r1.wd r1.len g1 (by simp; omega) (by omega) q1)
  rw [hs] at HT3
  have HT6 : Hid (∀ w1 F1, Qu w1 Q W n ws → GF w1 gv N (ms ++ [(1, k)] ++ [(1, seqOf n t)]) F1 → ¬ F1 W → _) := Lib.hid (fun w1 F1 r1 g1 q1 => cas_ W (2 * n + 2) k N ws gv (ms ++ [(1, k)] ++ [(1, seqOf n t)]) F1 w1 t (t + 1) r1.wd r1.len ht g1 (by simp; omega) (by omega) q1 r1.ltW (by omega))
  have HB : Hid (∀ w, Calls Try.prog 37 #[.int .u64 (s : Int), .int .u64 (s : Int)] w fun e w' => e = .returned (.bool false) ∧ w = w') := Lib.hid (fun w => by have := behind_ s s w (by omega) (by omega); rwa [decide_eq_false (Nat.lt_irrefl _)] at this)
  have HE := Lib.hid (show IntKind.u64.wrap ((t : Int) + (a : Int)) = (s : Int) by rw [wrap_u64]; omega)
  have HE2 := Lib.hid (show IntKind.u64.wrap ((t : Int) + 1) = ((t + 1 : Nat) : Int) by rw [wrap_u64]; omega)
  have HF : Hid (¬ F Q ∧ ¬ F W) := Lib.hid ⟨hQ, hW⟩
  have hne : ((s : Int) != IntKind.u64.wrap ((t : Int) + (a : Int))) = false := by rw [HE.out]; simp
  have heq : ((s : Int) == IntKind.u64.wrap ((t : Int) + (a : Int))) = true := by rw [HE.out]; simp
  clear h hg hl hQ hW hk ha ht hs hst hsm hb
  generalize seqOf n t = sq at *
  go_enter Try.func25, Try.ntmps25
  go_wp2_with fail
  go_step3
  go_wp2_with fail
  go_step3
  go_wp2_with fail
  refine wp_loop_rounds 1 ?_
  rw [rounds_succ]
  go_wp2_with fail
  refine HT1.out.mono ?_
  rintro e w1 ⟨rfl, g1, k1⟩
  have r1 := H.out.keeps k1 HF.out.1 HF.out.2
  have c2 := r1.cell2
  have R1 := Lib.hid r1
  have K1 := Lib.hid k1
  have g1d : GF w1.drew gv N (ms ++ [(1, k)]) (Grown w w1.drew F) := g1.keeps (S := fun _ => False) (Keeps.refl _ w1).drew (fun _ _ z => z)
  have HT4 := Lib.hid (HT3.out w1.drew _ r1.drew g1d (grown_not H.out.ltW HF.out.2))
  have HT5 := Lib.hid (HT2.out w1.drew r1.drew)
  clear g1 g1d k1 r1 HT2 HT3
  go_wp2_with fail
  go_region_held3 (fun w' => w'.cell? ⟨Q, 2, none⟩ = some (.slice (some ⟨W, 0, none⟩) (2 * n + 2) (2 * n + 2))) (first | exact c2 | exact c2w)
    ((first
      | (go_at_call 23; refine HT5.out.mono ?_; rintro e w' ⟨rfl, rfl⟩)
      | (go_at_call 27; refine HT4.out.mono ?_; rintro e w2 ⟨rfl, g2, k2d⟩; have k2 : Keeps _ w1 w2 := Keeps.trans (Keeps.refl _ w1).drew k2d; have c2w := (R1.out.keeps k2 (grown_not H.out.ltQ HF.out.1) (grown_not H.out.ltW HF.out.2)).cell2; have K2 := Lib.hid k2; have G2 := Lib.hid g2; clear g2 k2d k2)))
  have r2 := R1.out.keeps K2.out (grown_not H.out.ltQ HF.out.1) (grown_not H.out.ltW HF.out.2)
  have c2 := r2.cell2
  have g2 := G2.out
  rw [show Grown w1.drew w2 (Grown w w1.drew F) = Grown w w2 F from grown_twice K1.out.size K2.out.size] at g2
  have HT7 := Lib.hid (HT6.out w2 _ r2 g2 (grown_not H.out.ltW HF.out.2))
  have R2 := Lib.hid r2
  clear g2 r2 G2
  go_wp2_with fail
  rw [HE.out]
  refine (HB.out w2).mono ?_
  rintro e w' ⟨rfl, rfl⟩
  go_wp2_with fail
  rw [HE2.out]
  refine HT7.out.mono ?_
  rintro e w3 ⟨rfl, d3, g3, k3⟩
  have D3 := Lib.hid d3
  have G3 := Lib.hid g3
  have K3 := Lib.hid k3
  clear d3 g3 k3
  go_wp2
  try rw [Exit.noGoto_ret]
  go_ret2
  have hF1 := HF.out
  have hz2 : w.heap.size ≤ w2.heap.size := Nat.le_trans K1.out.size K2.out.size
  have hr3 := R2.out.wrote K3.out (fun z => by rcases z with z | z; exact H.out.ne z; exact grown_not H.out.ltQ hF1.1 z) D3.out (by simpa using H.out.len)
  have hg3 := G3.out
  rw [grown_twice hz2 K3.out.size] at hg3
  exact ⟨rfl, hr3, hg3, Keeps.glue (Keeps.glue (K1.out.mono (fun _ _ z => .inr z)) K2.out (fun x hx z => .inr (grown_old hx z))) K3.out (fun x hx z => by rcases z with z | z; exact .inl z; exact .inr (grown_old hx z))⟩
end
end Go.Proofs.Ytlpgdpdjaoppbaa.qu
