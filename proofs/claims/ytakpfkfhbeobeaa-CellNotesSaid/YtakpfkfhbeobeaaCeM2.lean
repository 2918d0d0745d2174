/-
  cell's loop of compare and swap, alone: one round. The functions that cell's counters hand to their loop: they only read. cell's counters: Up, Down, Max.
-/
import Derived.Test.YtakpfkfhbeobeaaCeM1
import Derived.Deep.QuietTactic
import Derived.BigQuiet
namespace Go.Proofs.Ytakpfkfhbeobeaa.ce
open Go.RowKit Go.Proofs.Ytakpfkfhbeobeaa.oc Go.Proofs.Ytakpfkfhbeobeaa.mz
set_option maxRecDepth 100000 in
set_option maxHeartbeats 1000000 in
theorem changeUp_no (C v to : Nat) (p1 p2 : Value) (gv : Value) (w : World) (ms : List (Nat × Nat)) (F : Nat → Prop) (h : Cnt w C v) (hg : Gate w gv ms F) (hl : ms.length < 999999) (hd : ¬ F C)
    (HN : ∀ w1, Keeps F w w1 → Calls Try.prog 47 #[.int .u64 v, p1, p2] w1 fun e w' => e = .returned (.tuple #[.int .u64 to, .bool false]) ∧ ∀ S, Keeps S w1 w') :
    Calls Try.prog 46 #[.pointer (some ⟨C, 0, none⟩), gv, .func (.func 47) #[] #[p1, p2]] w fun e w' => e = .returned (.tuple #[.int .u64 v, .bool false]) ∧ CPost C v gv (ms ++ [(1, 0)]) F w w' := by
  have HT := Lib.hid (gate_tell gv 1 w ms F hg (by omega))
  have HV := Lib.hid h
  have HNN := Lib.hid HN
  clear h hg HN
  go_enter Try.func46, Try.ntmps46
  go_wp2_with fail
  go_step3
  go_wp2_with fail
  go_step3
  go_wp2_with fail
  refine wp_loop_rounds 1 ?_
  rw [rounds_succ]
  go_wp2_with fail
  refine HT.out.mono ?_
  rintro e w1 ⟨rfl, h1, h2⟩
  have H1 := Lib.hid h1
  have H2 := Lib.hid h2
  have hc1 := HV.out.keeps h2 hd
  have hv := hc1.cell
  have HL := Lib.hid (at_.u64_load C 1 v w1 hv.1)
  have HC1 := Lib.hid hc1
  clear h1 h2 hv hc1
  go_wp2_with fail
  refine HL.out.mono ?_
  rintro e w2 ⟨rfl, rfl⟩
  go_wp2_with fail
  refine (HNN.out _ H2.out).mono ?_
  rintro e w2 ⟨rfl, hk⟩
  have HK := Lib.hid hk
  have hCl := HV.out.1.lt
  have hw1 := H2.out.size
  clear hk
  go_wp2
  try rw [Exit.noGoto_ret]
  go_ret2
  have k2 := (HK.out (fun _ => False)).size
  refine ⟨rfl, HC1.out.keeps (HK.out (fun _ => False)) (fun z => z), gate_step H1.out (HK.out (fun _ => False)) (fun _ _ z => z), ?_⟩
  refine ⟨by omega, fun b hb hs => ?_, H2.out.same.trans (HK.out (fun _ => False)).same⟩
  rw [(HK.out (fun _ => False)).block b (by omega) (fun z => z), H2.out.block b hb (fun z => hs (.inl z))]
set_option maxRecDepth 100000 in
set_option maxHeartbeats 1000000 in
theorem changeUp_yes (C v to : Nat) (p1 p2 : Value) (gv : Value) (w : World) (ms : List (Nat × Nat)) (F : Nat → Prop) (h : Cnt w C v) (hg : Gate w gv ms F) (hl : ms.length < 999999) (hd : ¬ F C) (hto : to < 18446744073709551616)
    (HN : ∀ w1, Keeps F w w1 → Calls Try.prog 47 #[.int .u64 v, p1, p2] w1 fun e w' => e = .returned (.tuple #[.int .u64 to, .bool true]) ∧ ∀ S, Keeps S w1 w') :
    Calls Try.prog 46 #[.pointer (some ⟨C, 0, none⟩), gv, .func (.func 47) #[] #[p1, p2]] w fun e w' => e = .returned (.tuple #[.int .u64 to, .bool true]) ∧ CPost C to gv (ms ++ [(1, 0)] ++ [(5, 0)]) F w w' := by
  have HT := Lib.hid (gate_tell gv 1 w ms F hg (by omega))
  have HV := Lib.hid h
  have HNN := Lib.hid HN
  have HTO : Hid (to < 18446744073709551616) := Lib.hid hto
  clear h hg HN hto
  go_enter Try.func46, Try.ntmps46
  go_wp2_with fail
  go_step3
  go_wp2_with fail
  go_step3
  go_wp2_with fail
  refine wp_loop_rounds 1 ?_
  rw [rounds_succ]
  go_wp2_with fail
  refine HT.out.mono ?_
  rintro e w1 ⟨rfl, h1, h2⟩
  have H1 := Lib.hid h1
  have H2 := Lib.hid h2
  have hc1 := HV.out.keeps h2 hd
  have hv := hc1.cell
  have HL := Lib.hid (at_.u64_load C 1 v w1 hv.1)
  have HC1 := Lib.hid hc1
  clear h1 h2 hv hc1
  go_wp2_with fail
  refine HL.out.mono ?_
  rintro e w2 ⟨rfl, rfl⟩
  go_wp2_with fail
  refine (HNN.out _ H2.out).mono ?_
  rintro e w2 ⟨rfl, hk⟩
  have HK := Lib.hid hk
  have hCl := HV.out.1.lt
  have hw1 := H2.out.size
  have g2 := gate_step H1.out (hk (fun _ => False)) (fun _ _ z => z)
  have HT2 := Lib.hid (gate_tell gv 5 w2 (ms ++ [(1, 0)]) (Grown w w2 F) g2 (by simp; omega))
  have hc2 := HC1.out.keeps (hk (fun _ => False)) (fun z => z)
  have HC2 := Lib.hid hc2
  have hnG : ¬ Grown w w2 F C := fun z => by rcases z with z | z; exact hd z; omega
  clear hk g2 hc2
  go_wp2_with fail
  refine HT2.out.mono ?_
  rintro e w3 ⟨rfl, h1, h2⟩
  have H3 := Lib.hid h1
  have H4 := Lib.hid h2
  have hc3 := HC2.out.keeps h2 hnG
  have hv := hc3.cell
  have HCAS := Lib.hid (at_.u64_cas C 1 v to w3 hv.1 hv.2)
  have HC3 := Lib.hid hc3
  clear h1 h2 hv hc3
  go_wp2_with fail
  refine HCAS.out.mono ?_
  rintro e w4 ⟨rfl, rfl⟩
  go_wp2
  try rw [Exit.noGoto_ret]
  go_ret2
  have k2 := (HK.out (fun _ => False)).size
  have k4 := H4.out.size
  have kC : Keeps (· = C) w3 (w3.setCell ⟨C, 1, none⟩ (.int .u64 (to : Int))) := (Keeps.refl (· = C) w3).setCell (p := ⟨C, 1, none⟩) (.inl rfl) _
  have g3 := gate_twice H3.out (by omega) (by omega)
  refine ⟨rfl, HC3.out.set to HTO.out, gate_step g3 kC (fun b hb e => ?_), ?_⟩
  · subst e
    rcases hb with q | q
    · exact hd q
    · omega
  · refine ⟨by have := kC.size; omega, fun b hb hs => ?_, H2.out.same.trans ((HK.out (fun _ => False)).same.trans (H4.out.same.trans kC.same))⟩
    rw [kC.block b (by omega) (fun e => hs (.inr e)), H4.out.block b (by omega) (fun z => by rcases z with z | z; exact hs (.inl z); omega), (HK.out (fun _ => False)).block b (by omega) (fun z => z), H2.out.block b hb (fun z => hs (.inl z))]
set_option maxRecDepth 100000 in
set_option maxHeartbeats 1000000 in
theorem changeDown_no (C v to : Nat) (p1 : Value) (gv : Value) (w : World) (ms : List (Nat × Nat)) (F : Nat → Prop) (h : Cnt w C v) (hg : Gate w gv ms F) (hl : ms.length < 999999) (hd : ¬ F C)
    (HN : ∀ w1, Keeps F w w1 → Calls Try.prog 48 #[.int .u64 v, p1] w1 fun e w' => e = .returned (.tuple #[.int .u64 to, .bool false]) ∧ ∀ S, Keeps S w1 w') :
    Calls Try.prog 46 #[.pointer (some ⟨C, 0, none⟩), gv, .func (.func 48) #[] #[p1]] w fun e w' => e = .returned (.tuple #[.int .u64 v, .bool false]) ∧ CPost C v gv (ms ++ [(1, 0)]) F w w' := by
  have HT := Lib.hid (gate_tell gv 1 w ms F hg (by omega))
  have HV := Lib.hid h
  have HNN := Lib.hid HN
  clear h hg HN
  go_enter Try.func46, Try.ntmps46
  go_wp2_with fail
  go_step3
  go_wp2_with fail
  go_step3
  go_wp2_with fail
  refine wp_loop_rounds 1 ?_
  rw [rounds_succ]
  go_wp2_with fail
  refine HT.out.mono ?_
  rintro e w1 ⟨rfl, h1, h2⟩
  have H1 := Lib.hid h1
  have H2 := Lib.hid h2
  have hc1 := HV.out.keeps h2 hd
  have hv := hc1.cell
  have HL := Lib.hid (at_.u64_load C 1 v w1 hv.1)
  have HC1 := Lib.hid hc1
  clear h1 h2 hv hc1
  go_wp2_with fail
  refine HL.out.mono ?_
  rintro e w2 ⟨rfl, rfl⟩
  go_wp2_with fail
  refine (HNN.out _ H2.out).mono ?_
  rintro e w2 ⟨rfl, hk⟩
  have HK := Lib.hid hk
  have hCl := HV.out.1.lt
  have hw1 := H2.out.size
  clear hk
  go_wp2
  try rw [Exit.noGoto_ret]
  go_ret2
  have k2 := (HK.out (fun _ => False)).size
  refine ⟨rfl, HC1.out.keeps (HK.out (fun _ => False)) (fun z => z), gate_step H1.out (HK.out (fun _ => False)) (fun _ _ z => z), ?_⟩
  refine ⟨by omega, fun b hb hs => ?_, H2.out.same.trans (HK.out (fun _ => False)).same⟩
  rw [(HK.out (fun _ => False)).block b (by omega) (fun z => z), H2.out.block b hb (fun z => hs (.inl z))]
set_option maxRecDepth 100000 in
set_option maxHeartbeats 1000000 in
theorem changeDown_yes (C v to : Nat) (p1 : Value) (gv : Value) (w : World) (ms : List (Nat × Nat)) (F : Nat → Prop) (h : Cnt w C v) (hg : Gate w gv ms F) (hl : ms.length < 999999) (hd : ¬ F C) (hto : to < 18446744073709551616)
    (HN : ∀ w1, Keeps F w w1 → Calls Try.prog 48 #[.int .u64 v, p1] w1 fun e w' => e = .returned (.tuple #[.int .u64 to, .bool true]) ∧ ∀ S, Keeps S w1 w') :
    Calls Try.prog 46 #[.pointer (some ⟨C, 0, none⟩), gv, .func (.func 48) #[] #[p1]] w fun e w' => e = .returned (.tuple #[.int .u64 to, .bool true]) ∧ CPost C to gv (ms ++ [(1, 0)] ++ [(5, 0)]) F w w' := by
  have HT := Lib.hid (gate_tell gv 1 w ms F hg (by omega))
  have HV := Lib.hid h
  have HNN := Lib.hid HN
  have HTO : Hid (to < 18446744073709551616) := Lib.hid hto
  clear h hg HN hto
  go_enter Try.func46, Try.ntmps46
  go_wp2_with fail
  go_step3
  go_wp2_with fail
  go_step3
  go_wp2_with fail
  refine wp_loop_rounds 1 ?_
  rw [rounds_succ]
  go_wp2_with fail
  refine HT.out.mono ?_
  rintro e w1 ⟨rfl, h1, h2⟩
  have H1 := Lib.hid h1
  have H2 := Lib.hid h2
  have hc1 := HV.out.keeps h2 hd
  have hv := hc1.cell
  have HL := Lib.hid (at_.u64_load C 1 v w1 hv.1)
  have HC1 := Lib.hid hc1
  clear h1 h2 hv hc1
  go_wp2_with fail
  refine HL.out.mono ?_
  rintro e w2 ⟨rfl, rfl⟩
  go_wp2_with fail
  refine (HNN.out _ H2.out).mono ?_
  rintro e w2 ⟨rfl, hk⟩
  have HK := Lib.hid hk
  have hCl := HV.out.1.lt
  have hw1 := H2.out.size
  have g2 := gate_step H1.out (hk (fun _ => False)) (fun _ _ z => z)
  have HT2 := Lib.hid (gate_tell gv 5 w2 (ms ++ [(1, 0)]) (Grown w w2 F) g2 (by simp; omega))
  have hc2 := HC1.out.keeps (hk (fun _ => False)) (fun z => z)
  have HC2 := Lib.hid hc2
  have hnG : ¬ Grown w w2 F C := fun z => by rcases z with z | z; exact hd z; omega
  clear hk g2 hc2
  go_wp2_with fail
  refine HT2.out.mono ?_
  rintro e w3 ⟨rfl, h1, h2⟩
  have H3 := Lib.hid h1
  have H4 := Lib.hid h2
  have hc3 := HC2.out.keeps h2 hnG
  have hv := hc3.cell
  have HCAS := Lib.hid (at_.u64_cas C 1 v to w3 hv.1 hv.2)
  have HC3 := Lib.hid hc3
  clear h1 h2 hv hc3
  go_wp2_with fail
  refine HCAS.out.mono ?_
  rintro e w4 ⟨rfl, rfl⟩
  go_wp2
  try rw [Exit.noGoto_ret]
  go_ret2
  have k2 := (HK.out (fun _ => False)).size
  have k4 := H4.out.size
  have kC : Keeps (· = C) w3 (w3.setCell ⟨C, 1, none⟩ (.int .u64 (to : Int))) := (Keeps.refl (· = C) w3).setCell (p := ⟨C, 1, none⟩) (.inl rfl) _
  have g3 := gate_twice H3.out (by omega) (by omega)
  refine ⟨rfl, HC3.out.set to HTO.out, gate_step g3 kC (fun b hb e => ?_), ?_⟩
  · subst e
    rcases hb with q | q
    · exact hd q
    · omega
  · refine ⟨by have := kC.size; omega, fun b hb hs => ?_, H2.out.same.trans ((HK.out (fun _ => False)).same.trans (H4.out.same.trans kC.same))⟩
    rw [kC.block b (by omega) (fun e => hs (.inr e)), H4.out.block b (by omega) (fun z => by rcases z with z | z; exact hs (.inl z); omega), (HK.out (fun _ => False)).block b (by omega) (fun z => z), H2.out.block b hb (fun z => hs (.inl z))]
set_option maxRecDepth 100000 in
set_option maxHeartbeats 1000000 in
theorem changeMax_no (C v to : Nat) (p1 : Value) (gv : Value) (w : World) (ms : List (Nat × Nat)) (F : Nat → Prop) (h : Cnt w C v) (hg : Gate w gv ms F) (hl : ms.length < 999999) (hd : ¬ F C)
    (HN : ∀ w1, Keeps F w w1 → Calls Try.prog 49 #[.int .u64 v, p1] w1 fun e w' => e = .returned (.tuple #[.int .u64 to, .bool false]) ∧ ∀ S, Keeps S w1 w') :
    Calls Try.prog 46 #[.pointer (some ⟨C, 0, none⟩), gv, .func (.func 49) #[] #[p1]] w fun e w' => e = .returned (.tuple #[.int .u64 v, .bool false]) ∧ CPost C v gv (ms ++ [(1, 0)]) F w w' := by
  have HT := Lib.hid (gate_tell gv 1 w ms F hg (by omega))
  have HV := Lib.hid h
  have HNN := Lib.hid HN
  clear h hg HN
  go_enter Try.func46, Try.ntmps46
  go_wp2_with fail
  go_step3
  go_wp2_with fail
  go_step3
  go_wp2_with fail
  refine wp_loop_rounds 1 ?_
  rw [rounds_succ]
  go_wp2_with fail
  refine HT.out.mono ?_
  rintro e w1 ⟨rfl, h1, h2⟩
  have H1 := Lib.hid h1
  have H2 := Lib.hid h2
  have hc1 := HV.out.keeps h2 hd
  have hv := hc1.cell
  have HL := Lib.hid (at_.u64_load C 1 v w1 hv.1)
  have HC1 := Lib.hid hc1
  clear h1 h2 hv hc1
  go_wp2_with fail
  refine HL.out.mono ?_
  rintro e w2 ⟨rfl, rfl⟩
  go_wp2_with fail
  refine (HNN.out _ H2.out).mono ?_
  rintro e w2 ⟨rfl, hk⟩
  have HK := Lib.hid hk
  have hCl := HV.out.1.lt
  have hw1 := H2.out.size
  clear hk
  go_wp2
  try rw [Exit.noGoto_ret]
  go_ret2
  have k2 := (HK.out (fun _ => False)).size
  refine ⟨rfl, HC1.out.keeps (HK.out (fun _ => False)) (fun z => z), gate_step H1.out (HK.out (fun _ => False)) (fun _ _ z => z), ?_⟩
  refine ⟨by omega, fun b hb hs => ?_, H2.out.same.trans (HK.out (fun _ => False)).same⟩
  rw [(HK.out (fun _ => False)).block b (by omega) (fun z => z), H2.out.block b hb (fun z => hs (.inl z))]
set_option maxRecDepth 100000 in
set_option maxHeartbeats 1000000 in
theorem changeMax_yes (C v to : Nat) (p1 : Value) (gv : Value) (w : World) (ms : List (Nat × Nat)) (F : Nat → Prop) (h : Cnt w C v) (hg : Gate w gv ms F) (hl : ms.length < 999999) (hd : ¬ F C) (hto : to < 18446744073709551616)
    (HN : ∀ w1, Keeps F w w1 → Calls Try.prog 49 #[.int .u64 v, p1] w1 fun e w' => e = .returned (.tuple #[.int .u64 to, .bool true]) ∧ ∀ S, Keeps S w1 w') :
    Calls Try.prog 46 #[.pointer (some ⟨C, 0, none⟩), gv, .func (.func 49) #[] #[p1]] w fun e w' => e = .returned (.tuple #[.int .u64 to, .bool true]) ∧ CPost C to gv (ms ++ [(1, 0)] ++ [(5, 0)]) F w w' := by
  have HT := Lib.hid (gate_tell gv 1 w ms F hg (by omega))
  have HV := Lib.hid h
  have HNN := Lib.hid HN
  have HTO : Hid (to < 18446744073709551616) := Lib.hid hto
  clear h hg HN hto
  go_enter Try.func46, Try.ntmps46
  go_wp2_with fail
  go_step3
  go_wp2_with fail
  go_step3
  go_wp2_with fail
  refine wp_loop_rounds 1 ?_
  rw [rounds_succ]
  go_wp2_with fail
  refine HT.out.mono ?_
  rintro e w1 ⟨rfl, h1, h2⟩
  have H1 := Lib.hid h1
  have H2 := Lib.hid h2
  have hc1 := HV.out.keeps h2 hd
  have hv := hc1.cell
  have HL := Lib.hid (at_.u64_load C 1 v w1 hv.1)
  have HC1 := Lib.hid hc1
  clear h1 h2 hv hc1
  go_wp2_with fail
  refine HL.out.mono ?_
  rintro e w2 ⟨rfl, rfl⟩
  go_wp2_with fail
  refine (HNN.out _ H2.out).mono ?_
  rintro e w2 ⟨rfl, hk⟩
  have HK := Lib.hid hk
  have hCl := HV.out.1.lt
  have hw1 := H2.out.size
  have g2 := gate_step H1.out (hk (fun _ => False)) (fun _ _ z => z)
  have HT2 := Lib.hid (gate_tell gv 5 w2 (ms ++ [(1, 0)]) (Grown w w2 F) g2 (by simp; omega))
  have hc2 := HC1.out.keeps (hk (fun _ => False)) (fun z => z)
  have HC2 := Lib.hid hc2
  have hnG : ¬ Grown w w2 F C := fun z => by rcases z with z | z; exact hd z; omega
  clear hk g2 hc2
  go_wp2_with fail
  refine HT2.out.mono ?_
  rintro e w3 ⟨rfl, h1, h2⟩
  have H3 := Lib.hid h1
  have H4 := Lib.hid h2
  have hc3 := HC2.out.keeps h2 hnG
  have hv := hc3.cell
  have HCAS := Lib.hid (at_.u64_cas C 1 v to w3 hv.1 hv.2)
  have HC3 := Lib.hid hc3
  clear h1 h2 hv hc3
  go_wp2_with fail
  refine HCAS.out.mono ?_
  rintro e w4 ⟨rfl, rfl⟩
  go_wp2
  try rw [Exit.noGoto_ret]
  go_ret2
  have k2 := (HK.out (fun _ => False)).size
  have k4 := H4.out.size
  have kC : Keeps (· = C) w3 (w3.setCell ⟨C, 1, none⟩ (.int .u64 (to : Int))) := (Keeps.refl (· = C) w3).setCell (p := ⟨C, 1, none⟩) (.inl rfl) _
  have g3 := gate_twice H3.out (by omega) (by omega)
  refine ⟨rfl, HC3.out.set to HTO.out, gate_step g3 kC (fun b hb e => ?_), ?_⟩
  · subst e
    rcases hb with q | q
    · exact hd q
    · omega
  · refine ⟨by have := kC.size; omega, fun b hb hs => ?_, H2.out.same.trans ((HK.out (fun _ => False)).same.trans (H4.out.same.trans kC.same))⟩
    rw [kC.block b (by omega) (fun e => hs (.inr e)), H4.out.block b (by omega) (fun z => by rcases z with z | z; exact hs (.inl z); omega), (HK.out (fun _ => False)).block b (by omega) (fun z => z), H2.out.block b hb (fun z => hs (.inl z))]
end Go.Proofs.Ytakpfkfhbeobeaa.ce
set_option linter.unusedVariables false
set_option linter.unusedSimpArgs false
namespace Go.Proofs.Ytakpfkfhbeobeaa.ce
open Go.RowKit Go.Proofs.Ytakpfkfhbeobeaa.oc Go.Proofs.Ytakpfkfhbeobeaa.mz
theorem Keeps.drewN {S : Nat → Prop} {a b : World} (h : Keeps S a b) (n : Nat) : Keeps S a (b.drewN n) := ⟨h.size, h.block, h.same.os, h.same.tape, h.same.output⟩
theorem wrap_add (v n : Nat) : IntKind.u64.wrap ((v : Int) + (n : Int)) = (((v + n) % W64 : Nat) : Int) := by
  rw [W64_eq, wrap_u64]; omega
theorem wrap_sub (v n : Nat) (hn : n < 18446744073709551616) : IntKind.u64.wrap ((v : Int) - (n : Int)) = (((v + (W64 - n)) % W64 : Nat) : Int) := by
  rw [W64_eq, wrap_u64]; omega
set_option maxRecDepth 100000 in
set_option maxHeartbeats 1000000 in
theorem up_yes (v n most p q : Nat) (w : World) (hv : v < 18446744073709551616) (hn : n < 18446744073709551616) (hm : most < 18446744073709551616) (hp : w.cell? ⟨p, 0, none⟩ = some (.int .u64 (n : Nat))) (hq : w.cell? ⟨q, 0, none⟩ = some (.int .u64 (most : Nat))) (h1 : n ≤ most) (h2 : v ≤ most - n) :
    Calls Try.prog 47 #[.int .u64 v, .pointer (some ⟨p, 0, none⟩), .pointer (some ⟨q, 0, none⟩)] w fun e w' => e = .returned (.tuple #[.int .u64 ((v + n) % W64 : Nat), .bool true]) ∧ ∀ S, Keeps S w w' := by
  go_enter Try.func47, Try.ntmps47
  have g1 : (n : Int) ≤ (most : Int) := by omega
  have gd : decide ((n : Int) ≤ (most : Int)) = true := decide_eq_true g1
  have g2 : (v : Int) ≤ (most : Int) - (n : Int) := by omega
  have g3 : IntKind.u64.wrap ((most : Int) - (n : Int)) = (most : Int) - (n : Int) := by rw [wrap_sub most n hn]; rw [W64_eq]; omega
  have gs := wrap_add v n
  go_wp2
  go_quiet (fail)
  go_wp2
  try rw [Exit.noGoto_ret]
  go_ret2
  refine ⟨?_, fun S => ?_⟩
  · simp [wrap_add, g3, g2]
  · repeat (first | (with_reducible exact Keeps.refl _ _) | (with_reducible refine Keeps.drewN ?_ _) | (with_reducible refine Keeps.drew ?_))
set_option maxRecDepth 100000 in
set_option maxHeartbeats 1000000 in
theorem up_no1 (v n most p q : Nat) (w : World) (hv : v < 18446744073709551616) (hn : n < 18446744073709551616) (hm : most < 18446744073709551616) (hp : w.cell? ⟨p, 0, none⟩ = some (.int .u64 (n : Nat))) (hq : w.cell? ⟨q, 0, none⟩ = some (.int .u64 (most : Nat))) (h1 : ¬ n ≤ most) :
    Calls Try.prog 47 #[.int .u64 v, .pointer (some ⟨p, 0, none⟩), .pointer (some ⟨q, 0, none⟩)] w fun e w' => e = .returned (.tuple #[.int .u64 ((v + n) % W64 : Nat), .bool false]) ∧ ∀ S, Keeps S w w' := by
  go_enter Try.func47, Try.ntmps47
  have g1 : ¬ (n : Int) ≤ (most : Int) := by omega
  have gd : decide ((n : Int) ≤ (most : Int)) = false := decide_eq_false g1
  go_wp2
  go_quiet (fail)
  go_wp2
  try rw [Exit.noGoto_ret]
  go_ret2
  refine ⟨?_, fun S => ?_⟩
  · simp [wrap_add]
  · repeat (first | (with_reducible exact Keeps.refl _ _) | (with_reducible refine Keeps.drewN ?_ _) | (with_reducible refine Keeps.drew ?_))
set_option maxRecDepth 100000 in
set_option maxHeartbeats 1000000 in
theorem up_no2 (v n most p q : Nat) (w : World) (hv : v < 18446744073709551616) (hn : n < 18446744073709551616) (hm : most < 18446744073709551616) (hp : w.cell? ⟨p, 0, none⟩ = some (.int .u64 (n : Nat))) (hq : w.cell? ⟨q, 0, none⟩ = some (.int .u64 (most : Nat))) (h1 : n ≤ most) (h2 : ¬ v ≤ most - n) :
    Calls Try.prog 47 #[.int .u64 v, .pointer (some ⟨p, 0, none⟩), .pointer (some ⟨q, 0, none⟩)] w fun e w' => e = .returned (.tuple #[.int .u64 ((v + n) % W64 : Nat), .bool false]) ∧ ∀ S, Keeps S w w' := by
  go_enter Try.func47, Try.ntmps47
  have g1 : (n : Int) ≤ (most : Int) := by omega
  have gd : decide ((n : Int) ≤ (most : Int)) = true := decide_eq_true g1
  have g2 : ¬ (v : Int) ≤ (most : Int) - (n : Int) := by omega
  have g3 : IntKind.u64.wrap ((most : Int) - (n : Int)) = (most : Int) - (n : Int) := by rw [wrap_sub most n hn]; rw [W64_eq]; omega
  go_wp2
  go_quiet (fail)
  go_wp2
  try rw [Exit.noGoto_ret]
  go_ret2
  refine ⟨?_, fun S => ?_⟩
  · simp [wrap_add, g3, g2]; try omega
  · repeat (first | (with_reducible exact Keeps.refl _ _) | (with_reducible refine Keeps.drewN ?_ _) | (with_reducible refine Keeps.drew ?_))
set_option maxRecDepth 100000 in
set_option maxHeartbeats 1000000 in
theorem down_yes (v n p : Nat) (w : World) (hv : v < 18446744073709551616) (hn : n < 18446744073709551616) (hp : w.cell? ⟨p, 0, none⟩ = some (.int .u64 (n : Nat))) (h1 : n ≤ v) :
    Calls Try.prog 48 #[.int .u64 v, .pointer (some ⟨p, 0, none⟩)] w fun e w' => e = .returned (.tuple #[.int .u64 ((v + (W64 - n)) % W64 : Nat), .bool true]) ∧ ∀ S, Keeps S w w' := by
  go_enter Try.func48, Try.ntmps48
  have g1 : (n : Int) ≤ (v : Int) := by omega
  go_wp2
  go_quiet (fail)
  go_wp2
  try rw [Exit.noGoto_ret]
  go_ret2
  refine ⟨?_, fun S => ?_⟩
  · simp [wrap_sub v n hn, g1] <;> (simp only [W64_eq]; omega)
  · repeat (first | (with_reducible exact Keeps.refl _ _) | (with_reducible refine Keeps.drewN ?_ _) | (with_reducible refine Keeps.drew ?_))
set_option maxRecDepth 100000 in
set_option maxHeartbeats 1000000 in
theorem down_no (v n p : Nat) (w : World) (hv : v < 18446744073709551616) (hn : n < 18446744073709551616) (hp : w.cell? ⟨p, 0, none⟩ = some (.int .u64 (n : Nat))) (h1 : ¬ n ≤ v) :
    Calls Try.prog 48 #[.int .u64 v, .pointer (some ⟨p, 0, none⟩)] w fun e w' => e = .returned (.tuple #[.int .u64 ((v + (W64 - n)) % W64 : Nat), .bool false]) ∧ ∀ S, Keeps S w w' := by
  go_enter Try.func48, Try.ntmps48
  have g1 : ¬ (n : Int) ≤ (v : Int) := by omega
  go_wp2
  go_quiet (fail)
  go_wp2
  try rw [Exit.noGoto_ret]
  go_ret2
  refine ⟨?_, fun S => ?_⟩
  · simp [wrap_sub v n hn, g1] <;> (simp only [W64_eq]; omega)
  · repeat (first | (with_reducible exact Keeps.refl _ _) | (with_reducible refine Keeps.drewN ?_ _) | (with_reducible refine Keeps.drew ?_))
set_option maxRecDepth 100000 in
set_option maxHeartbeats 1000000 in
theorem max_yes (v n p : Nat) (w : World) (hv : v < 18446744073709551616) (hn : n < 18446744073709551616) (hp : w.cell? ⟨p, 0, none⟩ = some (.int .u64 (n : Nat))) (h1 : v < n) :
    Calls Try.prog 49 #[.int .u64 v, .pointer (some ⟨p, 0, none⟩)] w fun e w' => e = .returned (.tuple #[.int .u64 (n : Nat), .bool true]) ∧ ∀ S, Keeps S w w' := by
  go_enter Try.func49, Try.ntmps49
  have g1 : (v : Int) < (n : Int) := by omega
  go_wp2
  go_quiet (fail)
  go_wp2
  try rw [Exit.noGoto_ret]
  go_ret2
  refine ⟨?_, fun S => ?_⟩
  · simp [g1]; try omega
  · repeat (first | (with_reducible exact Keeps.refl _ _) | (with_reducible refine Keeps.drewN ?_ _) | (with_reducible refine Keeps.drew ?_))
set_option maxRecDepth 100000 in
set_option maxHeartbeats 1000000 in
theorem max_no (v n p : Nat) (w : World) (hv : v < 18446744073709551616) (hn : n < 18446744073709551616) (hp : w.cell? ⟨p, 0, none⟩ = some (.int .u64 (n : Nat))) (h1 : ¬ v < n) :
    Calls Try.prog 49 #[.int .u64 v, .pointer (some ⟨p, 0, none⟩)] w fun e w' => e = .returned (.tuple #[.int .u64 (n : Nat), .bool false]) ∧ ∀ S, Keeps S w w' := by
  go_enter Try.func49, Try.ntmps49
  have g1 : ¬ (v : Int) < (n : Int) := by omega
  go_wp2
  go_quiet (fail)
  go_wp2
  try rw [Exit.noGoto_ret]
  go_ret2
  refine ⟨?_, fun S => ?_⟩
  · simp [g1]; try omega
  · repeat (first | (with_reducible exact Keeps.refl _ _) | (with_reducible refine Keeps.drewN ?_ _) | (with_reducible refine Keeps.drew ?_))
end Go.Proofs.Ytakpfkfhbeobeaa.ce
set_option linter.unusedVariables false
namespace Go.Proofs.Ytakpfkfhbeobeaa.ce
open Go.RowKit Go.Proofs.Ytakpfkfhbeobeaa.oc Go.Proofs.Ytakpfkfhbeobeaa.mz
theorem cpost_from {w w1 w' : World} {C v : Nat} {gv : Value} {ms ms0 : List (Nat × Nat)} {F : Nat → Prop} (hg : Gate w gv ms0 F) (k : Keeps (fun _ => False) w w1) (h : CPost C v gv ms F w1 w') : CPost C v gv ms F w w' := by
  obtain ⟨h1, h2, h3⟩ := h
  refine ⟨h1, ?_, (k.mono fun _ _ z => z.elim).trans h3⟩
  rcases h2 with q | ⟨N, e, q⟩
  · exact .inl q
  · rcases hg with z | ⟨N0, e0, z⟩
    · rw [z] at e; cases e
    · have up : ∀ b, Grown w1 w' F b → Grown w w' F b := fun b hb => by
        rcases hb with y | y
        · exact .inl y
        · exact .inr ⟨by have := k.size; omega, y.2⟩
      obtain ⟨mA, mc, a1, a2, a3, a4⟩ := q.at_
      refine .inr ⟨N, e, ⟨mA, mc, a1, a2, fun b hb => up b (a3 b hb), a4⟩, up N q.me, fun b hb => ?_⟩
      have n1 := (q.above N0 (.inl z.me)).1
      have n2 := (z.above N0 z.me).2
      rcases hb with y | y
      · exact q.above b (.inl y)
      · exact ⟨by omega, y.2⟩
theorem box_two (w : World) (x y : Value) (t u : TypeId) : Keeps (fun _ => False) w ((w.alloc (.cells #[x] t)).alloc (.cells #[y] u)) ∧ Blk ((w.alloc (.cells #[x] t)).alloc (.cells #[y] u)) w.heap.size t [x] ∧ Blk ((w.alloc (.cells #[x] t)).alloc (.cells #[y] u)) (w.heap.size + 1) u [y] := by
  refine ⟨((Keeps.refl _ w).alloc _).alloc _, (Blk.new w t #[x]).alloc _, ?_⟩
  have h := Blk.new (w.alloc (.cells #[x] t)) u #[y]
  rwa [show (w.alloc (.cells #[x] t)).heap.size = w.heap.size + 1 from by show (w.heap.push _).size = _; simp] at h
theorem box_one (w : World) (x : Value) (t : TypeId) : Keeps (fun _ => False) w (w.alloc (.cells #[x] t)) ∧ Blk (w.alloc (.cells #[x] t)) w.heap.size t [x] := ⟨(Keeps.refl _ w).alloc _, Blk.new w t #[x]⟩
set_option maxRecDepth 100000 in
set_option maxHeartbeats 1000000 in
theorem cnt_up_yes (C v n most : Nat) (gv : Value) (w : World) (ms : List (Nat × Nat)) (F : Nat → Prop) (h : Cnt w C v) (hg : Gate w gv ms F) (hl : ms.length < 999999) (hd : ¬ F C) (hF : ∀ b, F b → b < w.heap.size)
    (hn : n < 18446744073709551616) (hm : most < 18446744073709551616) (h1 : n ≤ most) (h2 : v ≤ most - n) :
    Calls Try.prog 21 #[.pointer (some ⟨C, 0, none⟩), gv, .int .u64 n, .int .u64 most] w fun e w' => e = .returned (.tuple #[.int .u64 ((v + n) % W64 : Nat), .bool true, .int .i64 0]) ∧ CPost C ((v + n) % W64) gv (ms ++ [(1, 0)] ++ [(5, 0)]) F w w' := by
  have HV := Lib.hid h
  have HG := Lib.hid hg
  obtain ⟨ha, b1, b2⟩ := box_two w (.int .u64 (n : Int)) (.int .u64 (most : Int)) 22 22
  have nF1 : ¬ F w.heap.size := fun z => by have := hF _ z; omega
  have nF2 : ¬ F (w.heap.size + 1) := fun z => by have := hF _ z; omega
  have HA := Lib.hid ha
  have B1 := Lib.hid b1
  have B2 := Lib.hid b2
  have HC1 := Lib.hid (HV.out.keeps ha id)
  have HG1 := Lib.hid (hg.keeps ha (fun _ _ => id))
  clear h hg ha b1 b2
  go_enter Try.func21, Try.ntmps21
  go_wp2_with fail
  generalize hw1 : (w.alloc (Obj.cells #[Value.int IntKind.u64 (n : Int)] 22)).alloc (Obj.cells #[Value.int IntKind.u64 (most : Int)] 22) = w1 at *
  refine (cnt_none C v w1 HC1.out).mono ?_
  rintro e w2 ⟨rfl, rfl⟩
  go_wp2_with fail
  refine (changeUp_yes C v ((v + n) % W64 : Nat) (.pointer (some ⟨w.heap.size, 0, none⟩)) (.pointer (some ⟨w.heap.size + 1, 0, none⟩)) gv w1 ms F HC1.out HG1.out hl hd (by have := mod_lt64 (v + n); have := mod_lt64 (v + (W64 - n)); omega) (fun w3 k3 => by have c1 : w3.cell? ⟨w.heap.size, 0, none⟩ = some (.int .u64 (n : Int)) := by { have q := (Blk.keeps B1.out k3 nF1).cell 0; rw [q]; rfl }; have c2 : w3.cell? ⟨w.heap.size + 1, 0, none⟩ = some (.int .u64 (most : Int)) := by { have q := (Blk.keeps B2.out k3 nF2).cell 0; rw [q]; rfl }; exact up_yes v n most w.heap.size (w.heap.size + 1) w3 HV.out.2 hn hm c1 c2 h1 h2)).mono ?_
  rintro e w4 ⟨rfl, h4⟩
  have H4 := Lib.hid h4
  clear h4
  go_wp2
  go_ret3
  exact ⟨rfl, cpost_from HG.out HA.out H4.out⟩
set_option maxRecDepth 100000 in
set_option maxHeartbeats 1000000 in
theorem cnt_up_no1 (C v n most : Nat) (gv : Value) (w : World) (ms : List (Nat × Nat)) (F : Nat → Prop) (h : Cnt w C v) (hg : Gate w gv ms F) (hl : ms.length < 999999) (hd : ¬ F C) (hF : ∀ b, F b → b < w.heap.size)
    (hn : n < 18446744073709551616) (hm : most < 18446744073709551616) (h1 : ¬ n ≤ most) :
    Calls Try.prog 21 #[.pointer (some ⟨C, 0, none⟩), gv, .int .u64 n, .int .u64 most] w fun e w' => e = .returned (.tuple #[.int .u64 (v : Nat), .bool false, .int .i64 0]) ∧ CPost C (v) gv (ms ++ [(1, 0)]) F w w' := by
  have HV := Lib.hid h
  have HG := Lib.hid hg
  obtain ⟨ha, b1, b2⟩ := box_two w (.int .u64 (n : Int)) (.int .u64 (most : Int)) 22 22
  have nF1 : ¬ F w.heap.size := fun z => by have := hF _ z; omega
  have nF2 : ¬ F (w.heap.size + 1) := fun z => by have := hF _ z; omega
  have HA := Lib.hid ha
  have B1 := Lib.hid b1
  have B2 := Lib.hid b2
  have HC1 := Lib.hid (HV.out.keeps ha id)
  have HG1 := Lib.hid (hg.keeps ha (fun _ _ => id))
  clear h hg ha b1 b2
  go_enter Try.func21, Try.ntmps21
  go_wp2_with fail
  generalize hw1 : (w.alloc (Obj.cells #[Value.int IntKind.u64 (n : Int)] 22)).alloc (Obj.cells #[Value.int IntKind.u64 (most : Int)] 22) = w1 at *
  refine (cnt_none C v w1 HC1.out).mono ?_
  rintro e w2 ⟨rfl, rfl⟩
  go_wp2_with fail
  refine (changeUp_no C v ((v + n) % W64 : Nat) (.pointer (some ⟨w.heap.size, 0, none⟩)) (.pointer (some ⟨w.heap.size + 1, 0, none⟩)) gv w1 ms F HC1.out HG1.out hl hd (fun w3 k3 => by have c1 : w3.cell? ⟨w.heap.size, 0, none⟩ = some (.int .u64 (n : Int)) := by { have q := (Blk.keeps B1.out k3 nF1).cell 0; rw [q]; rfl }; have c2 : w3.cell? ⟨w.heap.size + 1, 0, none⟩ = some (.int .u64 (most : Int)) := by { have q := (Blk.keeps B2.out k3 nF2).cell 0; rw [q]; rfl }; exact up_no1 v n most w.heap.size (w.heap.size + 1) w3 HV.out.2 hn hm c1 c2 h1)).mono ?_
  rintro e w4 ⟨rfl, h4⟩
  have H4 := Lib.hid h4
  clear h4
  go_wp2
  go_ret3
  exact ⟨rfl, cpost_from HG.out HA.out H4.out⟩
set_option maxRecDepth 100000 in
set_option maxHeartbeats 1000000 in
theorem cnt_up_no2 (C v n most : Nat) (gv : Value) (w : World) (ms : List (Nat × Nat)) (F : Nat → Prop) (h : Cnt w C v) (hg : Gate w gv ms F) (hl : ms.length < 999999) (hd : ¬ F C) (hF : ∀ b, F b → b < w.heap.size)
    (hn : n < 18446744073709551616) (hm : most < 18446744073709551616) (h1 : n ≤ most) (h2 : ¬ v ≤ most - n) :
    Calls Try.prog 21 #[.pointer (some ⟨C, 0, none⟩), gv, .int .u64 n, .int .u64 most] w fun e w' => e = .returned (.tuple #[.int .u64 (v : Nat), .bool false, .int .i64 0]) ∧ CPost C (v) gv (ms ++ [(1, 0)]) F w w' := by
  have HV := Lib.hid h
  have HG := Lib.hid hg
  obtain ⟨ha, b1, b2⟩ := box_two w (.int .u64 (n : Int)) (.int .u64 (most : Int)) 22 22
  have nF1 : ¬ F w.heap.size := fun z => by have := hF _ z; omega
  have nF2 : ¬ F (w.heap.size + 1) := fun z => by have := hF _ z; omega
  have HA := Lib.hid ha
  have B1 := Lib.hid b1
  have B2 := Lib.hid b2
  have HC1 := Lib.hid (HV.out.keeps ha id)
  have HG1 := Lib.hid (hg.keeps ha (fun _ _ => id))
  clear h hg ha b1 b2
  go_enter Try.func21, Try.ntmps21
  go_wp2_with fail
  generalize hw1 : (w.alloc (Obj.cells #[Value.int IntKind.u64 (n : Int)] 22)).alloc (Obj.cells #[Value.int IntKind.u64 (most : Int)] 22) = w1 at *
  refine (cnt_none C v w1 HC1.out).mono ?_
  rintro e w2 ⟨rfl, rfl⟩
  go_wp2_with fail
  refine (changeUp_no C v ((v + n) % W64 : Nat) (.pointer (some ⟨w.heap.size, 0, none⟩)) (.pointer (some ⟨w.heap.size + 1, 0, none⟩)) gv w1 ms F HC1.out HG1.out hl hd (fun w3 k3 => by have c1 : w3.cell? ⟨w.heap.size, 0, none⟩ = some (.int .u64 (n : Int)) := by { have q := (Blk.keeps B1.out k3 nF1).cell 0; rw [q]; rfl }; have c2 : w3.cell? ⟨w.heap.size + 1, 0, none⟩ = some (.int .u64 (most : Int)) := by { have q := (Blk.keeps B2.out k3 nF2).cell 0; rw [q]; rfl }; exact up_no2 v n most w.heap.size (w.heap.size + 1) w3 HV.out.2 hn hm c1 c2 h1 h2)).mono ?_
  rintro e w4 ⟨rfl, h4⟩
  have H4 := Lib.hid h4
  clear h4
  go_wp2
  go_ret3
  exact ⟨rfl, cpost_from HG.out HA.out H4.out⟩
set_option maxRecDepth 100000 in
set_option maxHeartbeats 1000000 in
theorem cnt_down_yes (C v n : Nat) (gv : Value) (w : World) (ms : List (Nat × Nat)) (F : Nat → Prop) (h : Cnt w C v) (hg : Gate w gv ms F) (hl : ms.length < 999999) (hd : ¬ F C) (hF : ∀ b, F b → b < w.heap.size)
    (hn : n < 18446744073709551616) (h1 : n ≤ v) :
    Calls Try.prog 23 #[.pointer (some ⟨C, 0, none⟩), gv, .int .u64 n] w fun e w' => e = .returned (.tuple #[.int .u64 ((v + (W64 - n)) % W64 : Nat), .bool true, .int .i64 0]) ∧ CPost C ((v + (W64 - n)) % W64) gv (ms ++ [(1, 0)] ++ [(5, 0)]) F w w' := by
  have HV := Lib.hid h
  have HG := Lib.hid hg
  obtain ⟨ha, b1⟩ := box_one w (.int .u64 (n : Int)) 22
  have nF1 : ¬ F w.heap.size := fun z => by have := hF _ z; omega
  skip
  have HA := Lib.hid ha
  have B1 := Lib.hid b1
  skip
  have HC1 := Lib.hid (HV.out.keeps ha id)
  have HG1 := Lib.hid (hg.keeps ha (fun _ _ => id))
  clear h hg ha b1 
  go_enter Try.func23, Try.ntmps23
  go_wp2_with fail
  generalize hw1 : w.alloc (Obj.cells #[Value.int IntKind.u64 (n : Int)] 22) = w1 at *
  refine (cnt_none C v w1 HC1.out).mono ?_
  rintro e w2 ⟨rfl, rfl⟩
  go_wp2_with fail
  refine (changeDown_yes C v ((v + (W64 - n)) % W64 : Nat) (.pointer (some ⟨w.heap.size, 0, none⟩)) gv w1 ms F HC1.out HG1.out hl hd (by have := mod_lt64 (v + n); have := mod_lt64 (v + (W64 - n)); omega) (fun w3 k3 => by have c1 : w3.cell? ⟨w.heap.size, 0, none⟩ = some (.int .u64 (n : Int)) := by { have q := (Blk.keeps B1.out k3 nF1).cell 0; rw [q]; rfl }; exact down_yes v n w.heap.size w3 HV.out.2 hn c1 h1)).mono ?_
  rintro e w4 ⟨rfl, h4⟩
  have H4 := Lib.hid h4
  clear h4
  go_wp2
  go_ret3
  exact ⟨rfl, cpost_from HG.out HA.out H4.out⟩
set_option maxRecDepth 100000 in
set_option maxHeartbeats 1000000 in
theorem cnt_down_no (C v n : Nat) (gv : Value) (w : World) (ms : List (Nat × Nat)) (F : Nat → Prop) (h : Cnt w C v) (hg : Gate w gv ms F) (hl : ms.length < 999999) (hd : ¬ F C) (hF : ∀ b, F b → b < w.heap.size)
    (hn : n < 18446744073709551616) (h1 : ¬ n ≤ v) :
    Calls Try.prog 23 #[.pointer (some ⟨C, 0, none⟩), gv, .int .u64 n] w fun e w' => e = .returned (.tuple #[.int .u64 (v : Nat), .bool false, .int .i64 0]) ∧ CPost C (v) gv (ms ++ [(1, 0)]) F w w' := by
  have HV := Lib.hid h
  have HG := Lib.hid hg
  obtain ⟨ha, b1⟩ := box_one w (.int .u64 (n : Int)) 22
  have nF1 : ¬ F w.heap.size := fun z => by have := hF _ z; omega
  skip
  have HA := Lib.hid ha
  have B1 := Lib.hid b1
  skip
  have HC1 := Lib.hid (HV.out.keeps ha id)
  have HG1 := Lib.hid (hg.keeps ha (fun _ _ => id))
  clear h hg ha b1 
  go_enter Try.func23, Try.ntmps23
  go_wp2_with fail
  generalize hw1 : w.alloc (Obj.cells #[Value.int IntKind.u64 (n : Int)] 22) = w1 at *
  refine (cnt_none C v w1 HC1.out).mono ?_
  rintro e w2 ⟨rfl, rfl⟩
  go_wp2_with fail
  refine (changeDown_no C v ((v + (W64 - n)) % W64 : Nat) (.pointer (some ⟨w.heap.size, 0, none⟩)) gv w1 ms F HC1.out HG1.out hl hd (fun w3 k3 => by have c1 : w3.cell? ⟨w.heap.size, 0, none⟩ = some (.int .u64 (n : Int)) := by { have q := (Blk.keeps B1.out k3 nF1).cell 0; rw [q]; rfl }; exact down_no v n w.heap.size w3 HV.out.2 hn c1 h1)).mono ?_
  rintro e w4 ⟨rfl, h4⟩
  have H4 := Lib.hid h4
  clear h4
  go_wp2
  go_ret3
  exact ⟨rfl, cpost_from HG.out HA.out H4.out⟩
set_option maxRecDepth 100000 in
set_option maxHeartbeats 1000000 in
theorem cnt_max_yes (C v n : Nat) (gv : Value) (w : World) (ms : List (Nat × Nat)) (F : Nat → Prop) (h : Cnt w C v) (hg : Gate w gv ms F) (hl : ms.length < 999999) (hd : ¬ F C) (hF : ∀ b, F b → b < w.heap.size)
    (hn : n < 18446744073709551616) (h1 : v < n) :
    Calls Try.prog 24 #[.pointer (some ⟨C, 0, none⟩), gv, .int .u64 n] w fun e w' => e = .returned (.tuple #[.bool true, .int .i64 0]) ∧ CPost C (n) gv (ms ++ [(1, 0)] ++ [(5, 0)]) F w w' := by
  have HV := Lib.hid h
  have HG := Lib.hid hg
  obtain ⟨ha, b1⟩ := box_one w (.int .u64 (n : Int)) 22
  have nF1 : ¬ F w.heap.size := fun z => by have := hF _ z; omega
  skip
  have HA := Lib.hid ha
  have B1 := Lib.hid b1
  skip
  have HC1 := Lib.hid (HV.out.keeps ha id)
  have HG1 := Lib.hid (hg.keeps ha (fun _ _ => id))
  clear h hg ha b1 
  go_enter Try.func24, Try.ntmps24
  go_wp2_with fail
  generalize hw1 : w.alloc (Obj.cells #[Value.int IntKind.u64 (n : Int)] 22) = w1 at *
  refine (cnt_none C v w1 HC1.out).mono ?_
  rintro e w2 ⟨rfl, rfl⟩
  go_wp2_with fail
  refine (changeMax_yes C v (n : Nat) (.pointer (some ⟨w.heap.size, 0, none⟩)) gv w1 ms F HC1.out HG1.out hl hd (by have := mod_lt64 (v + n); have := mod_lt64 (v + (W64 - n)); omega) (fun w3 k3 => by have c1 : w3.cell? ⟨w.heap.size, 0, none⟩ = some (.int .u64 (n : Int)) := by { have q := (Blk.keeps B1.out k3 nF1).cell 0; rw [q]; rfl }; exact max_yes v n w.heap.size w3 HV.out.2 hn c1 h1)).mono ?_
  rintro e w4 ⟨rfl, h4⟩
  have H4 := Lib.hid h4
  clear h4
  go_wp2
  go_ret2
  exact ⟨rfl, cpost_from HG.out HA.out H4.out⟩
set_option maxRecDepth 100000 in
set_option maxHeartbeats 1000000 in
theorem cnt_max_no (C v n : Nat) (gv : Value) (w : World) (ms : List (Nat × Nat)) (F : Nat → Prop) (h : Cnt w C v) (hg : Gate w gv ms F) (hl : ms.length < 999999) (hd : ¬ F C) (hF : ∀ b, F b → b < w.heap.size)
    (hn : n < 18446744073709551616) (h1 : ¬ v < n) :
    Calls Try.prog 24 #[.pointer (some ⟨C, 0, none⟩), gv, .int .u64 n] w fun e w' => e = .returned (.tuple #[.bool false, .int .i64 0]) ∧ CPost C (v) gv (ms ++ [(1, 0)]) F w w' := by
  have HV := Lib.hid h
  have HG := Lib.hid hg
  obtain ⟨ha, b1⟩ := box_one w (.int .u64 (n : Int)) 22
  have nF1 : ¬ F w.heap.size := fun z => by have := hF _ z; omega
  skip
  have HA := Lib.hid ha
  have B1 := Lib.hid b1
  skip
  have HC1 := Lib.hid (HV.out.keeps ha id)
  have HG1 := Lib.hid (hg.keeps ha (fun _ _ => id))
  clear h hg ha b1 
  go_enter Try.func24, Try.ntmps24
  go_wp2_with fail
  generalize hw1 : w.alloc (Obj.cells #[Value.int IntKind.u64 (n : Int)] 22) = w1 at *
  refine (cnt_none C v w1 HC1.out).mono ?_
  rintro e w2 ⟨rfl, rfl⟩
  go_wp2_with fail
  refine (changeMax_no C v (n : Nat) (.pointer (some ⟨w.heap.size, 0, none⟩)) gv w1 ms F HC1.out HG1.out hl hd (fun w3 k3 => by have c1 : w3.cell? ⟨w.heap.size, 0, none⟩ = some (.int .u64 (n : Int)) := by { have q := (Blk.keeps B1.out k3 nF1).cell 0; rw [q]; rfl }; exact max_no v n w.heap.size w3 HV.out.2 hn c1 h1)).mono ?_
  rintro e w4 ⟨rfl, h4⟩
  have H4 := Lib.hid h4
  clear h4
  go_wp2
  go_ret2
  exact ⟨rfl, cpost_from HG.out HA.out H4.out⟩
end Go.Proofs.Ytakpfkfhbeobeaa.ce
