/-
  queue: Put, Take under a gate.
-/
import Derived.Test.YtlpgdpdjaoppbaaQuRow
set_option linter.unusedVariables false
namespace Go.Proofs.Ytlpgdpdjaoppbaa.qu
open Go.RowKit Go.Proofs.Ytlpgdpdjaoppbaa.oc Go.Proofs.Ytlpgdpdjaoppbaa.mz Go.Proofs.Ytlpgdpdjaoppbaa.at_ Go.Proofs.Ytlpgdpdjaoppbaa.gt Go.Proofs.Ytlpgdpdjaoppbaa.gw
/-- what a call finds -/
structure St (w : World) (Q W n N : Nat) (ws : List Nat) (gv : Value) (ms : List (Nat × Nat)) (F : Nat → Prop) : Prop where
  qu : Qu w Q W n ws
  gf : GF w gv N ms F
  fq : ¬ F Q
  fw : ¬ F W
section
variable {Q W n N : Nat} {ws ws' : List Nat} {gv : Value} {ms ms' : List (Nat × Nat)} {F : Nat → Prop} {w w' : World}
theorem Left.st (s : St w Q W n N ws gv ms F) (l : Left Q W n N ws' gv ms' F w w') : St w' Q W n N ws' gv ms' (Grown w w' F) :=
  ⟨l.qu, l.gate, grown_not s.qu.ltQ s.fq, grown_not s.qu.ltW s.fw⟩
theorem St.keeps {S : Nat → Prop} (s : St w Q W n N ws gv ms F) (k : Keeps S w w') (hQ : ¬ S Q) (hW : ¬ S W) (hF : ∀ b, F b → ¬ S b) : St w' Q W n N ws gv ms F :=
  ⟨s.qu.keeps k hQ hW, s.gf.keeps k hF, s.fq, s.fw⟩
theorem St.drew (s : St w Q W n N ws gv ms F) : St w.drew Q W n N ws gv ms F := s.keeps (S := fun _ => False) (Keeps.refl _ w).drew (fun z => z) (fun z => z) (fun _ _ z => z)
theorem Left.of_drew (l : Left Q W n N ws' gv ms' F w.drew w') : Left Q W n N ws' gv ms' F w w' := ⟨l.qu, l.gate, Keeps.trans (Keeps.refl _ w).drew l.keep⟩
/-- a store on a queue's words -/
theorem qstore {k v : Nat} (s : St w Q W n N ws gv ms F) (hl : ms.length < 1000000) (hk : k < 2 * n + 2) (hv : v < 18446744073709551616) :
    Calls Try.prog 22 #[.slice (some ⟨W, 0, none⟩) (2 * n + 2) (2 * n + 2), gv, .int .i64 (k : Int), .int .u64 (v : Int)] w fun e w' => e = .returned (.tuple #[]) ∧ Left Q W n N (ws.set k v) gv (ms ++ [(2, k)]) F w w' := by
  refine (store_ W (2 * n + 2) k N ws gv ms F w v s.qu.wd s.qu.len s.gf hl hk s.fw s.qu.ltW hv).mono ?_
  rintro e w' ⟨rfl, d, g, kk⟩
  exact ⟨rfl, s.qu.wrote kk (fun z => by rcases z with z | z; exact s.qu.ne z; exact s.fq z) d (by simpa using s.qu.len), g, kk⟩
theorem qload {k : Nat} (s : St w Q W n N ws gv ms F) (hl : ms.length < 1000000) (hk : k < 2 * n + 2) :
    Calls Try.prog 27 #[.slice (some ⟨W, 0, none⟩) (2 * n + 2) (2 * n + 2), gv, .int .i64 (k : Int)] w fun e w' => e = .returned (.int .u64 ((ws[k]?.getD 0 : Nat) : Int)) ∧ Left Q W n N ws gv (ms ++ [(1, k)]) F w w' := by
  refine (load_ W (2 * n + 2) k N ws gv ms F w s.qu.wd s.qu.len s.gf hl hk s.fw).mono ?_
  rintro e w' ⟨rfl, g, kk⟩
  exact ⟨rfl, s.qu.keeps kk s.fq s.fw, g, kk.mono (fun _ _ z => .inr z)⟩
end
section
variable (Q W n N : Nat) (ws row : List Nat) (c : Nat) (gv : Value) (ms : List (Nat × Nat)) (F : Nat → Prop) (w : World)
set_option maxRecDepth 100000 in
set_option maxHeartbeats 2000000 in
theorem put_no (v : Int) (s : St w Q W n N ws gv ms F) (hl : ms.length < 800000) (h : Lk n ws row c) (hc : c < 800000) (hr : ¬ row.length < n) :
    Calls Try.prog 9 #[.pointer (some ⟨Q, 0, none⟩), gv, .int .u64 v] w fun e w' => e = .returned (.tuple #[.bool false, .int .i64 0]) ∧ Left Q W n N ws gv (ms ++ [(1, 0)] ++ [(1, seqOf n (ws[0]?.getD 0))]) F w w' := by
  have HN := Lib.hid (none_ Q W n ws w s.qu)
  have hlow := h.low
  have HD := Lib.hid (draw_no Q W n N 0 0 (ws[0]?.getD 0) _ ws gv ms F w s.qu s.gf (by omega) s.fq s.fw (by omega) (by omega) rfl rfl (h.full hr) (by omega))
  clear s hl h hc hr hlow
  go_enter Try.func9, Try.ntmps9
  go_wp2_with fail
  refine HN.out.mono ?_
  rintro e w' ⟨rfl, rfl⟩
  go_wp2_with fail
  refine HD.out.mono ?_
  rintro e w1 ⟨rfl, l⟩
  have L := Lib.hid l
  clear l
  go_wp2
  try rw [Exit.noGoto_ret]
  go_ret2
  exact ⟨rfl, L.out⟩
set_option maxRecDepth 100000 in
set_option maxHeartbeats 2000000 in
theorem take_no (s : St w Q W n N ws gv ms F) (hl : ms.length < 800000) (h : Lk n ws [] c) (hc : c < 800000) :
    Calls Try.prog 10 #[.pointer (some ⟨Q, 0, none⟩), gv] w fun e w' => e = .returned (.tuple #[.int .u64 0, .bool false, .int .i64 0]) ∧ Left Q W n N ws gv (ms ++ [(1, 1)] ++ [(1, seqOf n (ws[1]?.getD 0))]) F w w' := by
  have HN := Lib.hid (none_ Q W n ws w s.qu)
  have hlow := h.low
  have he := h.end_
  have HD := Lib.hid (draw_no Q W n N 1 1 (ws[1]?.getD 0) _ ws gv ms F w s.qu s.gf (by omega) s.fq s.fw (by omega) (by omega) rfl h.bare (by omega) (by simp at he; omega))
  clear s hl h hc hlow he
  go_enter Try.func10, Try.ntmps10
  go_wp2_with fail
  refine HN.out.mono ?_
  rintro e w' ⟨rfl, rfl⟩
  go_wp2_with fail
  refine HD.out.mono ?_
  rintro e w1 ⟨rfl, l⟩
  have L := Lib.hid l
  clear l
  go_wp2
  try rw [Exit.noGoto_ret]
  go_ret3
  exact ⟨rfl, L.out⟩
set_option maxRecDepth 100000 in
set_option maxHeartbeats 2000000 in
theorem put_yes (v : Nat) (s : St w Q W n N ws gv ms F) (hl : ms.length < 800000) (h : Lk n ws row c) (hc : c < 800000) (hr : row.length < n) (hv : v < 18446744073709551616) :
    Calls Try.prog 9 #[.pointer (some ⟨Q, 0, none⟩), gv, .int .u64 (v : Int)] w fun e w' => e = .returned (.tuple #[.bool true, .int .i64 0]) ∧ Left Q W n N (putW n v ws) gv (ms ++ [(1, 0)] ++ [(1, seqOf n (ws[0]?.getD 0))] ++ [(5, 0)] ++ [(2, seqOf n (ws[0]?.getD 0) + 1)] ++ [(2, seqOf n (ws[0]?.getD 0))]) F w w' := by
  have HN := Lib.hid (none_ Q W n ws w s.qu)
  have hlow := h.low
  have hp := pows_le h.wid
  have hb := seqOf_lt hp.1 (ws[0]?.getD 0)
  have HD := Lib.hid (draw_yes Q W n N 0 0 (ws[0]?.getD 0) _ ws gv ms F w s.qu s.gf (by omega) s.fq s.fw (by omega) (by omega) rfl (h.room hr) (by omega) (by omega))
  have HQ : Hid (∀ w ws', Qu w Q W n ws' → Calls Try.prog 23 #[.pointer (some ⟨Q, 0, none⟩), .int .u64 ((ws[0]?.getD 0 : Nat) : Int)] w fun e w' => e = .returned (.int .i64 ((seqOf n (ws[0]?.getD 0) : Nat) : Int)) ∧ w = w') := Lib.hid (fun w ws' q => seq_ Q W n _ ws' w q (by omega))
  have HV : Hid (∀ w ws', Qu w Q W n ws' → Calls Try.prog 26 #[.pointer (some ⟨Q, 0, none⟩), .int .u64 ((ws[0]?.getD 0 : Nat) : Int)] w fun e w' => e = .returned (.int .i64 ((seqOf n (ws[0]?.getD 0) + 1 : Nat) : Int)) ∧ w = w') := Lib.hid (fun w ws' q => value_ Q W n _ ws' w q (by omega))
  have HE := Lib.hid (show IntKind.u64.wrap (((ws[0]?.getD 0 : Nat) : Int) + 1) = ((ws[0]?.getD 0 + 1 : Nat) : Int) by rw [wrap_u64]; omega)
  have HB : Hid (seqOf n (ws[0]?.getD 0) + 1 < 2 * n + 2 ∧ v < 18446744073709551616 ∧ ws[0]?.getD 0 < 800000 ∧ ms.length < 800000) := Lib.hid ⟨hb.1, hv, by omega, hl⟩
  have SS := Lib.hid s
  unfold putW
  clear s hl h hc hr hlow hp hb hv
  generalize seqOf n (ws[0]?.getD 0) = sq at *
  generalize ws[0]?.getD 0 = p at *
  go_enter Try.func9, Try.ntmps9
  go_wp2_with fail
  refine HN.out.mono ?_
  rintro e w' ⟨rfl, rfl⟩
  go_wp2_with fail
  refine HD.out.mono ?_
  rintro e w1 ⟨rfl, l1⟩
  have s1 := l1.st SS.out
  have c2 := s1.qu.cell2
  have L1 := Lib.hid l1
  have S1 := Lib.hid s1
  have HV1 := Lib.hid (HV.out w1.drew _ s1.drew.qu)
  have HST := Lib.hid (qstore (k := sq + 1) (v := v) s1.drew (by have := HB.out; simp; omega) HB.out.1 HB.out.2.1)
  clear l1 s1 HV
  go_wp2_with fail
  go_region_held3 (fun w' => w'.cell? ⟨Q, 2, none⟩ = some (.slice (some ⟨W, 0, none⟩) (2 * n + 2) (2 * n + 2))) (first | exact c2 | exact c2w)
    ((first
      | (go_at_call 26; refine HV1.out.mono ?_; rintro e w' ⟨rfl, rfl⟩)
      | (go_at_call 22; refine HST.out.mono ?_; rintro e w2 ⟨rfl, l2⟩; have c2w := l2.qu.cell2; have L2 := Lib.hid (L1.out.trans l2.of_drew); clear l2)))
  have s2 := L2.out.st SS.out
  have c2 := s2.qu.cell2
  have S2 := Lib.hid s2
  have HQ2 := Lib.hid (HQ.out w2.drew _ s2.drew.qu)
  have HST2 := Lib.hid (qstore (k := sq) (v := p + 1) s2.drew (by have := HB.out; simp; omega) (by have := HB.out; omega) (by have := HB.out; omega))
  clear s2 HQ
  go_wp2_with fail
  go_region_held3 (fun w' => w'.cell? ⟨Q, 2, none⟩ = some (.slice (some ⟨W, 0, none⟩) (2 * n + 2) (2 * n + 2))) (first | exact c2 | exact c2x)
    ((first
      | (go_at_call 23; refine HQ2.out.mono ?_; rintro e w' ⟨rfl, rfl⟩)
      | (go_at_call 22; rw [HE.out]; refine HST2.out.mono ?_; rintro e w3 ⟨rfl, l3⟩; have c2x := l3.qu.cell2; have L3 := Lib.hid (L2.out.trans l3.of_drew); clear l3)))
  go_wp2
  try rw [Exit.noGoto_ret]
  go_ret2
  exact ⟨rfl, L3.out⟩
set_option maxRecDepth 100000 in
set_option maxHeartbeats 2000000 in
theorem take_yes (x : Nat) (s : St w Q W n N ws gv ms F) (hl : ms.length < 800000) (h : Lk n ws (x :: row) c) (hc : c < 800000) :
    Calls Try.prog 10 #[.pointer (some ⟨Q, 0, none⟩), gv] w fun e w' => e = .returned (.tuple #[.int .u64 (x : Int), .bool true, .int .i64 0]) ∧ Left Q W n N (takeW n ws) gv (ms ++ [(1, 1)] ++ [(1, seqOf n (ws[1]?.getD 0))] ++ [(5, 1)] ++ [(1, seqOf n (ws[1]?.getD 0) + 1)] ++ [(2, seqOf n (ws[1]?.getD 0))]) F w w' := by
  have HN := Lib.hid (none_ Q W n ws w s.qu)
  have hlow := h.low
  have he := h.end_
  simp only [List.length_cons] at he
  have hp := pows_le h.wid
  have hb := seqOf_lt hp.1 (ws[1]?.getD 0)
  have HD := Lib.hid (draw_yes Q W n N 1 1 (ws[1]?.getD 0) _ ws gv ms F w s.qu s.gf (by omega) s.fq s.fw (by omega) (by omega) rfl h.first.1 (by omega) (by omega))
  have HQ : Hid (∀ w ws', Qu w Q W n ws' → Calls Try.prog 23 #[.pointer (some ⟨Q, 0, none⟩), .int .u64 ((ws[1]?.getD 0 : Nat) : Int)] w fun e w' => e = .returned (.int .i64 ((seqOf n (ws[1]?.getD 0) : Nat) : Int)) ∧ w = w') := Lib.hid (fun w ws' q => seq_ Q W n _ ws' w q (by omega))
  have HV : Hid (∀ w ws', Qu w Q W n ws' → Calls Try.prog 26 #[.pointer (some ⟨Q, 0, none⟩), .int .u64 ((ws[1]?.getD 0 : Nat) : Int)] w fun e w' => e = .returned (.int .i64 ((seqOf n (ws[1]?.getD 0) + 1 : Nat) : Int)) ∧ w = w') := Lib.hid (fun w ws' q => value_ Q W n _ ws' w q (by omega))
  have HE := Lib.hid (show IntKind.u64.wrap (((ws[1]?.getD 0 : Nat) : Int) + (n : Int)) = ((ws[1]?.getD 0 + n : Nat) : Int) by rw [wrap_u64]; omega)
  have HB : Hid (seqOf n (ws[1]?.getD 0) + 1 < 2 * n + 2 ∧ ws[1]?.getD 0 + n < 900000 ∧ ms.length < 800000) := Lib.hid ⟨hb.1, by omega, hl⟩
  have HX : Hid ((ws.set 1 (ws[1]?.getD 0 + 1))[seqOf n (ws[1]?.getD 0) + 1]?.getD 0 = x) := Lib.hid (by rw [List.getElem?_set_ne (by omega)]; exact h.first.2)
  have SS := Lib.hid s
  unfold takeW
  clear s hl h hc hlow hp hb he
  generalize seqOf n (ws[1]?.getD 0) = sq at *
  generalize ws[1]?.getD 0 = p at *
  go_enter Try.func10, Try.ntmps10
  go_wp2_with fail
  refine HN.out.mono ?_
  rintro e w' ⟨rfl, rfl⟩
  go_wp2_with fail
  refine HD.out.mono ?_
  rintro e w1 ⟨rfl, l1⟩
  have s1 := l1.st SS.out
  have c2 := s1.qu.cell2
  have L1 := Lib.hid l1
  have S1 := Lib.hid s1
  have HV1 := Lib.hid (HV.out w1.drew _ s1.drew.qu)
  have hst := qload (k := sq + 1) s1.drew (by have := HB.out; simp; omega) HB.out.1
  rw [HX.out] at hst
  have HST := Lib.hid hst
  clear l1 s1 HV hst
  go_wp2_with fail
  go_region_held3 (fun w' => w'.cell? ⟨Q, 2, none⟩ = some (.slice (some ⟨W, 0, none⟩) (2 * n + 2) (2 * n + 2))) (first | exact c2 | exact c2w)
    ((first
      | (go_at_call 26; refine HV1.out.mono ?_; rintro e w' ⟨rfl, rfl⟩)
      | (go_at_call 27; refine HST.out.mono ?_; rintro e w2 ⟨rfl, l2⟩; have c2w := l2.qu.cell2; have L2 := Lib.hid (L1.out.trans l2.of_drew); clear l2)))
  have s2 := L2.out.st SS.out
  have c2 := s2.qu.cell2
  have c1 := s2.qu.cell1
  have S2 := Lib.hid s2
  have HQ2 := Lib.hid (HQ.out w2.drew _ s2.drew.qu)
  have HST2 := Lib.hid (qstore (k := sq) (v := p + n) s2.drew (by have := HB.out; simp; omega) (by have := HB.out; omega) (by have := HB.out; omega))
  clear s2 HQ
  go_wp2_with fail
  go_region_held3 (fun w' => w'.cell? ⟨Q, 2, none⟩ = some (.slice (some ⟨W, 0, none⟩) (2 * n + 2) (2 * n + 2)) ∧ w'.cell? ⟨Q, 1, none⟩ = some (.int .u64 (n : Int))) (first | exact ⟨c2, c1⟩ | exact ⟨c2x, c1x⟩)
    ((first
      | (go_at_call 23; refine HQ2.out.mono ?_; rintro e w' ⟨rfl, rfl⟩)
      | (go_at_call 22; rw [HE.out]; refine HST2.out.mono ?_; rintro e w3 ⟨rfl, l3⟩; have c2x := l3.qu.cell2; have c1x := l3.qu.cell1; have L3 := Lib.hid (L2.out.trans l3.of_drew); clear l3)))
  go_wp2
  try rw [Exit.noGoto_ret]
  go_ret3
  exact ⟨rfl, L3.out⟩
end
end Go.Proofs.Ytlpgdpdjaoppbaa.qu
