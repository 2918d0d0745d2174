/-
  R.World, R.May; the machine alone at ring's calls.
-/
import Derived.Test.YtmkgjiejkfbdlaaRf6d
import Derived.Deep.OwnRows
set_option linter.unusedVariables false
namespace Go.Proofs.Ytmkgjiejkfbdlaa.rf6
open Go.RowKit Go.Proofs.Ytmkgjiejkfbdlaa.oc Go.Proofs.Ytmkgjiejkfbdlaa.mz Go.Proofs.Ytmkgjiejkfbdlaa.at_ Go.Proofs.Ytmkgjiejkfbdlaa.gt Go.Proofs.Ytmkgjiejkfbdlaa.rg
set_option maxRecDepth 100000 in
set_option maxHeartbeats 2000000 in
theorem world_ (n : Nat) (w : World) (hn : n ≤ 1024) : Calls Try.prog 14 #[.int .i64 (n : Int)] w fun e w' => ∃ wv lv, e = .returned (.agg #[wv, lv]) ∧ (∀ w'', Keeps (fun b => b < w.heap.size ∨ w'.heap.size ≤ b) w' w'' → IsWords w'' w''.heap.size wv [List.replicate (n + 2) 0] ∧ IsLists w'' w''.heap.size lv 1) ∧ (∀ S, Keeps S w w') := by
  have hmk := fun u : World => run_make_row' (P := Try.prog) 29 31 (.int .u64 0) 8 Try.underlying29 word_info rfl .i64 .i64 (n + 2) (by omega) (by omega) u
  have hcast : (((n + 2 : Nat)) : Int) = 2 + (n : Int) := by omega
  rw [hcast] at hmk
  have hn' : (n : Int) ≤ 1024 := by omega
  clear hcast
  go_enter Try.func14, Try.ntmps14
  go_wp2
  obtain ⟨w4, hw4⟩ : ∃ w4, w4 = ((((w.alloc (.cells #[.slice (some ⟨w.heap.size + 1 + 1, 0, none⟩) 1 1, .slice (some ⟨w.heap.size + 1 + 1 + 1, 0, none⟩) 1 1] 46)).alloc (.cells (madeCells #[.int .u64 0] (n + 2)) 31)).alloc (.cells #[.slice (some ⟨w.heap.size + 1, 0, none⟩) (n + 2) (n + 2)] 29)).alloc (.cells #[.slice none 0 0] 119)) := ⟨_, rfl⟩
  have b0 := (((Blk.new w 46 #[.slice (some ⟨w.heap.size + 1 + 1, 0, none⟩) 1 1, .slice (some ⟨w.heap.size + 1 + 1 + 1, 0, none⟩) 1 1]).alloc (.cells (madeCells #[.int .u64 0] (n + 2)) 31)).alloc (.cells #[.slice (some ⟨w.heap.size + 1, 0, none⟩) (n + 2) (n + 2)] 29)).alloc (.cells #[.slice none 0 0] 119)
  have b1 := ((Blk.new (w.alloc (.cells #[.slice (some ⟨w.heap.size + 1 + 1, 0, none⟩) 1 1, .slice (some ⟨w.heap.size + 1 + 1 + 1, 0, none⟩) 1 1] 46)) 31 (madeCells #[.int .u64 0] (n + 2))).alloc (.cells #[.slice (some ⟨w.heap.size + 1, 0, none⟩) (n + 2) (n + 2)] 29)).alloc (.cells #[.slice none 0 0] 119)
  have b2 := (Blk.new ((w.alloc (.cells #[.slice (some ⟨w.heap.size + 1 + 1, 0, none⟩) 1 1, .slice (some ⟨w.heap.size + 1 + 1 + 1, 0, none⟩) 1 1] 46)).alloc (.cells (madeCells #[.int .u64 0] (n + 2)) 31)) 29 #[.slice (some ⟨w.heap.size + 1, 0, none⟩) (n + 2) (n + 2)]).alloc (.cells #[.slice none 0 0] 119)
  have b3 := Blk.new (((w.alloc (.cells #[.slice (some ⟨w.heap.size + 1 + 1, 0, none⟩) 1 1, .slice (some ⟨w.heap.size + 1 + 1 + 1, 0, none⟩) 1 1] 46)).alloc (.cells (madeCells #[.int .u64 0] (n + 2)) 31)).alloc (.cells #[.slice (some ⟨w.heap.size + 1, 0, none⟩) (n + 2) (n + 2)] 29)) 119 #[.slice none 0 0]
  rw [← hw4] at b0 b1 b2 b3
  simp only [World.size_alloc, made_u64s] at b1 b2 b3
  have k4 : ∀ S, Keeps S w w4 := fun S => by rw [hw4]; exact ((((Keeps.refl S w).alloc _).alloc _).alloc _).alloc _
  have hz4 : w4.heap.size = w.heap.size + 4 := by rw [hw4]; simp
  rw [← hw4]
  clear hw4
  have r0 : w4.cell? ⟨w.heap.size, 0, none⟩ = some (.slice (some ⟨w.heap.size + 1 + 1, 0, none⟩) 1 1) := by rw [b0.cell]; rfl
  have r1 : w4.cell? ⟨w.heap.size, 1, none⟩ = some (.slice (some ⟨w.heap.size + 1 + 1 + 1, 0, none⟩) 1 1) := by rw [b0.cell]; rfl
  refine bodyPost_ret (v := .agg #[.slice (some ⟨w.heap.size + 1 + 1, 0, none⟩) 1 1, .slice (some ⟨w.heap.size + 1 + 1 + 1, 0, none⟩) 1 1]) (by simp [results, Try.results14, go_sem, r0, r1]) rfl ?_
  have z4 : w4.heap.size = w.heap.size + 4 := hz4
  refine ⟨_, _, rfl, fun w'' kk => ⟨⟨_, _, rfl, fun i l hi => ?_⟩, ⟨_, _, rfl, fun i hi => ?_⟩⟩, k4⟩
  · have b1 := Blk.keeps b1 kk (by omega)
    have b2 := Blk.keeps b2 kk (by omega)
    obtain ⟨rfl, rfl⟩ : i = 0 ∧ l = List.replicate (n + 2) 0 := by
      rcases i with _ | i
      · simp at hi; exact ⟨rfl, hi.symm⟩
      · simp at hi
    refine ⟨_, 0, some ⟨w.heap.size + 1, 0, none⟩, n + 2, rfl, b2.lt, by rw [b2.cell, List.length_replicate]; rfl, fun k u hk => ⟨_, 0, rfl, b1.lt, ?_⟩⟩
    rw [Nat.zero_add, b1.cell]
    exact hk
  · have b3 := Blk.keeps b3 kk (by omega)
    obtain rfl : i = 0 := by omega
    exact ⟨_, 0, rfl, b3.lt, by rw [b3.cell]; rfl⟩
theorem pow_next : ∀ x ∈ pows, ∀ n ∈ pows, x < n → 2 * x ∈ pows ∧ 2 * x ≤ n := by decide
theorem pow_on : ∀ x ∈ pows, 2 * x ∈ pows ∨ 2 * x = 2048 := by decide
set_option maxRecDepth 100000 in
set_option maxHeartbeats 1000000 in
theorem may_yes (n : Nat) (w : World) (hn : n ∈ pows) : Calls Try.prog 12 #[.int .i64 (n : Int)] w fun e w' => e = .returned (.bool true) ∧ w = w' := by
  have HN := Lib.hid hn
  have hn1 := pow_yes hn
  clear hn
  go_enter Try.func12, Try.ntmps12
  go_wp2
  go_loopw [3] (fun i wr => ∃ x : Nat, (x ∈ pows ∧ x ≤ n) ∧ i = .int .i64 (x : Int) ∧ w = wr) (fun i _ => 2048 - (intOf i).toNat)
  case atStart => exact ⟨1, ⟨by decide, by omega⟩, rfl, rfl⟩
  case round =>
    obtain ⟨x, ⟨hx, hxn⟩, rfl, rfl⟩ := hrel
    have hx1 := pow_yes hx
    have h1 : (x : Int) ≤ 1024 := by omega
    have h0 : (0 : Int) ≤ (x : Int) := by omega
    by_cases he : x = n
    · subst he
      have HX := Lib.hid hx
      clear hx
      go_wp2
      try rw [Exit.noGoto_ret]
      go_ret
      exact ⟨rfl, rfl⟩
    · have h2 := pow_next x hx n HN.out (by omega)
      have hne : ((x : Int) == (n : Int)) = false := by simp; omega
      have H2 := Lib.hid h2
      clear hx h2
      go_wp2
      go_roundw
      case rel => exact ⟨2 * x, H2.out, by go_num, by simp⟩
      case measure => simp [intOf]; omega
set_option maxRecDepth 100000 in
set_option maxHeartbeats 1000000 in
theorem may_no (s : Int) (w : World) (hs : ∀ n ∈ pows, s ≠ (n : Int)) : Calls Try.prog 12 #[.int .i64 s] w fun e w' => e = .returned (.bool false) ∧ w = w' := by
  have HS : Hid (∀ n ∈ pows, s ≠ (n : Int)) := Lib.hid hs
  clear hs
  go_enter Try.func12, Try.ntmps12
  go_wp2
  go_loopw [3] (fun i wr => ∃ x : Nat, (x ∈ pows ∨ x = 2048) ∧ i = .int .i64 (x : Int) ∧ w = wr) (fun i _ => 2049 - (intOf i).toNat)
  case atStart => exact ⟨1, .inl (by decide), rfl, rfl⟩
  case round =>
    obtain ⟨x, hx, rfl, rfl⟩ := hrel
    rcases hx with hx | rfl
    · have hx1 := pow_yes hx
      have h1 : (x : Int) ≤ 1024 := by omega
      have h0 : (0 : Int) ≤ (x : Int) := by omega
      have hne : ((x : Int) == s) = false := by have := HS.out x hx; simp; omega
      have H2 := Lib.hid (pow_on x hx)
      clear hx
      go_wp2
      go_roundw
      case rel => exact ⟨2 * x, H2.out, by go_num, by simp⟩
      case measure => simp [intOf]; omega
    · go_wp2
      try rw [Exit.noGoto_ret]
      go_ret
      exact ⟨rfl, rfl⟩
theorem alone_ (n r v m : Nat) (ws : List Nat) (wv lv cv dv : Value) (w : World) (hr : r < 3) (hn : n ≤ 1024) (h0 : 0 < n) (hlen : ws.length = n + 2) (hsm : ∀ x ∈ ws, x < 18446744073709551616) (hv : v < 18446744073709551616) (hw : IsWords w w.heap.size wv [ws]) (hl : IsLists w w.heap.size lv m) (hm : m < 1000000) (hc : IsCode w w.heap.size cv (codeOf n r v)) (hd : IsData w w.heap.size dv []) :
    Calls Try.prog 17 #[.agg #[wv, lv], .agg #[cv, dv]] w fun e w' => ∃ tA tc A cc A2 c2 m' mA mc, e = .returned (.tuple #[.slice tA (toldOf n r ws).length tc, .agg #[.slice A 1 cc, .slice A2 m' c2], .slice mA (marksOf n r ws).length mc]) ∧ m' < 1000000 ∧
      (∀ w'', Keeps (fun b => b < w.heap.size) w' w'' → IsData w'' w''.heap.size (.slice tA (toldOf n r ws).length tc) (toldOf n r ws) ∧ IsWords w'' w''.heap.size (.slice A 1 cc) [nextOf n r v ws] ∧ IsLists w'' w''.heap.size (.slice A2 m' c2) m' ∧ IsMarks w'' w''.heap.size (.slice mA (marksOf n r ws).length mc) (marksOf n r ws)) ∧ ∀ S, Keeps S w w' := by
  have key : ∃ pl, plays 40 10 [ws] [] [[(codeOf n r v, [])]] = some pl ∧ pl.ws = [nextOf n r v ws] ∧ pl.trace.map (·.2) = marksOf n r ws ∧ pl.ths.map (·.ans) = [[(true, toldOf n r ws)]] := by
    rcases (show r = 0 ∨ r = 1 ∨ r = 2 by omega) with rfl | rfl | rfl
    · by_cases hd : dif ws < n
      · obtain ⟨pl, q1, q2, q3, q4⟩ := play_put_yes hv (by omega) h0 hlen rfl rfl rfl hd rfl
        exact ⟨pl, q1, by simp only [nextOf, hd, if_true]; exact q2, by rw [q3]; simp [marksOf, hd, slotOf], by rw [q4]; simp [toldOf, hd]⟩
      · obtain ⟨pl, q1, q2, q3, q4⟩ := play_put_no hv (by omega) h0 hlen rfl rfl rfl hd
        exact ⟨pl, q1, by simp only [nextOf, hd, if_true, if_false]; exact q2, by rw [q3]; simp [marksOf, hd], by rw [q4]; simp [toldOf, hd]⟩
    · by_cases hd : ws[0]?.getD 0 = ws[1]?.getD 0
      · obtain ⟨pl, q1, q2, q3, q4⟩ := play_take_no (by omega) h0 hlen rfl hd.symm
        exact ⟨pl, q1, by rw [q2]; simp [nextOf, hd], by rw [q3]; simp [marksOf, hd], by rw [q4]; simp [toldOf, hd]⟩
      · obtain ⟨pl, q1, q2, q3, q4⟩ := play_take_yes (by omega) h0 hlen rfl rfl hd rfl rfl
        exact ⟨pl, q1, by rw [q2]; simp [nextOf, hd], by rw [q3]; simp [marksOf, hd, slotOf], by rw [q4]; simp [toldOf, hd, slotOf]⟩
    · obtain ⟨pl, q1, q2, q3, q4⟩ := play_len (by omega) h0 hlen rfl rfl rfl
      exact ⟨pl, q1, by rw [q2]; simp [nextOf], by rw [q3]; simp [marksOf], by rw [q4]; simp [toldOf, dif]⟩
  obtain ⟨pl, h1, h2, h3, h4⟩ := key
  have hlen2 : pl.trace.length = (marksOf n r ws).length := by rw [← h3]; simp
  have hlt : (marksOf n r ws).length ≤ 4 := by unfold marksOf; (repeat' split) <;> simp
  have hcl : (codeOf n r v).length < 1000000 := by unfold codeOf; (repeat' split) <;> simp [putCode, takeCode, lenCode]
  refine (alone_any 40 10 w.heap.size m wv lv cv dv [ws] _ [] w hw hl hc hd (Nat.le_refl _) (by simp) hm (by simp; omega) (fun l hl x hx => by simp at hl; subst hl; exact hsm x hx) hcl pl h1 true (toldOf n r ws) h4 (by omega)).mono ?_
  rintro e w' ⟨tA, tc, A, cc, A2, c2, m', mA, mc, he, hm', hr, hk⟩
  rw [h2, hlen2] at he hr
  refine ⟨tA, tc, A, cc, A2, c2, m', mA, mc, he, hm', fun w'' kk => ?_, hk⟩
  have := hr w'' kk
  rw [h2, h3] at this
  exact this
end Go.Proofs.Ytmkgjiejkfbdlaa.rf6
