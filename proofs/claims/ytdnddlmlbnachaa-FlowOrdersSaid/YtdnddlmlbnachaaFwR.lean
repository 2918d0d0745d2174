/-
  patchbayref17: addr, Bytes, Hash.
-/
import Derived.Test.YtdnddlmlbnachaaFwD
set_option linter.unusedVariables false
set_option linter.unusedSimpArgs false
namespace Go.Proofs.Ytdnddlmlbnachaa.fw
open Go.RowKit Go.Proofs.Ytdnddlmlbnachaa.oc Go.Proofs.Ytdnddlmlbnachaa.mz Go.Proofs.Ytdnddlmlbnachaa.pf Go.Proofs.Ytdnddlmlbnachaa.wh Go.Proofs.Ytdnddlmlbnachaa.qk Go.Proofs.Ytdnddlmlbnachaa.bys
theorem five_rd (w : World) (x1 x2 x3 x4 x5 : Nat) : Rd (w.alloc (.cells #[.int .u8 (x1 : Int), .int .u8 (x2 : Int), .int .u8 (x3 : Int), .int .u8 (x4 : Int), .int .u8 (x5 : Int)] 5)) (w.heap.size + 1) (some ⟨w.heap.size, 0, none⟩) (by_ [x1, x2, x3, x4, x5]) := by
  have := (Blk.new w 5 #[.int .u8 (x1 : Int), .int .u8 (x2 : Int), .int .u8 (x3 : Int), .int .u8 (x4 : Int), .int .u8 (x5 : Int)]).rd
  simpa [by_] using this
theorem own_lt {w wi : World} {v : Value} {l : List Nat} (h : By w wi v l) {X : Nat} (hX : wi.heap.size ≤ X) : ¬ v.ownBlock = some X := fun e => by have := (h.own.lt X e).2; omega
theorem apart_app {v v' : Value} {g n : Nat} (a4 : v'.ownBlock = v.ownBlock ∨ v'.ownBlock = some n) (hne : ¬ v.ownBlock = some g) (hlt : g < n) : ¬ v'.ownBlock = some g := by
  rcases a4 with e | e
  · rw [e]; exact hne
  · rw [e]; intro z; injection z with z; omega
/-- the address in its box, and the row, which lies elsewhere -/
structure AI (wb wr : World) (g : Nat) (a : Ad) (v : Value) (l : List Nat) : Prop where
  row : By wb wr v l
  box : wr.rangeAt g 0 (adc a)
  lt : g < wr.heap.size
  ne : ¬ v.ownBlock = some g
section
variable (wb w : World)
set_option maxRecDepth 100000 in
set_option maxHeartbeats 2000000 in
theorem raddr_ (v : Value) (l : List Nat) (hv : By wb w v l) (hl : l.length ≤ 1000) (a : Ad) (ha : a.Wf) : Calls Try.prog 31 #[v, av a] w fun e w' => ∃ v', e = .returned v' ∧ By wb w' v' (l ++ aby a) := by
  obtain ⟨w1, hw1, k1, b1, s1⟩ := box1 w (adc a) 24
  have xv : w1.cell? ⟨w.heap.size, 0, none⟩ = some (.bool a.v6) := by rw [b1.cell]; rfl
  rw [hw1] at xv
  have key : ∀ d : Nat, By wb (w1.alloc (.cells #[.int .u8 (d : Int)] 5)) v l ∧ Rd (w1.alloc (.cells #[.int .u8 (d : Int)] 5)) (w1.heap.size + 1) (some ⟨w1.heap.size, 0, none⟩) (by_ [d]) ∧ (w1.alloc (.cells #[.int .u8 (d : Int)] 5)).rangeAt w.heap.size 0 (adc a) := fun d =>
    ⟨(hv.grown k1).alloc _, one_rd w1 d, Blk.range (b1.alloc _)⟩
  have K0 := Lib.hid (key 0)
  have K9 := Lib.hid (key 1)
  have HNE := Lib.hid (own_lt hv (Nat.le_refl _))
  have HW := Lib.hid hw1
  have HS := Lib.hid s1
  have HA := Lib.hid ha
  have HL := Lib.hid hl
  have hB : ∀ m, m < 16 → ∃ x : Nat, a.B[m]? = some x ∧ (adc a)[1 + m]? = some (.int .u8 (x : Int)) := fun m hm => by
    have hx := getq (bs := a.B) (k := m) (by rw [ha.len]; exact hm)
    exact ⟨_, hx, by rw [Nat.add_comm 1 m, adc, List.getElem?_cons_succ, b8s, List.getElem?_map, hx]; rfl⟩
  have HB := Lib.hid hB
  have hab : aby a = kd a :: a.B := rfl
  have hlen : a.B.take 16 = a.B := List.take_of_length_le (by rw [ha.len]; omega)
  have HLN := Lib.hid hlen
  rw [hab]
  unfold av
  unfold kd
  clear hw1 k1 b1 s1 hv ha hl hB key hab hlen
  generalize hC : adc a = C at *
  have HC := Lib.hid hC
  clear hC
  generalize a.v6 = b6 at *
  cases b6
  · go_enter Try.func31, Try.ntmps31
    go_wp2_with (at_builtin; (try rw [← HW.out]); rw [← HS.out]; refine By.wpList_append2 rfl _ _ rfl K0.out.1 rfl (some ⟨w1.heap.size, 0, none⟩) 1 1 _ [0] rfl rfl K0.out.2.1 (by have := HL.out; omega) ?_; intro v4 w4 y4 k4 a4; have H4 : Hid (AI wb w4 w.heap.size a v4 (l ++ [0])) := Lib.hid ⟨y4, by rw [HC.out]; exact range_keeps K0.out.2.2 k4 HNE.out, Nat.lt_of_lt_of_le (by have := HS.out; simp; omega) k4.size, apart_app a4 HNE.out (by have := HS.out; simp; omega)⟩; clear y4 k4 a4)
    go_loopw [0, 6] (fun s i wr => ∃ (m : Nat), m ≤ 16 ∧ i = .int .i64 (m : Int) ∧ AI wb wr w.heap.size a s (l ++ (0 :: a.B.take m))) (fun _ i _ => 16 - (intOf i).toNat)
    case atStart => exact ⟨0, by omega, rfl, by simpa using H4.out⟩
    case round =>
      obtain ⟨m, hm, rfl, hai⟩ := hrel
      by_cases hlt : m < 16
      · obtain ⟨x, hx1, hx2⟩ := HB.out m hlt
        have hc := hai.box (1 + m) _ (by rw [HC.out]; exact hx2)
        rw [Nat.zero_add] at hc
        have HI := Lib.hid hai
        have hlt' : (m : Int) < 16 := by omega
        have m0 : (0 : Int) ≤ (m : Int) := by omega
        have HX := Lib.hid hx1
        clear hai hx1 hx2 K0 K9 H4
        go_wp2_with (at_builtin; refine By.wpList_append2 rfl _ _ rfl (HI.out.row.alloc _) rfl (some ⟨wr.heap.size, 0, none⟩) 1 1 _ [x] rfl rfl (one_rd wr x) (by have := HL.out; simp; omega) ?_; intro v5 w5 y5 k5 a5; have H5 : Hid (AI wb w5 w.heap.size a v5 ((l ++ (0 :: a.B.take m)) ++ [x])) := Lib.hid ⟨y5, range_keeps (range_keeps HI.out.box ((Keeps.refl (fun _ => False) wr).alloc _) (fun z => z)) k5 HI.out.ne, Nat.lt_of_lt_of_le (Nat.lt_of_lt_of_le HI.out.lt (by simp)) k5.size, apart_app a5 HI.out.ne (by have := HI.out.lt; simp; omega)⟩; clear y5 k5 a5)
        go_roundw
        case rel => exact ⟨m + 1, by omega, by go_num, by have := H5.out; rwa [List.append_assoc, List.cons_append, ← take_snoc HX.out] at this⟩
        case measure => simp [intOf]; omega
      · obtain rfl : m = 16 := by omega
        have HI := Lib.hid hai
        clear hai K0 K9 H4
        go_wp2
        try rw [Exit.noGoto_ret]
        go_ret
        exact ⟨_, rfl, by have := HI.out.row; rwa [HLN.out] at this⟩
  · go_enter Try.func31, Try.ntmps31
    go_wp2_with (at_builtin; (try rw [← HW.out]); rw [← HS.out]; refine By.wpList_append2 rfl _ _ rfl K9.out.1 rfl (some ⟨w1.heap.size, 0, none⟩) 1 1 _ [1] rfl rfl K9.out.2.1 (by have := HL.out; omega) ?_; intro v4 w4 y4 k4 a4; have H4 : Hid (AI wb w4 w.heap.size a v4 (l ++ [1])) := Lib.hid ⟨y4, by rw [HC.out]; exact range_keeps K9.out.2.2 k4 HNE.out, Nat.lt_of_lt_of_le (by have := HS.out; simp; omega) k4.size, apart_app a4 HNE.out (by have := HS.out; simp; omega)⟩; clear y4 k4 a4)
    go_loopw [0, 6] (fun s i wr => ∃ (m : Nat), m ≤ 16 ∧ i = .int .i64 (m : Int) ∧ AI wb wr w.heap.size a s (l ++ (1 :: a.B.take m))) (fun _ i _ => 16 - (intOf i).toNat)
    case atStart => exact ⟨0, by omega, rfl, by simpa using H4.out⟩
    case round =>
      obtain ⟨m, hm, rfl, hai⟩ := hrel
      by_cases hlt : m < 16
      · obtain ⟨x, hx1, hx2⟩ := HB.out m hlt
        have hc := hai.box (1 + m) _ (by rw [HC.out]; exact hx2)
        rw [Nat.zero_add] at hc
        have HI := Lib.hid hai
        have hlt' : (m : Int) < 16 := by omega
        have m0 : (0 : Int) ≤ (m : Int) := by omega
        have HX := Lib.hid hx1
        clear hai hx1 hx2 K0 K9 H4
        go_wp2_with (at_builtin; refine By.wpList_append2 rfl _ _ rfl (HI.out.row.alloc _) rfl (some ⟨wr.heap.size, 0, none⟩) 1 1 _ [x] rfl rfl (one_rd wr x) (by have := HL.out; simp; omega) ?_; intro v5 w5 y5 k5 a5; have H5 : Hid (AI wb w5 w.heap.size a v5 ((l ++ (1 :: a.B.take m)) ++ [x])) := Lib.hid ⟨y5, range_keeps (range_keeps HI.out.box ((Keeps.refl (fun _ => False) wr).alloc _) (fun z => z)) k5 HI.out.ne, Nat.lt_of_lt_of_le (Nat.lt_of_lt_of_le HI.out.lt (by simp)) k5.size, apart_app a5 HI.out.ne (by have := HI.out.lt; simp; omega)⟩; clear y5 k5 a5)
        go_roundw
        case rel => exact ⟨m + 1, by omega, by go_num, by have := H5.out; rwa [List.append_assoc, List.cons_append, ← take_snoc HX.out] at this⟩
        case measure => simp [intOf]; omega
      · obtain rfl : m = 16 := by omega
        have HI := Lib.hid hai
        clear hai K0 K9 H4
        go_wp2
        try rw [Exit.noGoto_ret]
        go_ret
        exact ⟨_, rfl, by have := HI.out.row; rwa [HLN.out] at this⟩
end
end Go.Proofs.Ytdnddlmlbnachaa.fw
