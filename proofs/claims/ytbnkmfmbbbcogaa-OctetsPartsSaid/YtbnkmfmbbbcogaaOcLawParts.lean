/-
  The law OctetsParts, walked.
-/
import Derived.Test.YtbnkmfmbbbcogaaOcWorks
import Derived.Test.YtbnkmfmbbbcogaaOcSpare
import Derived.Test.YtbnkmfmbbbcogaaOcOpen
import Derived.Test.YtbnkmfmbbbcogaaOcOne
import Derived.Test.YtbnkmfmbbbcogaaOcPut
import Derived.Test.YtbnkmfmbbbcogaaOcCut
import Derived.Deep.RegionHeld3
namespace Go.Proofs.Ytbnkmfmbbbcogaa.oc
open Go.RowKit

/-- four parts of one slice -/
theorem pt_four {w0 w : World} (b : Below w0.heap.size w0 w) {A : Option Addr} {bs : List Nat} {n c p q : Nat} (hn : bs.length = n) (hnc : n ≤ c) (p1 : p ≤ q) (p2 : q ≤ n) (hr : Rd w0 w0.heap.size A (by_ bs)) :
    Pt (w.alloc (.cells #[.slice A p c, .slice (cutA A c p) (q - p) (c - p), .slice none 0 0, .slice (cutA A c q) (n - q) (c - q)] 22)).drew (w.heap.size + 1) (some ⟨w.heap.size, 0, none⟩)
      [bs.take p, (bs.drop p).take (q - p), [], bs.drop q] := by
  subst hn
  have r := (((hr.below b).more b.size).alloc (Nat.le_refl _) (.cells #[.slice A p c, .slice (cutA A c p) (q - p) (c - p), .slice none 0 0, .slice (cutA A c q) (bs.length - q) (c - q)] 22)).more (B' := w.heap.size + 1) (by omega)
  have hb := Blk.new w 22 #[.slice A p c, .slice (cutA A c p) (q - p) (c - p), .slice none 0 0, .slice (cutA A c q) (bs.length - q) (c - q)]
  refine pt_row (t := 22) hb (by omega) ?_
  intro k l hk
  rcases k with _ | _ | _ | _ | k
  · simp only [List.getElem?_cons_zero, Option.some.injEq] at hk
    subst hk
    exact ⟨A, c, by simp; omega, rd_take r p⟩
  · simp only [List.getElem?_cons_succ, List.getElem?_cons_zero, Option.some.injEq] at hk
    subst hk
    exact ⟨cutA A c p, c - p, by simp [List.length_take, List.length_drop]; omega, rd_take (rd_cut r p hnc) (q - p)⟩
  · simp only [List.getElem?_cons_succ, List.getElem?_cons_zero, Option.some.injEq] at hk
    subst hk
    exact ⟨none, 0, by simp, Rd.nil_⟩
  · simp only [List.getElem?_cons_succ, List.getElem?_cons_zero, Option.some.injEq] at hk
    subst hk
    exact ⟨cutA A c q, c - q, by simp, rd_cut r q hnc⟩
  · simp at hk
theorem four_flat (bs : List Nat) {p q : Nat} (p1 : p ≤ q) : ([bs.take p, (bs.drop p).take (q - p), [], bs.drop q] : List (List Nat)).flatten = bs := by
  have e : bs.drop q = (bs.drop p).drop (q - p) := by rw [List.drop_drop, show p + (q - p) = q from by omega]
  simp only [List.flatten_cons, List.flatten_nil, List.append_nil, List.nil_append]
  rw [e, List.take_append_drop, List.take_append_drop]
theorem four_small {bs : List Nat} (hs : Small bs) (p q : Nat) : ∀ l, l ∈ [bs.take p, (bs.drop p).take (q - p), [], bs.drop q] → Small l := by
  intro l hl
  simp at hl
  rcases hl with rfl | rfl | rfl | rfl
  · exact hs.take _
  · exact (hs.drop _).take _
  · exact Small.nil
  · exact hs.drop _
theorem sum_four {w0 w : World} (b : Below w0.heap.size w0 w) {A : Option Addr} {bs : List Nat} {n c p q : Nat} (g : Nat) (hg : g = w.heap.size) (hn : bs.length = n) (hnc : n ≤ c) (hm : n ≤ 140737488355328) (p1 : p ≤ q) (p2 : q ≤ n) (hs : Small bs) (hr : Rd w0 w0.heap.size A (by_ bs)) :
    Calls Try.prog 29 #[.slice (some ⟨g, 0, none⟩) 4 4] (w.alloc (.cells #[.slice A p c, .slice (cutA A c p) (q - p) (c - p), .slice none 0 0, .slice (cutA A c q) (n - q) (c - q)] 22)).drew
      fun e w' => e = .returned (.int .u16 (csum bs : Nat)) ∧ (w.alloc (.cells #[.slice A p c, .slice (cutA A c p) (q - p) (c - p), .slice none 0 0, .slice (cutA A c q) (n - q) (c - q)] 22)).drew = w' := by
  subst hg
  have h := sum_any (some ⟨w.heap.size, 0, none⟩) _ 4 4 _ _ rfl (by omega) (by rw [four_flat bs p1, hn]; exact hm) (four_small hs p q) (pt_four b hn hnc p1 p2 hr)
  rw [four_flat bs p1] at h
  exact h
theorem hash_four {w0 w : World} (b : Below w0.heap.size w0 w) {A : Option Addr} {bs : List Nat} {n c p q : Nat} (g : Nat) (hg : g = w.heap.size) (hn : bs.length = n) (hnc : n ≤ c) (hm : n ≤ 140737488355328) (p1 : p ≤ q) (p2 : q ≤ n) (hs : Small bs) (hr : Rd w0 w0.heap.size A (by_ bs)) :
    Calls Try.prog 31 #[.slice (some ⟨g, 0, none⟩) 4 4] (w.alloc (.cells #[.slice A p c, .slice (cutA A c p) (q - p) (c - p), .slice none 0 0, .slice (cutA A c q) (n - q) (c - q)] 22)).drew
      fun e w' => e = .returned (.int .u64 (fnv bs : Nat)) ∧ (w.alloc (.cells #[.slice A p c, .slice (cutA A c p) (q - p) (c - p), .slice none 0 0, .slice (cutA A c q) (n - q) (c - q)] 22)).drew = w' := by
  subst hg
  have h := hash_any (some ⟨w.heap.size, 0, none⟩) _ 4 4 _ _ rfl (by omega) (by rw [four_flat bs p1, hn]; exact hm) (four_small hs p q) (pt_four b hn hnc p1 p2 hr)
  rw [four_flat bs p1] at h
  exact h

set_option maxHeartbeats 400000 in
set_option maxHeartbeats 1000000 in
theorem walk_octetsParts (w : World) (A : Option Addr) (n c : Nat) (bs : List Nat) (h : IsNums .u8 256 w A n c bs) (hc : c ≤ 140737488351232) (a : Int) (a0 : -9223372036854775808 ≤ a) (a1 : a ≤ 9223372036854775807) (t : Int) (t0 : -9223372036854775808 ≤ t) (t1 : t ≤ 9223372036854775807) :
    Calls Try.prog 8 #[.slice A n c, .int .i64 a, .int .i64 t] w fun e w' => e = .returned (.bool true) ∧ Below w.heap.size w w' := by
  obtain ⟨hn, hnc, hs, hr⟩ := h.bytes
  have n1 : n ≤ 140737488355328 := by omega
  obtain ⟨m0, e1⟩ : ∃ m0 : Nat, max a 0 = (m0 : Int) := ⟨(max a 0).toNat, by omega⟩
  obtain ⟨p, e2⟩ : ∃ p : Nat, min (m0 : Int) n = (p : Int) := ⟨min m0 n, by omega⟩
  obtain ⟨m1, e3⟩ : ∃ m1 : Nat, max t (p : Int) = (m1 : Int) := ⟨(max t (p : Int)).toNat, by omega⟩
  obtain ⟨q, e4⟩ : ∃ q : Nat, min (m1 : Int) n = (q : Int) := ⟨min m1 n, by omega⟩
  have p1 : p ≤ q := by omega
  have p2 : q ≤ n := by omega
  have f1 : (if a < 0 then (0 : Int) else a) = (m0 : Int) := by rw [← e1]; split <;> omega
  have f3 : (if t < (p : Int) then (p : Int) else t) = (m1 : Int) := by rw [← e3]; split <;> omega
  have g2 : (if n < m0 then (n : Int) else (m0 : Int)) = (p : Int) := by rw [← e2]; split <;> omega
  have g4 : (if n < m1 then (n : Int) else (m1 : Int)) = (q : Int) := by rw [← e4]; split <;> omega
  clear a0 a1 t0 t1 h e1 e3
  have HN := Lib.hid hn
  clear hn
  go_enter Try.func8, Try.ntmps8
  go_wp2_with fail
  refine (works_any _).mono ?_
  rintro e w1 ⟨rfl, b1⟩
  have r1 := (hr.below b1).more b1.size
  go_wp2_with fail
  refine (sum_one b1 HN.out n1 hs r1).mono ?_
  rintro e w2 ⟨rfl, b2⟩
  have r2 := (hr.below b2).more b2.size
  clear r1 b1
  go_wp2_with fail
  refine (hash_one b2 HN.out n1 hs r2).mono ?_
  rintro e w3 ⟨rfl, b3⟩
  have r3 := (hr.below b3).more b3.size
  clear r2 b2
  go_wp2_with fail
  have s1 := cut_h A n c p (by omega)
  have s2 := cut_lh A n c p q p1 (by omega)
  have s3 := cut_l A n c q p2
  have f4 := sum_four b3 w3.heap.size rfl HN.out hnc n1 p1 p2 hs hr
  have b4 : Below w.heap.size w (w3.alloc (.cells #[.slice A p c, .slice (cutA A c p) (q - p) (c - p), .slice none 0 0, .slice (cutA A c q) (n - q) (c - q)] 22)) := b3.alloc b3.size _
  have h4 := hash_four b4 (w3.heap.size + 1) (by simp) HN.out hnc n1 p1 p2 hs hr
  have b5 := b4.alloc b4.size (.cells #[.slice A p c, .slice (cutA A c p) (q - p) (c - p), .slice none 0 0, .slice (cutA A c q) (n - q) (c - q)] 22)
  have F4 := Lib.hid f4
  have H4 := Lib.hid h4
  clear f4 h4
  generalize csum bs = sv at *
  generalize fnv bs = hv at *
  go_region_held3 (fun _ => True) (exact trivial) (first
    | (go_at_call 29; refine F4.out.mono ?_; rintro e w' ⟨rfl, rfl⟩)
    | (go_at_call 31; refine H4.out.mono ?_; rintro e w' ⟨rfl, rfl⟩))
  clear F4 H4 s1 s2 s3 b3 b4 r3
  obtain ⟨m, hm⟩ : ∃ m : Nat, m = n - n % 2 := ⟨_, rfl⟩
  have em : (n : Int) - (n : Int) % 2 = (m : Int) := by omega
  have m1 : m ≤ n := by omega
  have m2 : m % 2 = 0 := by omega
  have s4 := cut_h A n c m (by omega)
  clear hm
  have g5 : Below w.heap.size w (((w3.alloc (.cells #[.slice A p c, .slice (cutA A c p) (q - p) (c - p), .slice none 0 0, .slice (cutA A c q) (n - q) (c - q)] 22)).alloc (.cells #[.slice A p c, .slice (cutA A c p) (q - p) (c - p), .slice none 0 0, .slice (cutA A c q) (n - q) (c - q)] 22)).drew) := b5.drew
  clear b5
  generalize (((w3.alloc (.cells #[.slice A p c, .slice (cutA A c p) (q - p) (c - p), .slice none 0 0, .slice (cutA A c q) (n - q) (c - q)] 22)).alloc (.cells #[.slice A p c, .slice (cutA A c p) (q - p) (c - p), .slice none 0 0, .slice (cutA A c q) (n - q) (c - q)] 22)).drew) = w4 at *
  have r4 := (rd_take hr m)
  have l4 : (bs.take m).length = m := by rw [List.length_take, HN.out]; omega
  have q4 := hs.take m
  generalize bs.take m = ev at *
  have n0 : m ≤ 140737488355328 := by omega
  go_wp2_with fail
  clear e2 e4 f1 f3 g2 g4 em s4 p1 p2
  refine (sum_one g5 l4 n0 q4 ((r4.below g5).more g5.size)).mono ?_
  rintro e w5 ⟨rfl, b6⟩
  have c16 := csum_le ev
  have cs0 := csum_self (by rw [l4]; exact m2 : ev.length % 2 = 0)
  have CS := Lib.hid cs0
  clear cs0
  have hput := put16_any none [] 0 0 0 (csum ev) w5 rfl (by omega) (by omega) Rd.nil_ (Nat.zero_le _)
  have HPUT := Lib.hid hput
  clear hput
  generalize hcs : csum ev = cs at *
  have HCS := Lib.hid hcs
  clear hcs
  go_wp2_with fail
  refine HPUT.out.mono ?_
  rintro e w6 ⟨rfl, hb6, b7⟩
  have b8 : Below w.heap.size w w6 := b6.trans (b7.mono b6.size)
  have r6 : Rd w6 w6.heap.size (some ⟨w5.heap.size, 0, none⟩) (by_ (be 2 cs)) := by
    have h := hb6.rd.more (B' := w6.heap.size) hb6.lt
    simpa using h
  clear b7 hb6 b6 HPUT
  go_wp2_with fail
  refine (sum_two b8 l4 (be_length 2 cs) (by omega) q4 (be_small 2 cs) ((r4.below b8).more b8.size) r6).mono ?_
  rintro e w7 ⟨rfl, b9⟩
  rw [CS.out]
  have l5 : ev.length ≤ 140737488355328 := by omega
  clear CS r6 b8 c16
  go_wp2_with fail
  obtain ⟨i0, hi0, hz0, hz1, hz2⟩ := info_parts byte_info
  go_loopw [10, 11] (fun v i wr => ∃ (j : Nat) (ts : List Nat), 2 * j ≤ m ∧ i = .int .i64 (((2 * j : Nat) : Int) - 2) ∧ wr.ownsRow w7.heap.size 5 1 v ts.length (by_ ts) ∧ ts.length = m - 2 * j ∧ Small ts ∧ tot ts + tot (ev.take (2 * j)) = tot ev ∧ Below w7.heap.size w7 wr) (fun _ i _ => (intOf i + 2).toNat)
  case atStart => exact ⟨m / 2, [], by omega, by rw [show 2 * (m / 2) = m from by omega], World.ownsRow_nil _ _ _ _, by simp; omega, Small.nil, by rw [show 2 * (m / 2) = m from by omega, List.take_of_length_le (by omega)]; simp [tot, st], Below.refl _ _⟩
  case round =>
    obtain ⟨j, ts, hj, hi, ho, hl, hst, htt, hb⟩ := hrel
    rcases j with _ | j
    · subst hi
      have tt : tot ts = tot ev := by simpa [tot, st] using htt
      have cc := csum_tot tt
      rw [HCS.out] at cc
      have lt : ts.length ≤ 140737488355328 := by omega
      have bw : Below w.heap.size w wr := b9.trans (hb.mono b9.size)
      have rt : ∃ A' c', u10 = .slice A' ts.length c' ∧ Rd wr wr.heap.size A' (by_ ts) := by
        rcases ho.2 with ⟨rfl, h0⟩ | ⟨g, cap, cur, rfl, _⟩
        · obtain rfl : ts = [] := List.eq_nil_of_length_eq_zero h0
          exact ⟨none, 0, rfl, Rd.nil_⟩
        · exact ⟨_, cap, rfl, Rd.own ho⟩
      obtain ⟨A', c', rfl, rt⟩ := rt
      have CC := Lib.hid cc
      clear htt tt cc ho hl hb b9
      go_wp2_with fail
      refine (sum_one bw rfl lt hst rt).mono ?_
      rintro e w8 ⟨rfl, b10⟩
      rw [CC.out]
      go_wp2_with fail
      refine (sum_one b10 l4 n0 q4 ((r4.below b10).more b10.size)).mono ?_
      rintro e w9 ⟨rfl, b11⟩
      rw [HCS.out]
      go_wp2_with fail
      go_ret
      exact ⟨by simp, b11⟩
    · obtain ⟨k, hk⟩ : ∃ k, k = 2 * j := ⟨_, rfl⟩
      rw [show (((2 * (j + 1) : Nat) : Int) - 2) = (k : Int) from by omega] at hi
      subst hi
      have k1 : k + 2 ≤ m := by omega
      have k2 : (0 : Int) ≤ (k : Int) := by omega
      have k3 : (k : Int) + 1 < (m : Int) := by omega
      have hx := getq (bs := ev) (k := k) (by omega)
      have hy := getq (bs := ev) (k := k + 1) (by omega)
      have rr := (r4.below b9).below (hb.mono b9.size)
      obtain ⟨b, o, rfl, hb0, hc1⟩ := rr.byte hx
      obtain ⟨b', o', e, _, hc2⟩ := rr.byte hy
      injection e with e
      injection e with e e'
      subst e
      subst e'
      have x8 := q4.at_ hx
      have y8 := q4.at_ hy
      have tk : ev.take (k + 2) = ev.take k ++ [ev.getD k 0, ev.getD (k + 1) 0] := by rw [show k + 2 = k + 1 + 1 from rfl, take_snoc hy, take_snoc hx]; simp
      have lk : (ev.take k).length % 2 = 0 := by rw [List.length_take]; omega
      have tt := tot_two lk (ev.getD k 0) (ev.getD (k + 1) 0)
      rw [← tk] at tt
      have ts2 := tot_two (bs := ts) (by omega) (ev.getD k 0) (ev.getD (k + 1) 0)
      rw [show 2 * (j + 1) = k + 2 from by omega] at htt hl
      have HT : Hid (tot (ts ++ [ev.getD k 0, ev.getD (k + 1) 0]) + tot (ev.take k) = tot ev) := by show _ = _; omega
      have HK := Lib.hid hk
      have HL := Lib.hid hl
      clear tt ts2 tk lk htt hx hy hk hl
      generalize ev.getD k 0 = x at *
      generalize ev.getD (k + 1) 0 = y at *
      have hz := hb.size
      have hlit := lit_row wr #[.int .u8 (x : Int), .int .u8 (y : Int)] 5 [x, y] rfl
      have hc1' := fun ob : Obj => (World.cell?_alloc_lt wr ob ⟨b, o + k, none⟩ (by have := World.block_lt_of_cell? wr _ hc1; exact this)).trans hc1
      have hc2' := fun ob : Obj => (World.cell?_alloc_lt wr ob ⟨b, o + (k + 1), none⟩ (by have := World.block_lt_of_cell? wr _ hc2; exact this)).trans hc2
      have hkeep : ∀ (ob : Obj) (W : World), (wr.alloc ob).drew.grownBy W u10.ownBlock → W.cell? ⟨b, o + k, none⟩ = some (.int .u8 (x : Int)) ∧ W.cell? ⟨b, o + (k + 1), none⟩ = some (.int .u8 (y : Int)) := fun ob W hg => by
        have h := app_below (base := w7.heap.size) (hb.alloc hz ob).drew ((ho.alloc ob).drew) hg (by simp; omega)
        have hbz := b9.size
        have h1 := (h.cell (p := ⟨b, o + k, none⟩) (by show b < _; omega)).trans ((hb.cell (p := ⟨b, o + k, none⟩) (by show b < _; omega)).symm.trans hc1)
        have h2 := (h.cell (p := ⟨b, o + (k + 1), none⟩) (by show b < _; omega)).trans ((hb.cell (p := ⟨b, o + (k + 1), none⟩) (by show b < _; omega)).symm.trans hc2)
        exact ⟨h1, h2⟩
      have tl : ts.length + 2 ≤ 140737488355328 := by rw [HL.out]; omega
      go_wp2_with fail
      have k4 : (k : Int) < (m : Int) := by omega
      have k5 : (0 : Int) ≤ (k : Int) + 1 := by omega
      have k6 : ((k : Int) + 1).toNat = k + 1 := by omega
      have k7 : IntKind.i64.wrap ((k : Int) + 1) = (k : Int) + 1 := IntWalk.i64_in _ (by omega)
      go_region_held3 (fun w' => w'.cell? ⟨b, o + k, none⟩ = some (.int .u8 (x : Int)) ∧ w'.cell? ⟨b, o + (k + 1), none⟩ = some (.int .u8 (y : Int))) (first | exact ⟨hc1, hc2⟩ | exact ⟨hc1' _, hc2' _⟩ | exact hkeep _ _ hg2)
        ((refine step_app rfl _ _ 22 rfl w7.heap.size 5 i0 _ 1 Try.underlying22 hi0 hz0 hz1 hz2 rfl u10 ts.length (by_ ts) rfl (ho.alloc _) (wr.heap.size + 1) (some ⟨wr.heap.size, 0, none⟩) 2 2 (by_ [x, y]) rfl hlit rfl (by_one _) (by omega) (by omega) (by simp; omega) ?_; intro v2 w2 hown2 hg2 hat2))
      have hb2 : Below w7.heap.size w7 w2 := app_below (hb.alloc hz _).drew ((ho.alloc _).drew) hg2 (by simp; omega)
      have ho2 : w2.ownsRow w7.heap.size 5 1 v2 (ts ++ [x, y]).length (by_ (ts ++ [x, y])) := by
        rw [by_append, List.length_append]
        exact hown2
      have hst2 : Small (ts ++ [x, y]) := hst.append (fun z hz => by simp at hz; omega)
      clear hkeep hown2 hg2 hat2 ho hlit hc1' hc2' hc1 hc2 k7 k6
      go_wp2
      go_roundw
      case rel => exact ⟨j, ts ++ [x, y], by omega, by rw [← HK.out], ho2, by rw [List.length_append, HL.out, ← HK.out]; simp; omega, hst2, by rw [← HK.out]; exact HT.out, hb2⟩
      case measure => simp [intOf]; omega
end Go.Proofs.Ytbnkmfmbbbcogaa.oc
