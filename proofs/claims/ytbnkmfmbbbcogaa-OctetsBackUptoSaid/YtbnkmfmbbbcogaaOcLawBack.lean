/-
  The law OctetsBack, walked.
-/
import Derived.Test.YtbnkmfmbbbcogaaOcEnc
import Derived.Test.YtbnkmfmbbbcogaaOcBulk
import Derived.Test.YtbnkmfmbbbcogaaOcBits
import Derived.Test.YtbnkmfmbbbcogaaOcWorks
import Derived.Test.YtbnkmfmbbbcogaaOcCut
import Derived.Test.YtbnkmfmbbbcogaaOcPut
import Derived.Test.YtbnkmfmbbbcogaaOcTake
import Derived.Test.YtbnkmfmbbbcogaaOcSame
namespace Go.Proofs.Ytbnkmfmbbbcogaa.oc
open Go.RowKit
theorem own_rd {w : World} {base n : Nat} {e : TypeId} {v : Value} {xs : List Value} (h : w.ownsRow base e 1 v n xs) : ∃ A c, v = .slice A n c ∧ Rd w w.heap.size A xs := by
  rcases h.2 with ⟨rfl, h0⟩ | ⟨g, cap, cur, rfl, _⟩
  · subst h0
    obtain rfl : xs = [] := List.eq_nil_of_length_eq_zero (by simpa using h.1)
    exact ⟨none, 0, rfl, Rd.nil_⟩
  · exact ⟨_, cap, rfl, Rd.own h⟩
theorem own_below {w w' : World} {base n : Nat} {e : TypeId} {v : Value} {xs : List Value} (h : w.ownsRow base e 1 v n xs) (b : Below w.heap.size w w') : w'.ownsRow base e 1 v n xs := by
  refine ⟨h.1, ?_⟩
  rcases h.2 with h0 | ⟨g', cap', cur, h0, h1, h2, h3⟩
  · exact .inl h0
  · exact .inr ⟨g', cap', cur, h0, h1, (b.block g' (Array.getElem?_eq_some_iff.1 h2).1).trans h2, h3⟩
theorem int_info : (Try.prog.info? 3).map (fun i => (i.zero, i.size, i.bytes)) = some (some (.int .i64 0), 1, 8) := by kernel_rfl
/-- the places so far -/
def pls (n : Nat) (ls : List Nat) (k : Nat) : List Value := (List.range k).map (fun j => Value.int .i64 ((n + (encs ls j).length : Nat) : Int))
theorem pls_len (n : Nat) (ls : List Nat) (k : Nat) : (pls n ls k).length = k := by simp [pls]
theorem pls_succ (n : Nat) (ls : List Nat) (k : Nat) : pls n ls (k + 1) = pls n ls k ++ [Value.int .i64 ((n + (encs ls k).length : Nat) : Int)] := by simp [pls, List.range_succ]
theorem pls_at (n : Nat) (ls : List Nat) {j k : Nat} (h : j < k) : (pls n ls k)[j]? = some (Value.int .i64 ((n + (encs ls j).length : Nat) : Int)) := by simp [pls, h]
theorem nu_cell {w : World} {B : Nat} {A : Option Addr} {l : List Nat} (h : Rd w B A (nu .u64 l)) {k x : Nat} (hx : l[k]? = some x) : ∃ b o, A = some ⟨b, o, none⟩ ∧ b < B ∧ w.cell? ⟨b, o + k, none⟩ = some (.int .u64 (x : Int)) := h k _ (nu_at hx)
theorem bits64_at (A : Option Addr) (bs : List Nat) (n c B p m q : Nat) (w : World) (hn : bs.length = n) (hn9 : n ≤ 140737488355328) (hs : Small bs) (hr : Rd w B A (by_ bs)) (hm : m = 8) (hp : p + m ≤ n) (hq : q = 8 * p) :
    Calls Try.prog 35 #[.slice A n c, .int .i64 q, .int .i64 64] w fun e w' => e = .returned (.tuple #[.int .u64 (num ((bs.drop p).take m) : Nat), .int .i64 0]) ∧ w = w' := by
  subst hq
  subst hm
  have h := bits_yes A bs n c B (8 * p) 64 w hn hn9 hs hr (by omega) (by omega)
  have e := bnum_bytes bs hs p 8 (by omega)
  rw [show 8 * 8 = 64 from rfl] at e
  rw [e] at h
  exact h
theorem bits32_at (A : Option Addr) (bs : List Nat) (n c B p m q : Nat) (w : World) (hn : bs.length = n) (hn9 : n ≤ 140737488355328) (hs : Small bs) (hr : Rd w B A (by_ bs)) (hm : m = 4) (hp : p + m ≤ n) (hq : q = 8 * p) :
    Calls Try.prog 35 #[.slice A n c, .int .i64 q, .int .i64 32] w fun e w' => e = .returned (.tuple #[.int .u64 (num ((bs.drop p).take m) : Nat), .int .i64 0]) ∧ w = w' := by
  subst hq
  subst hm
  have h := bits_yes A bs n c B (8 * p) 32 w hn hn9 hs hr (by omega) (by omega)
  have e := bnum_bytes bs hs p 4 (by omega)
  rw [show 8 * 4 = 32 from rfl] at e
  rw [e] at h
  exact h
theorem bits16_at (A : Option Addr) (bs : List Nat) (n c B p m q : Nat) (w : World) (hn : bs.length = n) (hn9 : n ≤ 140737488355328) (hs : Small bs) (hr : Rd w B A (by_ bs)) (hm : m = 2) (hp : p + m ≤ n) (hq : q = 8 * p) :
    Calls Try.prog 35 #[.slice A n c, .int .i64 q, .int .i64 16] w fun e w' => e = .returned (.tuple #[.int .u64 (num ((bs.drop p).take m) : Nat), .int .i64 0]) ∧ w = w' := by
  subst hq
  subst hm
  have h := bits_yes A bs n c B (8 * p) 16 w hn hn9 hs hr (by omega) (by omega)
  have e := bnum_bytes bs hs p 2 (by omega)
  rw [show 8 * 2 = 16 from rfl] at e
  rw [e] at h
  exact h
theorem bits8_at (A : Option Addr) (bs : List Nat) (n c B p m q : Nat) (w : World) (hn : bs.length = n) (hn9 : n ≤ 140737488355328) (hs : Small bs) (hr : Rd w B A (by_ bs)) (hm : m = 1) (hp : p + m ≤ n) (hq : q = 8 * p) :
    Calls Try.prog 35 #[.slice A n c, .int .i64 q, .int .i64 8] w fun e w' => e = .returned (.tuple #[.int .u64 (num ((bs.drop p).take m) : Nat), .int .i64 0]) ∧ w = w' := by
  subst hq
  subst hm
  have h := bits_yes A bs n c B (8 * p) 8 w hn hn9 hs hr (by omega) (by omega)
  have e := bnum_bytes bs hs p 1 (by omega)
  rw [show 8 * 1 = 8 from rfl] at e
  rw [e] at h
  exact h

set_option maxRecDepth 100000 in
set_option maxHeartbeats 4000000 in
theorem walk_octetsBack (w : World) (A : Option Addr) (n c : Nat) (bs : List Nat) (h : IsNums .u8 256 w A n c bs) (hc : c ≤ 1048576) (Q : Option Addr) (nq cq : Nat) (ls : List Nat) (hq : IsNums .u64 18446744073709551616 w Q nq cq ls) (hcq : cq ≤ 1048576) :
    Calls Try.prog 7 #[.slice A n c, .slice Q nq cq] w fun e w' => e = .returned (.bool true) ∧ Below w.heap.size w w' := by
  obtain ⟨hn, hnc, hs, hr⟩ := h.bytes
  obtain ⟨hnq, hncq, hxl, hrq⟩ := hq
  have HN := Lib.hid hn
  have HNQ := Lib.hid hnq
  have HXL := Lib.hid hxl
  clear hn hnq hxl h
  obtain ⟨i0, hi0, hz0, hz1, hz2⟩ := info_parts int_info
  have n1 : n ≤ 1048576 := by omega
  have n2 : nq ≤ 1048576 := by omega
  go_enter Try.func7, Try.ntmps7
  go_wp2_with fail
  refine (works_any _).mono ?_
  rintro e w1 ⟨rfl, b1⟩
  have r1 := hr.below b1
  have rq1 := hrq.below b1
  go_wp2_with fail
  go_loopw [5, 6, 7] (fun o p i wr => ∃ k : Nat, k ≤ nq ∧ k ≤ 40 ∧ i = .int .i64 k ∧ wr.ownsRow w.heap.size 3 1 p k (pls n ls k) ∧
      (∃ A' N c', o = .slice A' N c' ∧ N = n + (encs ls k).length ∧ N ≤ c' ∧ c' ≤ 1048576 + 8 * k ∧ Out wr w.heap.size A' (bs ++ encs ls k)) ∧ Below w.heap.size w wr) (fun _ _ i _ => 40 - (intOf i).toNat)
  case atStart => exact ⟨0, Nat.zero_le _, Nat.zero_le _, rfl, World.ownsRow_nil _ _ _ _, ⟨A, n, c, rfl, by simp [encs], hnc, by omega, .inl (by simpa [encs] using r1)⟩, b1⟩
  case round =>
    obtain ⟨k, hk, hk40, rfl, ho, ⟨A', N, c', rfl, hN, hNc, hc9, hout⟩, hb⟩ := hrel
    have hle := encs_le ls k
    by_cases hlt : k < nq ∧ k < 40
    · obtain ⟨hl1, hl2⟩ := hlt
      have hx := getq (bs := ls) (k := k) (by rw [HNQ.out]; exact hl1)
      have hx64 := HXL.out _ (List.mem_of_getElem? hx)
      obtain ⟨b, ob, rfl, hbb, hcell0⟩ := nu_cell (hrq.below hb) hx
      have e1 : encs ls (k + 1) = encs ls k ++ be (wd k) (ls.getD k 0 % 256 ^ wd k) := rfl
      have e2 := encs_len ls k
      have d1 : decide ((k : Int) < (nq : Int)) = true := by simp; omega
      have d2 : decide (k < nq) = true := by simp; omega
      have d3 : (k : Int) < 40 := by omega
      have k0 : (0 : Int) ≤ (k : Int) := by omega
      have hz := hb.size
      have hlen : (bs ++ encs ls k).length = N := by rw [List.length_append, HN.out, hN]
      have hN2 : N ≤ 2097152 := by omega
      have HLEN := Lib.hid hlen
      have HE1 := Lib.hid e1
      have HE2 := Lib.hid e2
      have HNN := Lib.hid hN
      have hck : ∀ (o' : Obj) (W : World), (wr.alloc o').grownBy W u6.ownBlock → W.cell? ⟨b, ob + k, none⟩ = some (.int .u64 ((ls.getD k 0 : Nat) : Int)) := fun o' W hg =>
        ((app_below (hb.alloc hz _) (ho.alloc _) hg (by simp; omega)).cell (p := ⟨b, ob + k, none⟩) (by show b < _; omega)).trans (((hb.cell (p := ⟨b, ob + k, none⟩) (by show b < _; omega)).symm).trans hcell0)
      have HCK := Lib.hid hck
      clear hck hcell0
      have hplit := (Blk.new wr 3 #[.int .i64 (N : Int)]).rd
      have h1c : ∀ u ∈ [Value.int .i64 (N : Int)], u.oneCell' = true := by intro u hu; simp at hu; subst hu; rfl
      have hpp := pls_succ n ls k
      rw [← hN] at hpp
      have HPP := Lib.hid hpp
      clear hlen e1 e2 hN hx hpp hle
      generalize ls.getD k 0 = x at *
      rcases (by omega : k % 4 = 0 ∨ k % 4 = 1 ∨ k % 4 = 2 ∨ k % 4 = 3) with hm4 | hm4 | hm4 | hm4
      · have t0 : ((k : Int) % 4 == 0) = true := beq_iff_eq.2 (by omega)
        have hw : wd k = 8 := by unfold wd; rw [if_pos hm4]
        obtain ⟨y, hy⟩ : ∃ y, x % 256 ^ wd k = y := ⟨_, rfl⟩
        have hy2 : x % 18446744073709551616 = y := by rw [← hy, hw]
        have y1 : y < 18446744073709551616 := by omega
        have cv : (x : Int) = (y : Int) := by omega
        have HW := Lib.hid hw
        have HY := Lib.hid hy
        clear hy hy2 hm4 hw
        go_wp2_with (at_builtin; refine wpList_app rfl _ _ 34 rfl w.heap.size 3 i0 _ 8 Try.underlying34 hi0 hz0 hz1 hz2 rfl _ k (pls n ls k) rfl (ho.alloc _) (wr.heap.size + 1) (some ⟨wr.heap.size, 0, none⟩) 1 1 [.int .i64 (N : Int)] rfl hplit rfl h1c (by omega) (by omega) (by simp; omega) ?_; intro v3 w3 hown3 hg3 hat3; have c3 := HCK.out _ _ hg3)
        have hb3 := app_below (hb.alloc hz _) (ho.alloc _) hg3 (by simp; omega)
        have hz3 := hb3.size
        have out3 := (hout.alloc hz _).grown (by simp; omega) (ho.alloc _) (by decide) hg3
        have ho3 : w3.ownsRow w.heap.size 3 1 v3 (k + 1) (pls n ls (k + 1)) := by rw [HPP.out]; exact hown3
        have hput := put64_any A' (bs ++ encs ls k) N c' w3.heap.size y w3 HLEN.out (by omega) y1 (out3.rd hz3) (Nat.le_refl _)
        have HPUT := Lib.hid hput
        clear hput hown3 hg3 hat3 hplit h1c ho hout
        refine HPUT.out.mono ?_
        rintro e w4 ⟨rfl, hb4, b4⟩
        have out4 : Out w4 w.heap.size (some ⟨w3.heap.size, 0, none⟩) (bs ++ encs ls (k + 1)) := .inr ⟨w3.heap.size, rfl, by rw [HE1.out, HW.out, ← List.append_assoc]; have := HY.out; rw [HW.out] at this; rw [this]; exact hb4⟩
        have ho4 : w4.ownsRow w.heap.size 3 1 v3 (k + 1) (pls n ls (k + 1)) := own_below ho3 b4
        have hb5 : Below w.heap.size w w4 := hb3.trans (b4.mono hz3)
        clear hb4 b4 HPUT ho3 out3 c3
        go_wp2_with fail
        go_roundw
        case rel => exact ⟨k + 1, by omega, by omega, by go_num, ho4, ⟨_, _, _, rfl, by rw [HNN.out, HE2.out, HW.out]; omega, by omega, by omega, out4⟩, hb5⟩
        case measure => simp [intOf]; omega
      · have t0 : ((k : Int) % 4 == 0) = false := beq_eq_false_iff_ne.2 (by omega)
        have t1 : ((k : Int) % 4 == 1) = true := beq_iff_eq.2 (by omega)
        have hw : wd k = 4 := by unfold wd; rw [if_neg (by omega), if_pos hm4]
        obtain ⟨y, hy⟩ : ∃ y, x % 256 ^ wd k = y := ⟨_, rfl⟩
        have hy2 : x % 4294967296 = y := by rw [← hy, hw]
        have y1 : y < 4294967296 := by omega
        have cv : IntKind.u32.wrap (x : Int) = (y : Int) := by rw [IntKind.wrap_u32]; omega
        have cv2 : (x : Int) % 4294967296 = (y : Int) := by omega
        have HW := Lib.hid hw
        have HY := Lib.hid hy
        clear hy hy2 hm4 hw
        go_wp2_with (at_builtin; refine wpList_app rfl _ _ 34 rfl w.heap.size 3 i0 _ 8 Try.underlying34 hi0 hz0 hz1 hz2 rfl _ k (pls n ls k) rfl (ho.alloc _) (wr.heap.size + 1) (some ⟨wr.heap.size, 0, none⟩) 1 1 [.int .i64 (N : Int)] rfl hplit rfl h1c (by omega) (by omega) (by simp; omega) ?_; intro v3 w3 hown3 hg3 hat3; have c3 := HCK.out _ _ hg3)
        have hb3 := app_below (hb.alloc hz _) (ho.alloc _) hg3 (by simp; omega)
        have hz3 := hb3.size
        have out3 := (hout.alloc hz _).grown (by simp; omega) (ho.alloc _) (by decide) hg3
        have ho3 : w3.ownsRow w.heap.size 3 1 v3 (k + 1) (pls n ls (k + 1)) := by rw [HPP.out]; exact hown3
        have hput := put32_any A' (bs ++ encs ls k) N c' w3.heap.size y w3 HLEN.out (by omega) y1 (out3.rd hz3) (Nat.le_refl _)
        have HPUT := Lib.hid hput
        clear hput hown3 hg3 hat3 hplit h1c ho hout
        refine HPUT.out.mono ?_
        rintro e w4 ⟨rfl, hb4, b4⟩
        have out4 : Out w4 w.heap.size (some ⟨w3.heap.size, 0, none⟩) (bs ++ encs ls (k + 1)) := .inr ⟨w3.heap.size, rfl, by rw [HE1.out, HW.out, ← List.append_assoc]; have := HY.out; rw [HW.out] at this; rw [this]; exact hb4⟩
        have ho4 : w4.ownsRow w.heap.size 3 1 v3 (k + 1) (pls n ls (k + 1)) := own_below ho3 b4
        have hb5 : Below w.heap.size w w4 := hb3.trans (b4.mono hz3)
        clear hb4 b4 HPUT ho3 out3 c3
        go_wp2_with fail
        go_roundw
        case rel => exact ⟨k + 1, by omega, by omega, by go_num, ho4, ⟨_, _, _, rfl, by rw [HNN.out, HE2.out, HW.out]; omega, by omega, by omega, out4⟩, hb5⟩
        case measure => simp [intOf]; omega
      · have t0 : ((k : Int) % 4 == 0) = false := beq_eq_false_iff_ne.2 (by omega)
        have t1 : ((k : Int) % 4 == 1) = false := beq_eq_false_iff_ne.2 (by omega)
        have t2 : ((k : Int) % 4 == 2) = true := beq_iff_eq.2 (by omega)
        have hw : wd k = 2 := by unfold wd; rw [if_neg (by omega), if_neg (by omega), if_pos hm4]
        obtain ⟨y, hy⟩ : ∃ y, x % 256 ^ wd k = y := ⟨_, rfl⟩
        have hy2 : x % 65536 = y := by rw [← hy, hw]
        have y1 : y < 65536 := by omega
        have cv : IntKind.u16.wrap (x : Int) = (y : Int) := by rw [IntKind.wrap_u16]; omega
        have cv2 : (x : Int) % 65536 = (y : Int) := by omega
        have HW := Lib.hid hw
        have HY := Lib.hid hy
        clear hy hy2 hm4 hw
        go_wp2_with (at_builtin; refine wpList_app rfl _ _ 34 rfl w.heap.size 3 i0 _ 8 Try.underlying34 hi0 hz0 hz1 hz2 rfl _ k (pls n ls k) rfl (ho.alloc _) (wr.heap.size + 1) (some ⟨wr.heap.size, 0, none⟩) 1 1 [.int .i64 (N : Int)] rfl hplit rfl h1c (by omega) (by omega) (by simp; omega) ?_; intro v3 w3 hown3 hg3 hat3; have c3 := HCK.out _ _ hg3)
        have hb3 := app_below (hb.alloc hz _) (ho.alloc _) hg3 (by simp; omega)
        have hz3 := hb3.size
        have out3 := (hout.alloc hz _).grown (by simp; omega) (ho.alloc _) (by decide) hg3
        have ho3 : w3.ownsRow w.heap.size 3 1 v3 (k + 1) (pls n ls (k + 1)) := by rw [HPP.out]; exact hown3
        have hput := put16_any A' (bs ++ encs ls k) N c' w3.heap.size y w3 HLEN.out (by omega) y1 (out3.rd hz3) (Nat.le_refl _)
        have HPUT := Lib.hid hput
        clear hput hown3 hg3 hat3 hplit h1c ho hout
        refine HPUT.out.mono ?_
        rintro e w4 ⟨rfl, hb4, b4⟩
        have out4 : Out w4 w.heap.size (some ⟨w3.heap.size, 0, none⟩) (bs ++ encs ls (k + 1)) := .inr ⟨w3.heap.size, rfl, by rw [HE1.out, HW.out, ← List.append_assoc]; have := HY.out; rw [HW.out] at this; rw [this]; exact hb4⟩
        have ho4 : w4.ownsRow w.heap.size 3 1 v3 (k + 1) (pls n ls (k + 1)) := own_below ho3 b4
        have hb5 : Below w.heap.size w w4 := hb3.trans (b4.mono hz3)
        clear hb4 b4 HPUT ho3 out3 c3
        go_wp2_with fail
        go_roundw
        case rel => exact ⟨k + 1, by omega, by omega, by go_num, ho4, ⟨_, _, _, rfl, by rw [HNN.out, HE2.out, HW.out]; omega, by omega, by omega, out4⟩, hb5⟩
        case measure => simp [intOf]; omega
      · have t0 : ((k : Int) % 4 == 0) = false := beq_eq_false_iff_ne.2 (by omega)
        have t1 : ((k : Int) % 4 == 1) = false := beq_eq_false_iff_ne.2 (by omega)
        have t2 : ((k : Int) % 4 == 2) = false := beq_eq_false_iff_ne.2 (by omega)
        have hw : wd k = 1 := by unfold wd; rw [if_neg (by omega), if_neg (by omega), if_neg (by omega)]
        obtain ⟨y, hy⟩ : ∃ y, x % 256 ^ wd k = y := ⟨_, rfl⟩
        have hy2 : x % 256 = y := by rw [← hy, hw]
        have y1 : y < 256 := by omega
        have cv : IntKind.u8.wrap (x : Int) = (y : Int) := by rw [IntKind.wrap_u8']; omega
        have cv2 : (x : Int) % 256 = (y : Int) := by omega
        have HW := Lib.hid hw
        have HY := Lib.hid hy
        clear hy hy2 hm4 hw
        go_wp2_with (at_builtin; refine wpList_app rfl _ _ 34 rfl w.heap.size 3 i0 _ 8 Try.underlying34 hi0 hz0 hz1 hz2 rfl _ k (pls n ls k) rfl (ho.alloc _) (wr.heap.size + 1) (some ⟨wr.heap.size, 0, none⟩) 1 1 [.int .i64 (N : Int)] rfl hplit rfl h1c (by omega) (by omega) (by simp; omega) ?_; intro v3 w3 hown3 hg3 hat3; have c3 := HCK.out _ _ hg3)
        have hb3 := app_below (hb.alloc hz _) (ho.alloc _) hg3 (by simp; omega)
        have hz3 := hb3.size
        have out3 := (hout.alloc hz _).grown (by simp; omega) (ho.alloc _) (by decide) hg3
        have ho3 : w3.ownsRow w.heap.size 3 1 v3 (k + 1) (pls n ls (k + 1)) := by rw [HPP.out]; exact hown3
        have hput := put8_any A' (bs ++ encs ls k) N c' w3.heap.size y w3 HLEN.out (by omega) y1 (out3.rd hz3) (Nat.le_refl _)
        have HPUT := Lib.hid hput
        clear hput hown3 hg3 hat3 hplit h1c ho hout
        refine HPUT.out.mono ?_
        rintro e w4 ⟨rfl, hb4, b4⟩
        have out4 : Out w4 w.heap.size (some ⟨w3.heap.size, 0, none⟩) (bs ++ encs ls (k + 1)) := .inr ⟨w3.heap.size, rfl, by rw [HE1.out, HW.out, ← List.append_assoc]; have := HY.out; rw [HW.out] at this; rw [this]; exact hb4⟩
        have ho4 : w4.ownsRow w.heap.size 3 1 v3 (k + 1) (pls n ls (k + 1)) := own_below ho3 b4
        have hb5 : Below w.heap.size w w4 := hb3.trans (b4.mono hz3)
        clear hb4 b4 HPUT ho3 out3 c3
        go_wp2_with fail
        go_roundw
        case rel => exact ⟨k + 1, by omega, by omega, by go_num, ho4, ⟨_, _, _, rfl, by rw [HNN.out, HE2.out, HW.out]; omega, by omega, by omega, out4⟩, hb5⟩
        case measure => simp [intOf]; omega
    · by_cases hkn : k < nq
      · have d2 : decide (k < nq) = true := by simp; omega
        have d1 : decide ((k : Int) < (nq : Int)) = true := by simp; omega
        have d3 : ¬ ((k : Int) < 40) := by omega
        have hz := hb.size
        have hlen : (bs ++ encs ls k).length = N := by rw [List.length_append, HN.out, hN]
        have sacc : Small (bs ++ encs ls k) := hs.append (encs_small ls k)
        have hord := hout.rd hz
        have hN2 : N ≤ 2097152 := by omega
        have hnN : n ≤ N := by omega
        have HLEN := Lib.hid hlen
        obtain ⟨Ap, cp, rfl, hrp⟩ := own_rd ho
        have hnums := fun (j : Nat) (hj : j < k) => num_at bs ls hj
        have hfits := fun (j : Nat) (hj : j < k) => encs_fits bs ls hj
        have HNUM := Lib.hid hnums
        have HFIT := Lib.hid hfits
        have htake : (bs ++ encs ls k).take n = bs := by rw [List.take_append_of_le_length (by rw [HN.out]; exact Nat.le_refl _), List.take_of_length_le (by rw [HN.out]; exact Nat.le_refl _)]
        have hrb := rd_take hord n
        rw [htake] at hrb
        have hsame := same_yes A' A bs n c' c wr.heap.size w.heap.size wr HN.out (by omega) hrb (hr.below hb)
        have HSAME := Lib.hid hsame
        clear hnums hfits htake hrb hsame hlen ho hout hN
        generalize hacc : bs ++ encs ls k = acc at *
        clear hacc
        go_wp2_with fail
        go_loop [8] (fun i => ∃ j : Nat, j ≤ k ∧ i = .int .i64 j) (fun i => k - (intOf i).toNat)
        case atStart => exact ⟨0, Nat.zero_le _, rfl⟩
        case round =>
          obtain ⟨j, hj, rfl⟩ := hrel
          by_cases hltj : j < k
          · have hx := getq (bs := ls) (k := j) (by rw [HNQ.out]; omega)
            have hx64 := HXL.out _ (List.mem_of_getElem? hx)
            obtain ⟨b, ob, rfl, hbb, hcell0⟩ := nu_cell (hrq.below hb) hx
            obtain ⟨bp, op, rfl, hbp, hcp⟩ := hrp j _ (pls_at n ls hltj)
            have hnum := HNUM.out j hltj
            have hfit := HFIT.out j hltj
            rw [HLEN.out] at hfit
            rw [HN.out] at hnum hfit
            have ple := encs_le ls j
            have j0 : (0 : Int) ≤ (j : Int) := by omega
            have j1 : (j : Int) < (nq : Int) := by omega
            have j2 : (j : Int) < (k : Int) := by omega
            clear hx
            generalize ls.getD j 0 = x at *
            obtain ⟨p, hp⟩ : ∃ p, n + (encs ls j).length = p := ⟨_, rfl⟩
            rw [hp] at hnum hfit hcp
            have p9 : p ≤ 1048576 + 320 := by omega
            clear hp ple
            obtain ⟨q, hq8⟩ : ∃ q, q = 8 * p := ⟨_, rfl⟩
            have eq8 : 8 * (p : Int) = (q : Int) := by omega
            have HQ8 := Lib.hid hq8
            clear hq8
            rcases (by omega : j % 4 = 0 ∨ j % 4 = 1 ∨ j % 4 = 2 ∨ j % 4 = 3) with hm4 | hm4 | hm4 | hm4
            · have t0 : ((j : Int) % 4 == 0) = true := beq_iff_eq.2 (by omega)
              have hw : wd j = 8 := by unfold wd; rw [if_pos hm4]
              rw [hw] at hnum hfit
              obtain ⟨y, hy⟩ : ∃ y, x % 18446744073709551616 = y := ⟨_, rfl⟩
              have hnum2 : num ((acc.drop p).take 8) = y := by rw [hnum, ← hy]
              have y1 : y < 18446744073709551616 := by omega
              have cv : (x : Int) = (y : Int) := by omega
              have htk := take64_yes A' acc N c' wr.heap.size p wr HLEN.out (by omega) hNc (by omega) sacc hord hfit
              have hbt := bits64_at A' acc N c' wr.heap.size p 8 q wr HLEN.out (by omega) sacc hord rfl hfit HQ8.out
              rw [hnum2] at htk hbt
              have HTK := Lib.hid htk
              have HBT := Lib.hid hbt
              clear htk hbt hnum hnum2 hy hm4 hw
              go_wp2_with fail
              refine HTK.out.mono ?_
              rintro e w' ⟨rfl, rfl⟩
              go_wp2_with fail
              refine HBT.out.mono ?_
              rintro e w' ⟨rfl, rfl⟩
              go_wp2_with fail
              go_round
              case rel => exact ⟨j + 1, by omega, by go_num⟩
              case measure => simp [intOf]; omega
            · have t0 : ((j : Int) % 4 == 0) = false := beq_eq_false_iff_ne.2 (by omega)
              have t1 : ((j : Int) % 4 == 1) = true := beq_iff_eq.2 (by omega)
              have hw : wd j = 4 := by unfold wd; rw [if_neg (by omega), if_pos hm4]
              rw [hw] at hnum hfit
              obtain ⟨y, hy⟩ : ∃ y, x % 4294967296 = y := ⟨_, rfl⟩
              have hnum2 : num ((acc.drop p).take 4) = y := by rw [hnum, ← hy]
              have y1 : y < 4294967296 := by omega
              have cv2 : (x : Int) % 4294967296 = (y : Int) := by omega
              have htk := take32_yes A' acc N c' wr.heap.size p wr HLEN.out (by omega) hNc (by omega) sacc hord hfit
              have hbt := bits32_at A' acc N c' wr.heap.size p 4 q wr HLEN.out (by omega) sacc hord rfl hfit HQ8.out
              rw [hnum2] at htk hbt
              have HTK := Lib.hid htk
              have HBT := Lib.hid hbt
              clear htk hbt hnum hnum2 hy hm4 hw
              go_wp2_with fail
              refine HTK.out.mono ?_
              rintro e w' ⟨rfl, rfl⟩
              go_wp2_with fail
              refine HBT.out.mono ?_
              rintro e w' ⟨rfl, rfl⟩
              go_wp2_with fail
              go_round
              case rel => exact ⟨j + 1, by omega, by go_num⟩
              case measure => simp [intOf]; omega
            · have t0 : ((j : Int) % 4 == 0) = false := beq_eq_false_iff_ne.2 (by omega)
              have t1 : ((j : Int) % 4 == 1) = false := beq_eq_false_iff_ne.2 (by omega)
              have t2 : ((j : Int) % 4 == 2) = true := beq_iff_eq.2 (by omega)
              have hw : wd j = 2 := by unfold wd; rw [if_neg (by omega), if_neg (by omega), if_pos hm4]
              rw [hw] at hnum hfit
              obtain ⟨y, hy⟩ : ∃ y, x % 65536 = y := ⟨_, rfl⟩
              have hnum2 : num ((acc.drop p).take 2) = y := by rw [hnum, ← hy]
              have y1 : y < 65536 := by omega
              have cv2 : (x : Int) % 65536 = (y : Int) := by omega
              have htk := take16_yes A' acc N c' wr.heap.size p wr HLEN.out (by omega) hNc (by omega) sacc hord hfit
              have hbt := bits16_at A' acc N c' wr.heap.size p 2 q wr HLEN.out (by omega) sacc hord rfl hfit HQ8.out
              rw [hnum2] at htk hbt
              have HTK := Lib.hid htk
              have HBT := Lib.hid hbt
              clear htk hbt hnum hnum2 hy hm4 hw
              go_wp2_with fail
              refine HTK.out.mono ?_
              rintro e w' ⟨rfl, rfl⟩
              go_wp2_with fail
              refine HBT.out.mono ?_
              rintro e w' ⟨rfl, rfl⟩
              go_wp2_with fail
              go_round
              case rel => exact ⟨j + 1, by omega, by go_num⟩
              case measure => simp [intOf]; omega
            · have t0 : ((j : Int) % 4 == 0) = false := beq_eq_false_iff_ne.2 (by omega)
              have t1 : ((j : Int) % 4 == 1) = false := beq_eq_false_iff_ne.2 (by omega)
              have t2 : ((j : Int) % 4 == 2) = false := beq_eq_false_iff_ne.2 (by omega)
              have hw : wd j = 1 := by unfold wd; rw [if_neg (by omega), if_neg (by omega), if_neg (by omega)]
              rw [hw] at hnum hfit
              obtain ⟨y, hy⟩ : ∃ y, x % 256 = y := ⟨_, rfl⟩
              have hnum2 : num ((acc.drop p).take 1) = y := by rw [hnum, ← hy]
              have y1 : y < 256 := by omega
              have cv2 : (x : Int) % 256 = (y : Int) := by omega
              have htk := take8_yes A' acc N c' wr.heap.size p wr HLEN.out (by omega) hNc (by omega) sacc hord hfit
              have hbt := bits8_at A' acc N c' wr.heap.size p 1 q wr HLEN.out (by omega) sacc hord rfl hfit HQ8.out
              rw [hnum2] at htk hbt
              have HTK := Lib.hid htk
              have HBT := Lib.hid hbt
              clear htk hbt hnum hnum2 hy hm4 hw
              go_wp2_with fail
              refine HTK.out.mono ?_
              rintro e w' ⟨rfl, rfl⟩
              go_wp2_with fail
              refine HBT.out.mono ?_
              rintro e w' ⟨rfl, rfl⟩
              go_wp2_with fail
              go_round
              case rel => exact ⟨j + 1, by omega, by go_num⟩
              case measure => simp [intOf]; omega
          · have d7 : decide (n ≤ N) = true := by simp; omega
            have d8 : (n : Int) ≤ (N : Int) := by omega
            have s1 := cut_h A' N c' n (by omega)
            go_wp2_with fail
            refine HSAME.out.mono ?_
            rintro e w' ⟨rfl, d, hd⟩
            go_wp2_with fail
            go_ret
            exact ⟨rfl, by rw [← hd]; exact ⟨hb.os, hb.tape, hb.output, hb.size, hb.block⟩⟩
      · have d2 : decide (k < nq) = false := by simp; omega
        have d1 : decide ((k : Int) < (nq : Int)) = false := by simp; omega
        have hz := hb.size
        have hlen : (bs ++ encs ls k).length = N := by rw [List.length_append, HN.out, hN]
        have sacc : Small (bs ++ encs ls k) := hs.append (encs_small ls k)
        have hord := hout.rd hz
        have hN2 : N ≤ 2097152 := by omega
        have hnN : n ≤ N := by omega
        have HLEN := Lib.hid hlen
        obtain ⟨Ap, cp, rfl, hrp⟩ := own_rd ho
        have hnums := fun (j : Nat) (hj : j < k) => num_at bs ls hj
        have hfits := fun (j : Nat) (hj : j < k) => encs_fits bs ls hj
        have HNUM := Lib.hid hnums
        have HFIT := Lib.hid hfits
        have htake : (bs ++ encs ls k).take n = bs := by rw [List.take_append_of_le_length (by rw [HN.out]; exact Nat.le_refl _), List.take_of_length_le (by rw [HN.out]; exact Nat.le_refl _)]
        have hrb := rd_take hord n
        rw [htake] at hrb
        have hsame := same_yes A' A bs n c' c wr.heap.size w.heap.size wr HN.out (by omega) hrb (hr.below hb)
        have HSAME := Lib.hid hsame
        clear hnums hfits htake hrb hsame hlen ho hout hN
        generalize hacc : bs ++ encs ls k = acc at *
        clear hacc
        go_wp2_with fail
        go_loop [8] (fun i => ∃ j : Nat, j ≤ k ∧ i = .int .i64 j) (fun i => k - (intOf i).toNat)
        case atStart => exact ⟨0, Nat.zero_le _, rfl⟩
        case round =>
          obtain ⟨j, hj, rfl⟩ := hrel
          by_cases hltj : j < k
          · have hx := getq (bs := ls) (k := j) (by rw [HNQ.out]; omega)
            have hx64 := HXL.out _ (List.mem_of_getElem? hx)
            obtain ⟨b, ob, rfl, hbb, hcell0⟩ := nu_cell (hrq.below hb) hx
            obtain ⟨bp, op, rfl, hbp, hcp⟩ := hrp j _ (pls_at n ls hltj)
            have hnum := HNUM.out j hltj
            have hfit := HFIT.out j hltj
            rw [HLEN.out] at hfit
            rw [HN.out] at hnum hfit
            have ple := encs_le ls j
            have j0 : (0 : Int) ≤ (j : Int) := by omega
            have j1 : (j : Int) < (nq : Int) := by omega
            have j2 : (j : Int) < (k : Int) := by omega
            clear hx
            generalize ls.getD j 0 = x at *
            obtain ⟨p, hp⟩ : ∃ p, n + (encs ls j).length = p := ⟨_, rfl⟩
            rw [hp] at hnum hfit hcp
            have p9 : p ≤ 1048576 + 320 := by omega
            clear hp ple
            obtain ⟨q, hq8⟩ : ∃ q, q = 8 * p := ⟨_, rfl⟩
            have eq8 : 8 * (p : Int) = (q : Int) := by omega
            have HQ8 := Lib.hid hq8
            clear hq8
            rcases (by omega : j % 4 = 0 ∨ j % 4 = 1 ∨ j % 4 = 2 ∨ j % 4 = 3) with hm4 | hm4 | hm4 | hm4
            · have t0 : ((j : Int) % 4 == 0) = true := beq_iff_eq.2 (by omega)
              have hw : wd j = 8 := by unfold wd; rw [if_pos hm4]
              rw [hw] at hnum hfit
              obtain ⟨y, hy⟩ : ∃ y, x % 18446744073709551616 = y := ⟨_, rfl⟩
              have hnum2 : num ((acc.drop p).take 8) = y := by rw [hnum, ← hy]
              have y1 : y < 18446744073709551616 := by omega
              have cv : (x : Int) = (y : Int) := by omega
              have htk := take64_yes A' acc N c' wr.heap.size p wr HLEN.out (by omega) hNc (by omega) sacc hord hfit
              have hbt := bits64_at A' acc N c' wr.heap.size p 8 q wr HLEN.out (by omega) sacc hord rfl hfit HQ8.out
              rw [hnum2] at htk hbt
              have HTK := Lib.hid htk
              have HBT := Lib.hid hbt
              clear htk hbt hnum hnum2 hy hm4 hw
              go_wp2_with fail
              refine HTK.out.mono ?_
              rintro e w' ⟨rfl, rfl⟩
              go_wp2_with fail
              refine HBT.out.mono ?_
              rintro e w' ⟨rfl, rfl⟩
              go_wp2_with fail
              go_round
              case rel => exact ⟨j + 1, by omega, by go_num⟩
              case measure => simp [intOf]; omega
            · have t0 : ((j : Int) % 4 == 0) = false := beq_eq_false_iff_ne.2 (by omega)
              have t1 : ((j : Int) % 4 == 1) = true := beq_iff_eq.2 (by omega)
              have hw : wd j = 4 := by unfold wd; rw [if_neg (by omega), if_pos hm4]
              rw [hw] at hnum hfit
              obtain ⟨y, hy⟩ : ∃ y, x % 4294967296 = y := ⟨_, rfl⟩
              have hnum2 : num ((acc.drop p).take 4) = y := by rw [hnum, ← hy]
              have y1 : y < 4294967296 := by omega
              have cv2 : (x : Int) % 4294967296 = (y : Int) := by omega
              have htk := take32_yes A' acc N c' wr.heap.size p wr HLEN.out (by omega) hNc (by omega) sacc hord hfit
              have hbt := bits32_at A' acc N c' wr.heap.size p 4 q wr HLEN.out (by omega) sacc hord rfl hfit HQ8.out
              rw [hnum2] at htk hbt
              have HTK := Lib.hid htk
              have HBT := Lib.hid hbt
              clear htk hbt hnum hnum2 hy hm4 hw
              go_wp2_with fail
              refine HTK.out.mono ?_
              rintro e w' ⟨rfl, rfl⟩
              go_wp2_with fail
              refine HBT.out.mono ?_
              rintro e w' ⟨rfl, rfl⟩
              go_wp2_with fail
              go_round
              case rel => exact ⟨j + 1, by omega, by go_num⟩
              case measure => simp [intOf]; omega
            · have t0 : ((j : Int) % 4 == 0) = false := beq_eq_false_iff_ne.2 (by omega)
              have t1 : ((j : Int) % 4 == 1) = false := beq_eq_false_iff_ne.2 (by omega)
              have t2 : ((j : Int) % 4 == 2) = true := beq_iff_eq.2 (by omega)
              have hw : wd j = 2 := by unfold wd; rw [if_neg (by omega), if_neg (by omega), if_pos hm4]
              rw [hw] at hnum hfit
              obtain ⟨y, hy⟩ : ∃ y, x % 65536 = y := ⟨_, rfl⟩
              have hnum2 : num ((acc.drop p).take 2) = y := by rw [hnum, ← hy]
              have y1 : y < 65536 := by omega
              have cv2 : (x : Int) % 65536 = (y : Int) := by omega
              have htk := take16_yes A' acc N c' wr.heap.size p wr HLEN.out (by omega) hNc (by omega) sacc hord hfit
              have hbt := bits16_at A' acc N c' wr.heap.size p 2 q wr HLEN.out (by omega) sacc hord rfl hfit HQ8.out
              rw [hnum2] at htk hbt
              have HTK := Lib.hid htk
              have HBT := Lib.hid hbt
              clear htk hbt hnum hnum2 hy hm4 hw
              go_wp2_with fail
              refine HTK.out.mono ?_
              rintro e w' ⟨rfl, rfl⟩
              go_wp2_with fail
              refine HBT.out.mono ?_
              rintro e w' ⟨rfl, rfl⟩
              go_wp2_with fail
              go_round
              case rel => exact ⟨j + 1, by omega, by go_num⟩
              case measure => simp [intOf]; omega
            · have t0 : ((j : Int) % 4 == 0) = false := beq_eq_false_iff_ne.2 (by omega)
              have t1 : ((j : Int) % 4 == 1) = false := beq_eq_false_iff_ne.2 (by omega)
              have t2 : ((j : Int) % 4 == 2) = false := beq_eq_false_iff_ne.2 (by omega)
              have hw : wd j = 1 := by unfold wd; rw [if_neg (by omega), if_neg (by omega), if_neg (by omega)]
              rw [hw] at hnum hfit
              obtain ⟨y, hy⟩ : ∃ y, x % 256 = y := ⟨_, rfl⟩
              have hnum2 : num ((acc.drop p).take 1) = y := by rw [hnum, ← hy]
              have y1 : y < 256 := by omega
              have cv2 : (x : Int) % 256 = (y : Int) := by omega
              have htk := take8_yes A' acc N c' wr.heap.size p wr HLEN.out (by omega) hNc (by omega) sacc hord hfit
              have hbt := bits8_at A' acc N c' wr.heap.size p 1 q wr HLEN.out (by omega) sacc hord rfl hfit HQ8.out
              rw [hnum2] at htk hbt
              have HTK := Lib.hid htk
              have HBT := Lib.hid hbt
              clear htk hbt hnum hnum2 hy hm4 hw
              go_wp2_with fail
              refine HTK.out.mono ?_
              rintro e w' ⟨rfl, rfl⟩
              go_wp2_with fail
              refine HBT.out.mono ?_
              rintro e w' ⟨rfl, rfl⟩
              go_wp2_with fail
              go_round
              case rel => exact ⟨j + 1, by omega, by go_num⟩
              case measure => simp [intOf]; omega
          · have d7 : decide (n ≤ N) = true := by simp; omega
            have d8 : (n : Int) ≤ (N : Int) := by omega
            have s1 := cut_h A' N c' n (by omega)
            go_wp2_with fail
            refine HSAME.out.mono ?_
            rintro e w' ⟨rfl, d, hd⟩
            go_wp2_with fail
            go_ret
            exact ⟨rfl, by rw [← hd]; exact ⟨hb.os, hb.tape, hb.output, hb.size, hb.block⟩⟩
end Go.Proofs.Ytbnkmfmbbbcogaa.oc
