/-
  The law OctetsCommon, walked.
-/
import Derived.Test.YtbnkmfmbbbcogaaOcCommon
import Derived.Test.YtbnkmfmbbbcogaaOcBits
import Derived.Test.YtbnkmfmbbbcogaaOcWorks
import Derived.Test.YtbnkmfmbbbcogaaOcOpen
namespace Go.Proofs.Ytbnkmfmbbbcogaa.oc
open Go.RowKit

theorem bel_drewN {B : Nat} {a w : World} (h : Below B a w) (n : Nat) : Below B a (w.drewN n) := ⟨h.os, h.tape, h.output, h.size, h.block⟩
theorem bit1_yes (A : Option Addr) (bs : List Nat) (n c B p : Nat) (w : World) (hn : bs.length = n) (hn9 : n ≤ 140737488355328) (hs : Small bs) (hr : Rd w B A (by_ bs)) (hp : p < 8 * n) :
    Calls Try.prog 35 #[.slice A n c, .int .i64 p, .int .i64 1] w fun e w' => e = .returned (.tuple #[.int .u64 (bitAt bs p : Nat), .int .i64 0]) ∧ w = w' := by
  have h := bits_yes A bs n c B p 1 w hn hn9 hs hr (by omega) (by omega)
  have e : bnum bs p 1 = bitAt bs p := by simp [bnum]
  rw [e] at h
  exact h
theorem bit1_no (A : Option Addr) (n c p : Nat) (w : World) (hn9 : n ≤ 140737488355328) (hp : 8 * n ≤ p) :
    Calls Try.prog 35 #[.slice A n c, .int .i64 p, .int .i64 1] w fun e w' => e = .returned (.tuple #[.int .u64 0, .int .i64 5]) ∧ w = w' :=
  bits_range A n c p 1 w hn9 (by omega) (by omega) (by omega)

set_option maxHeartbeats 1000000 in
theorem walk_octetsCommon (w : World) (A : Option Addr) (n c : Nat) (xs : List Nat) (hx : IsNums .u8 256 w A n c xs) (hc : c ≤ 140737488351232) (A' : Option Addr) (n' c' : Nat) (ys : List Nat) (hy : IsNums .u8 256 w A' n' c' ys) (hc' : c' ≤ 140737488351232)
    (A'' : Option Addr) (n'' c'' : Nat) (zs : List Nat) (hz : IsNums .u8 256 w A'' n'' c'' zs) (hc'' : c'' ≤ 140737488351232) :
    Calls Try.prog 10 #[.slice A n c, .slice A' n' c', .slice A'' n'' c''] w fun e w' => e = .returned (.bool true) ∧ Below w.heap.size w w' := by
  obtain ⟨l1, g1, s1, r1⟩ := hx.bytes
  obtain ⟨l2, g2, s2, r2⟩ := hy.bytes
  obtain ⟨l3, g3, s3, r3⟩ := hz.bytes
  clear hx hy hz
  have n1 : n ≤ 140737488355328 := by omega
  have n2 : n' ≤ 140737488355328 := by omega
  have n3 : n'' ≤ 140737488355328 := by omega
  have htri := cmn_tri xs ys zs s1 s2 s3
  obtain ⟨q1, q2, q3⟩ := cmn_says xs ys s1 s2
  rw [l1, l2] at q1 q3
  have Q2 := Lib.hid q2
  have Q3 := Lib.hid q3
  have L1 := Lib.hid l1
  have L2 := Lib.hid l2
  have L3 := Lib.hid l3
  clear q2 q3 l1 l2 l3
  have hsw := fun W (h : Below w.heap.size w W) => cmn_comm ys xs ▸ common_any A' A ys xs n' n c' c _ _ W L2.out L1.out n2 n1 s2 s1 (r2.below h) (r1.below h)
  have HSW := Lib.hid hsw
  clear hsw
  have h12 := fun W (h : Below w.heap.size w W) => common_any A A' xs ys n n' c c' _ _ W L1.out L2.out n1 n2 s1 s2 (r1.below h) (r2.below h)
  have H12 := Lib.hid h12
  clear h12
  have h23 := fun W (h : Below w.heap.size w W) => common_any A' A'' ys zs n' n'' c' c'' _ _ W L2.out L3.out n2 n3 s2 s3 (r2.below h) (r3.below h)
  have H23 := Lib.hid h23
  clear h23
  have h13 := fun W (h : Below w.heap.size w W) => common_any A A'' xs zs n n'' c c'' _ _ W L1.out L3.out n1 n3 s1 s3 (r1.below h) (r3.below h)
  have H13 := Lib.hid h13
  clear h13
  have h1 := fun W (h : Below w.heap.size w W) i hi => bit1_yes A xs n c _ i W L1.out n1 s1 (r1.below h) hi
  have H1 := Lib.hid h1
  clear h1
  have h2 := fun W (h : Below w.heap.size w W) i hi => bit1_yes A' ys n' c' _ i W L2.out n2 s2 (r2.below h) hi
  have H2 := Lib.hid h2
  clear h2
  clear r1 r2 r3 s1 s2 s3
  generalize cmn xs ys = p at *
  generalize cmn ys zs = q at *
  generalize cmn xs zs = r at *
  go_enter Try.func10, Try.ntmps10
  go_wp2_with fail
  refine (works_any _).mono ?_
  rintro e w1 ⟨rfl, b1⟩
  go_wp2_with fail
  refine (H12.out _ b1).mono ?_
  rintro e w2 ⟨rfl, d2, rfl⟩
  go_wp2_with fail
  refine (H23.out _ (bel_drewN b1 _)).mono ?_
  rintro e w3 ⟨rfl, d3, rfl⟩
  go_wp2_with fail
  refine (H13.out _ (bel_drewN b1 _)).mono ?_
  rintro e w4 ⟨rfl, d4, rfl⟩
  go_wp2_with fail
  refine (HSW.out _ (bel_drewN b1 _)).mono ?_
  rintro e w5 ⟨rfl, d5, rfl⟩
  clear HSW H12 H23 H13
  have b5 := bel_drewN b1 (d2 + d3 + d4 + d5)
  have t1 : ¬ ((r : Int) < min (p : Int) (q : Int)) := by omega
  have t2 : ¬ (8 * min (n : Int) (n' : Int) < (p : Int)) := by omega
  have u1 := fun i => bitAt_lt xs i
  have U1 := Lib.hid u1
  have u2 := fun i => bitAt_lt ys i
  have U2 := Lib.hid u2
  clear u1 u2
  go_wp2_with fail
  go_loop [10] (fun i => ∃ k : Nat, k ≤ p ∧ i = .int .i64 k) (fun i => p - (intOf i).toNat)
  case atStart => exact ⟨0, Nat.zero_le _, rfl⟩
  case round =>
    obtain ⟨k, hk, rfl⟩ := hrel
    by_cases hlt : k < p
    · have hq := Q2.out k hlt
      have c1 := H1.out _ b5 k (by omega)
      have c2 := H2.out _ b5 k (by omega)
      rw [← hq] at c2
      have v1 := U1.out k
      clear hq
      generalize bitAt xs k = x at *
      have C1 := Lib.hid c1
      have C2 := Lib.hid c2
      clear c1 c2
      go_wp2_with fail
      refine C1.out.mono ?_
      rintro e w' ⟨rfl, rfl⟩
      go_wp2_with fail
      refine C2.out.mono ?_
      rintro e w' ⟨rfl, rfl⟩
      go_wp2_with fail
      go_round
      case rel => exact ⟨k + 1, by omega, by go_num⟩
      case measure => simp [intOf]; omega
    · have hk' : k = p := by omega
      subst hk'
      by_cases e1 : k < 8 * n
      · by_cases e2 : k < 8 * n'
        · have hne := Q3.out (by omega)
          have c1 := H1.out _ b5 k e1
          have c2 := H2.out _ b5 k e2
          have v1 := U1.out k
          have v2 := U2.out k
          generalize bitAt xs k = x at *
          generalize bitAt ys k = y at *
          have C1 := Lib.hid c1
          have C2 := Lib.hid c2
          have hb : ((x : Int) != (y : Int)) = true := by rw [bne_iff_ne]; omega
          clear c1 c2 hne
          go_wp2_with fail
          refine C1.out.mono ?_
          rintro e w' ⟨rfl, rfl⟩
          go_wp2_with fail
          refine C2.out.mono ?_
          rintro e w' ⟨rfl, rfl⟩
          go_wp2_with fail
          go_ret
          exact ⟨rfl, b5⟩
        · have c1 := H1.out _ b5 k e1
          have c2 := bit1_no A' n' c' k (w1.drewN (d2 + d3 + d4 + d5)) n2 (by omega)
          have v1 := U1.out k
          generalize bitAt xs k = x at *
          have C1 := Lib.hid c1
          have C2 := Lib.hid c2
          clear c1 c2
          go_wp2_with fail
          refine C1.out.mono ?_
          rintro e w' ⟨rfl, rfl⟩
          go_wp2_with fail
          refine C2.out.mono ?_
          rintro e w' ⟨rfl, rfl⟩
          go_wp2_with fail
          go_ret
          exact ⟨rfl, b5⟩
      · have c1 := bit1_no A n c k (w1.drewN (d2 + d3 + d4 + d5)) n1 (by omega)
        have C1 := Lib.hid c1
        clear c1
        by_cases e2 : k < 8 * n'
        · have c2 := H2.out _ b5 k e2
          have v2 := U2.out k
          generalize bitAt ys k = y at *
          have C2 := Lib.hid c2
          clear c2
          go_wp2_with fail
          refine C1.out.mono ?_
          rintro e w' ⟨rfl, rfl⟩
          go_wp2_with fail
          refine C2.out.mono ?_
          rintro e w' ⟨rfl, rfl⟩
          go_wp2_with fail
          go_ret
          exact ⟨rfl, b5⟩
        · have c2 := bit1_no A' n' c' k (w1.drewN (d2 + d3 + d4 + d5)) n2 (by omega)
          have C2 := Lib.hid c2
          clear c2
          go_wp2_with fail
          refine C1.out.mono ?_
          rintro e w' ⟨rfl, rfl⟩
          go_wp2_with fail
          refine C2.out.mono ?_
          rintro e w' ⟨rfl, rfl⟩
          go_wp2_with fail
          go_ret
          exact ⟨rfl, b5⟩
end Go.Proofs.Ytbnkmfmbbbcogaa.oc
