/-
  The law OctetsSums, walked.
-/
import Derived.Test.YtbnkmfmbbbcogaaOcJoin
import Derived.Test.YtbnkmfmbbbcogaaOcBulk
import Derived.Test.YtbnkmfmbbbcogaaOcSum
import Derived.Test.YtbnkmfmbbbcogaaOcRef
import Derived.Test.YtbnkmfmbbbcogaaOcWorks
import Derived.Deep.QuietTactic
import Derived.BigQuiet
namespace Go.Proofs.Ytbnkmfmbbbcogaa.oc
open Go.RowKit
theorem sl_info : (Try.prog.info? 22).map (fun i => (i.zero, i.size, i.bytes)) = some (some (.slice none 0 0), 1, 24) := by kernel_rfl
theorem own_below {w w' : World} {base n : Nat} {e : TypeId} {v : Value} {xs : List Value} (h : w.ownsRow base e 1 v n xs) (b : Below w.heap.size w w') : w'.ownsRow base e 1 v n xs := by
  refine ⟨h.1, ?_⟩
  rcases h.2 with h0 | ⟨g', cap', cur, h0, h1, h2, h3⟩
  · exact .inl h0
  · exact .inr ⟨g', cap', cur, h0, h1, (b.block g' (Array.getElem?_eq_some_iff.1 h2).1).trans h2, h3⟩
theorem own_ne {w : World} {base base' n n' : Nat} {e e' : TypeId} {v v' : Value} {xs xs' : List Value} (h : w.ownsRow base e 1 v n xs) (h' : w.ownsRow base' e' 1 v' n' xs') (hne : e ≠ e') : v.ownBlock = none ∨ v.ownBlock ≠ v'.ownBlock := by
  rcases h.2 with ⟨rfl, _⟩ | ⟨g, cap, cur, rfl, _, h2, _⟩
  · exact .inl rfl
  · right
    rcases h'.2 with ⟨rfl, _⟩ | ⟨g', cap', cur', rfl, _, h2', _⟩
    · simp [Value.ownBlock]
    · simp only [Value.ownBlock, ne_eq, Option.some.injEq]
      rintro rfl
      rw [h2] at h2'
      injection h2' with h2'
      injection h2' with _ ht
      exact hne ht
theorem own_base {w : World} {base base' n : Nat} {e : TypeId} {v : Value} {xs : List Value} (h : w.ownsRow base e 1 v n xs) (hb : base' ≤ base) : w.ownsRow base' e 1 v n xs := by
  refine ⟨h.1, ?_⟩
  rcases h.2 with h0 | ⟨g', cap', cur, h0, h1, h2, h3⟩
  · exact .inl h0
  · exact .inr ⟨g', cap', cur, h0, by omega, h2, h3⟩
theorem own_rd {w : World} {base n : Nat} {e : TypeId} {v : Value} {xs : List Value} (h : w.ownsRow base e 1 v n xs) : ∃ A c, v = .slice A n c ∧ Rd w w.heap.size A xs := by
  rcases h.2 with ⟨rfl, h0⟩ | ⟨g, cap, cur, rfl, _⟩
  · subst h0
    obtain rfl : xs = [] := List.eq_nil_of_length_eq_zero (by simpa using h.1)
    exact ⟨none, 0, rfl, Rd.nil_⟩
  · exact ⟨_, cap, rfl, Rd.own h⟩
/-- bytes with their marked room behind them, in w -/
def Sp (w : World) (bs : List Nat) (v : Value) : Prop :=
  ∃ g cap, v = .slice (some ⟨g, 0, none⟩) bs.length cap ∧ bs.length + 20 ≤ cap ∧ cap ≤ maxLen ∧ w.ownsRow 0 5 1 (.slice (some ⟨g, 0, none⟩) (bs.length + 20) cap) (bs.length + 20) (by_ (bs ++ marks 20))
theorem Sp.below {w w' : World} {bs : List Nat} {v : Value} (h : Sp w bs v) (b : Below w.heap.size w w') : Sp w' bs v := by
  obtain ⟨g, cap, h1, h2, h3, h4⟩ := h
  exact ⟨g, cap, h1, h2, h3, own_below h4 b⟩
theorem Sp.grown {w w' : World} {bs : List Nat} {v : Value} (h : Sp w bs v) {base n : Nat} {v' : Value} {xs : List Value} (ho : w.ownsRow base 22 1 v' n xs) (hg : w.grownBy w' v'.ownBlock) : Sp w' bs v := by
  obtain ⟨g, cap, h1, h2, h3, h4⟩ := h
  exact ⟨g, cap, h1, h2, h3, h4.kept hg (own_ne h4 ho (by decide))⟩
theorem Sp.rd {w : World} {bs : List Nat} {v : Value} (h : Sp w bs v) : ∃ g cap, v = .slice (some ⟨g, 0, none⟩) bs.length cap ∧ bs.length + 20 ≤ cap ∧ cap ≤ maxLen ∧ Rd w w.heap.size (some ⟨g, 0, none⟩) (by_ (bs ++ marks 20)) := by
  obtain ⟨g, cap, h1, h2, h3, h4⟩ := h
  exact ⟨g, cap, h1, h2, h3, Rd.own h4⟩
theorem sps_pt {w : World} {ps : List (List Nat)} {vs : List Value} {A : Option Addr} (h : Rd w w.heap.size A vs) (hs : ∀ (j : Nat) (bs : List Nat), ps[j]? = some bs → ∃ v, vs[j]? = some v ∧ Sp w bs v) : Pt w w.heap.size A ps := by
  intro k bs hk
  obtain ⟨v, hv, hsp⟩ := hs k bs hk
  obtain ⟨b, o, rfl, hb, hc⟩ := h k v hv
  obtain ⟨g, cap, rfl, _, _, hr⟩ := hsp.rd
  refine ⟨b, o, _, cap, rfl, hb, hc, ?_⟩
  have := hr.take bs.length
  have e : (by_ (bs ++ marks 20)).take bs.length = by_ bs := by rw [by_append, List.take_append_of_le_length (by rw [by_length]; exact Nat.le_refl _), List.take_of_length_le (by rw [by_length]; exact Nat.le_refl _)]
  rwa [e] at this
theorem quiet_at {P : Program} {f : FuncId} {args : Array Value} {w : World} {a n : Nat} {v : Value} (h : Calls P f args (w.drewN (a + n)) fun e w' => e = .returned v ∧ ∃ m, (w.drewN (a + n)).drewN m = w') :
    Calls P f args (w.drewN (a + n)) fun e w'' => e = .returned v ∧ ∃ m, w'' = w.drewN (a + m) :=
  h.mono fun _ _ ⟨he, m, hm⟩ => ⟨he, n + m, by rw [← hm, World.drewN_drewN, Nat.add_assoc]⟩
theorem len_le_flat {ps : List (List Nat)} {k : Nat} {bs : List Nat} (h : ps[k]? = some bs) : bs.length ≤ ps.flatten.length := by
  have h1 := flat_le ps (k + 1)
  rw [flat_snoc h, List.length_append] at h1
  omega

set_option maxHeartbeats 1000000 in
theorem walk_octetsSums (w : World) (P : Option Addr) (n c : Nat) (ps : List (List Nat)) (h : IsParts w P n c ps) (hz : ps.flatten.length + n ≤ 1048576) :
    Calls Try.prog 5 #[.slice P n c] w fun e w' => e = .returned (.bool true) ∧ Below w.heap.size w w' := by
  obtain ⟨hn, hnc, hs, hp⟩ := h
  have HN := Lib.hid hn
  clear hn
  obtain ⟨i0, hi0, hz0, hz1, hz2⟩ := info_parts sl_info
  have n1 : n ≤ 1048576 := by omega
  have f1 : ps.flatten.length ≤ 1048576 := by omega
  clear hz
  go_enter Try.func5, Try.ntmps5
  go_wp2
  go_loopw [3, 4] (fun v i wr => ∃ k : Nat, k ≤ n ∧ i = .int .i64 k ∧ ∃ vs : List Value, wr.ownsRow w.heap.size 22 1 v k vs ∧ (∀ (j : Nat) (bs : List Nat), j < k → ps[j]? = some bs → ∃ v, vs[j]? = some v ∧ Sp wr bs v) ∧ Below w.heap.size w wr) (fun _ i _ => n - (intOf i).toNat)
  case atStart => exact ⟨0, Nat.zero_le _, rfl, [], World.ownsRow_nil _ _ _ _, fun j bs hj => by omega, Below.refl _ _⟩
  case round =>
    obtain ⟨k, hk, rfl, vs, ho, hsp, hb⟩ := hrel
    have HSP := Lib.hid hsp
    clear hsp
    by_cases hlt : k < n
    · have hx := getp (ps := ps) (k := k) (by rw [HN.out]; exact hlt)
      have hle := len_le_flat hx
      obtain ⟨b, o, A, cc, rfl, hb1, hc, hrA⟩ := hp k _ hx
      have hc1 : wr.cell? ⟨b, o + k, none⟩ = some (.slice A (ps.getD k []).length cc) := (hb.cell (p := ⟨b, o + k, none⟩) (by show b < _; omega)).trans hc
      have hr1 := hrA.below hb
      have HX := Lib.hid hx
      clear hx hc hrA
      generalize ps.getD k [] = part at *
      obtain ⟨m, hm⟩ : ∃ m, part.length = m := ⟨_, rfl⟩
      rw [hm] at hc1 hle
      have HM := Lib.hid hm
      clear hm
      go_wp2_with fail
      refine (spare_any A part m cc w.heap.size wr HM.out (by omega) hr1).mono ?_
      rintro e w2 ⟨g, cap, rfl, g1, g2, ho2, b2⟩
      have hb2 : Below w.heap.size w w2 := hb.trans (b2.mono hb.size)
      have hz := hb2.size
      have ho3 := own_below ho b2
      have hrow : Rd (w2.alloc (.cells #[.slice (some ⟨g, 0, none⟩) m cap] 22)) (w2.heap.size + 1) (some ⟨w2.heap.size, 0, none⟩) [.slice (some ⟨g, 0, none⟩) m cap] := (Blk.new w2 22 #[.slice (some ⟨g, 0, none⟩) m cap]).rd
      have h1c : ∀ u ∈ [Value.slice (some ⟨g, 0, none⟩) m cap], u.oneCell' = true := by intro u hu; simp at hu; subst hu; rfl
      clear hc1 hr1
      go_wp2_with (at_builtin; refine wpList_app rfl _ _ 33 rfl w.heap.size 22 i0 _ 24 Try.underlying33 hi0 hz0 hz1 hz2 rfl _ k vs rfl (ho3.alloc _) (w2.heap.size + 1) (some ⟨w2.heap.size, 0, none⟩) 1 1 [.slice (some ⟨g, 0, none⟩) m cap] rfl hrow rfl h1c (by omega) (by omega) (by simp; omega) ?_; intro v3 w3 hown3 hg3 hat3)
      have hb3 := app_below (hb2.alloc hz _) (ho3.alloc _) hg3 (by simp; omega)
      have hsp3 : ∀ (j : Nat) (bs : List Nat), j < k + 1 → ps[j]? = some bs → ∃ v, (vs ++ [.slice (some ⟨g, 0, none⟩) m cap])[j]? = some v ∧ Sp w3 bs v := by
        intro j bs hj hjb
        have hlv : vs.length = k := by have := ho.1; omega
        have ba := (Below.refl w2.heap.size w2).alloc (Nat.le_refl _) (.cells #[.slice (some ⟨g, 0, none⟩) m cap] 22)
        by_cases hjk : j < k
        · obtain ⟨v, hv, hsv⟩ := HSP.out j bs hjk hjb
          exact ⟨v, by rw [List.getElem?_append_left (by omega)]; exact hv, ((hsv.below b2).below ba).grown (ho3.alloc _) hg3⟩
        · obtain rfl : j = k := by omega
          have e := HX.out
          rw [e] at hjb
          obtain rfl : part = bs := by simpa using hjb
          have hsw : Sp w2 part (.slice (some ⟨g, 0, none⟩) m cap) := ⟨g, cap, by rw [HM.out], by rw [HM.out]; exact g1, g2, by rw [HM.out]; exact own_base ho2 (Nat.zero_le _)⟩
          exact ⟨_, by rw [List.getElem?_append_right (by omega), hlv]; simp, (hsw.below ba).grown (ho3.alloc _) hg3⟩
      clear hrow hat3 h1c
      go_wp2
      go_roundw
      case rel => exact ⟨k + 1, by omega, by go_num, _, hown3, hsp3, hb3⟩
      case measure => simp [intOf]; omega
    · obtain rfl : k = n := by omega
      obtain ⟨A, cc, rfl, hrA⟩ := own_rd ho
      have hpr := hp.below hb
      clear hlt hk
      go_wp2_with fail
      refine (join_any P ps k c w.heap.size wr HN.out (by omega) (by omega) hpr hb.size).mono ?_
      rintro e w5 ⟨v5, rfl, ho5, b5⟩
      obtain ⟨N, hN⟩ : ∃ N, ps.flatten.length = N := ⟨_, rfl⟩
      rw [hN] at ho5
      have HF := Lib.hid hN
      obtain ⟨A5, c5, rfl, hr5⟩ := own_rd ho5
      have hsps : ∀ (j : Nat) (bs : List Nat), ps[j]? = some bs → ∃ v, vs[j]? = some v ∧ Sp w5 bs v := fun j bs hj => by
        have hjl := (List.getElem?_eq_some_iff.1 hj).1
        rw [HN.out] at hjl
        obtain ⟨v, hv, hs⟩ := HSP.out j bs hjl hj
        exact ⟨v, hv, hs.below b5⟩
      have hrA5 := (hrA.below b5).more b5.size
      have hpt := sps_pt hrA5 hsps
      have hbb : Below w.heap.size w w5 := hb.trans (b5.mono hb.size)
      have sf : Small ps.flatten := fun x hx => by
        obtain ⟨l, hl, hx⟩ := List.mem_flatten.1 hx
        exact hs l hl x hx
      have hh1 := sum_any A ps k cc w5.heap.size w5 HN.out (by omega) (by omega) hs hpt
      have hh2 := rsum_any A5 ps.flatten N c5 _ w5 HF.out (by omega) sf hr5
      have hh3 := hash_any A ps k cc w5.heap.size w5 HN.out (by omega) (by omega) hs hpt
      have hh4 := rhash_any A5 ps.flatten N c5 _ w5 HF.out (by omega) sf hr5
      have H1 := Lib.hid hh1
      have H2 := Lib.hid hh2
      have H3 := Lib.hid hh3
      have H4 := Lib.hid hh4
      have HSPS := Lib.hid hsps
      clear hN hh1 hh2 hh3 hh4 hsps hr5 hpt ho5 ho HSP hpr
      generalize csum ps.flatten = cs at *
      generalize fnv ps.flatten = hv at *
      go_wp2_with fail
      refine H1.out.mono ?_
      rintro e w6 ⟨rfl, rfl⟩
      go_wp2_with fail
      refine H2.out.mono ?_
      rintro e w6 ⟨rfl, rfl⟩
      go_wp2_with fail
      refine H3.out.mono ?_
      rintro e w6 ⟨rfl, rfl⟩
      go_wp2_with fail
      refine H4.out.mono ?_
      rintro e w6 ⟨rfl, rfl⟩
      clear H1 H2 H3 H4
      go_wp2_with fail
      go_loopw [6] (fun i wq => ∃ j d : Nat, j ≤ k ∧ i = .int .i64 j ∧ w5.drewN d = wq) (fun i _ => k - (intOf i).toNat)
      case atStart => exact ⟨0, 0, Nat.zero_le _, rfl, rfl⟩
      case round =>
        obtain ⟨j, d, hj, rfl, rfl⟩ := hrel
        by_cases hltj : j < k
        · have hx := getp (ps := ps) (k := j) (by rw [HN.out]; exact hltj)
          have hle := len_le_flat hx
          obtain ⟨b, o, A2, cc2, rfl, hb1, hc, hrA2⟩ := (hp.below hbb) j _ hx
          obtain ⟨v, hv, hsv⟩ := HSPS.out j _ hx
          obtain ⟨b', o', rfl, hb1', hc'⟩ := hrA5 j v hv
          obtain ⟨g, cap, rfl, g1, g2, hrg⟩ := hsv.rd
          have sp := hs _ (List.mem_of_getElem? hx)
          have hkept := fun (W : World) (d : Nat) (hW : w5.drewN d = W) => kept_any A2 (ps.getD j []) (ps.getD j []).length cc2 cap g w.heap.size w5.heap.size W rfl (by omega) sp (by rw [← hW]; exact hrA2) g1 g2 (by rw [← hW]; exact hrg)
          have HKP := Lib.hid hkept
          have j0 : (0 : Int) ≤ (j : Int) := by omega
          have j1 : (j : Int) < (k : Int) := by omega
          clear hkept hx hle hv hsv hrg sp hrA2
          generalize (ps.getD j []).length = m at *
          generalize ps.getD j [] = part at *
          go_wp2_with fail
          go_quiet ((go_at_call 21; exact quiet_at (HKP.out _ _ rfl)))
          go_wp2_with fail
          go_roundw
          case rel => exact ⟨j + 1, d + nq, by omega, by go_num, rfl⟩
          case measure => simp [intOf]; omega
        · go_wp2_with fail
          refine (works_any _).mono ?_
          rintro e w9 ⟨rfl, b9⟩
          go_wp2_with fail
          go_ret
          have bd : Below w.heap.size w (w5.drewN d) := ⟨hbb.os, hbb.tape, hbb.output, hbb.size, hbb.block⟩
          exact ⟨rfl, bd.trans (b9.mono bd.size)⟩
end Go.Proofs.Ytbnkmfmbbbcogaa.oc
