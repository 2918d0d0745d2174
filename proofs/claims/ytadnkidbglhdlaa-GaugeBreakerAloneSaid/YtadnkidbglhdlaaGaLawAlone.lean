/-
  GaugeBreakerAlone's body.
-/
import Derived.Test.YtadnkidbglhdlaaGaW
import Derived.Test.YtadnkidbglhdlaaOcFlat
set_option linter.unusedVariables false
set_option linter.unusedSimpArgs false
namespace Go.Proofs.Ytadnkidbglhdlaa.oc
open Go.RowKit Go.Proofs.Ytadnkidbglhdlaa.mz Go.Proofs.Ytadnkidbglhdlaa.ga
def ksStep : List flat.K := [flat.K.int .u64, flat.K.bool, flat.K.bool]
/-- the element k of the steps: a tick further by a, whether it asks, or tells what -/
theorem step_at {w : World} {A : Option Addr} {n : Nat} {xs : List (List Value)} (h : flat.IsFlat w ksStep A n xs) {k : Nat} (hk : k < n) :
    ∃ (a : Nat) (q g : Bool) (b o : Nat), a < 18446744073709551616 ∧ A = some ⟨b, o, none⟩ ∧ b < w.heap.size ∧ w.cell? ⟨b, o + k * 3, none⟩ = some (.int .u64 (a : Int)) ∧ w.cell? ⟨b, o + k * 3 + 1, none⟩ = some (.bool q) ∧ w.cell? ⟨b, o + k * 3 + 2, none⟩ = some (.bool g) := by
  obtain ⟨hl, hx⟩ := h
  obtain ⟨x, hxi⟩ : ∃ x, xs[k]? = some x := ⟨_, List.getElem?_eq_getElem (by omega)⟩
  obtain ⟨h1, h2, b, o, hA, hb, hc⟩ := hx k x hxi
  have h3 : x.length = 3 := h1
  obtain ⟨v0, e0, z, rfl, hz⟩ := h2 0 (.int .u64) rfl
  obtain ⟨v1, e1, q, rfl⟩ := h2 1 .bool rfl
  obtain ⟨v2, e2, g, rfl⟩ := h2 2 .bool rfl
  rw [Nat.zero_add] at e0 e1 e2
  have c0 := hc 0 _ e0
  have c1 := hc 1 _ e1
  have c2 := hc 2 _ e2
  have hz0 : 0 ≤ z ∧ z ≤ 18446744073709551615 := by
    simpa [Lit.wf, IntKind.bits, IntKind.signed, IntKind.min, IntKind.max] using hz
  exact ⟨z.toNat, q, g, b, o, by omega, hA, hb, by rw [show ((z.toNat : Nat) : Int) = z from by omega]; exact c0, c1, c2⟩
/-- what the loop's head finds -/
structure ARow (w wr : World) (P G D L f t k nw st fl s : Nat) : Prop where
  bt : Bt wr D f t st fl s
  st2 : st ≤ 2
  cl : st = 0 → s = 0 ∧ fl < f
  sn : s ≤ nw
  nk : nw ≤ 29 * k
  pr : Blk wr P 45 [.pointer (some ⟨G, 0, none⟩), .pointer (some ⟨D, 0, none⟩), .int .u64 (L : Int), .int .u64 (f : Int), .int .u64 (t : Int)]
  new : w.heap.size ≤ P ∧ w.heap.size ≤ D ∧ P ≠ D
  keep : Keeps (fun b => w.heap.size ≤ b) w wr
theorem ARow.next {w wr w' : World} {P G D L f t k nw st fl s nw' st' fl' s' : Nat} (h : ARow w wr P G D L f t k nw st fl s) (b : Bt w' D f t st' fl' s') (kk : Keeps (· = D) wr w') (h1 : st' ≤ 2) (h2 : st' = 0 → s' = 0 ∧ fl' < f) (h3 : s' ≤ nw') (h4 : nw' ≤ 29 * (k + 1)) : ARow w w' P G D L f t (k + 1) nw' st' fl' s' :=
  ⟨b, h1, h2, h3, h4, Blk.keeps h.pr kk h.new.2.2, h.new, h.keep.trans (kk.mono (fun b hb e => by have := h.new; omega))⟩
theorem fl_small {w : World} {D f t st fl s : Nat} (h : Bt w D f t st fl s) : f ≤ 1048576 ∧ t ≤ 1099511627776 ∧ fl ≤ f := ⟨h.1.may.2.1, h.1.may.2.2.2, h.2.2⟩
set_option maxRecDepth 100000 in
set_option maxHeartbeats 8000000 in
theorem walk_gaugeBreakerAlone (w : World) (A : Option Addr) (m c : Nat) (xs : List (List Value)) (hx : flat.IsFlat w ksStep A m xs) (hmc : m ≤ c) (hz : c * 16 ≤ 140737488351232) (fa : Nat) (hfa : fa < 18446744073709551616) (wa : Nat) (hwa : wa < 18446744073709551616) :
    Calls Try.prog 4 #[.slice A m c, .int .u64 (fa : Int), .int .u64 (wa : Int)] w fun e w' => e = .returned (.bool true) ∧ Below w.heap.size w w' := by
  have HX := Lib.hid hx
  have hm := made_ 1 (fa % 4) (wa % 20) w (by omega) (by omega) (by omega)
  rw [show ((1 : Nat) : Int) = 1 from rfl, show ((fa % 4 : Nat) : Int) = (fa : Int) % 4 from by omega, show ((wa % 20 : Nat) : Int) = (wa : Int) % 20 from by omega] at hm
  have HM := Lib.hid hm
  have HW := fun w => Lib.hid (awake_ w)
  have hpp := pair_ptr
  clear hx hmc hz hfa hwa hm
  generalize 1 + fa % 4 % 1048576 = f at *
  generalize 1 + wa % 20 % 1099511627776 = t at *
  generalize 1 + 1 % 1048576 = L at *
  go_enter Try.func4, Try.ntmps4
  go_wp2_with fail
  refine HM.out.mono ?_
  rintro e w1 ⟨P, G, C, E, D, rfl, md⟩
  have M := Lib.hid md
  clear md HM
  go_wp2_with fail
  refine (HW w1).out.mono ?_
  rintro e w2 ⟨rfl, k2⟩
  have HBEG : Hid (ARow w w2 P G D L f t 0 0 0 0 0) := Lib.hid ⟨M.out.bt.keeps (k2 (fun _ => False)) (fun z => z), by omega, fun _ => ⟨rfl, by have := M.out.br.may; omega⟩, by omega, by omega, Blk.keeps M.out.pr (k2 (fun _ => False)) (fun z => z), ⟨M.out.old.1, M.out.old.2.2.2.2, M.out.ne.2.2.2.1⟩, (M.out.keep _).trans (k2 _)⟩
  clear k2 HW M
  go_wp2_with fail
  go_loopw [8, 9, 10, 11, 12] (fun now since bad state i wr => ∃ k nw st fl s : Nat, k ≤ 200 ∧ i = .int .i64 (k : Int) ∧ now = .int .u64 (nw : Int) ∧ since = .int .u64 (s : Int) ∧ bad = .int .u64 (fl : Int) ∧ state = .int .i64 (st : Int) ∧ ARow w wr P G D L f t k nw st fl s) (fun _ _ _ _ i _ => 201 - (intOf i).toNat)
  case atStart => exact ⟨0, 0, 0, 0, 0, by omega, rfl, rfl, rfl, rfl, rfl, HBEG.out⟩
  case round =>
    clear HBEG
    obtain ⟨k, nw, st, fl, s, hk, rfl, rfl, rfl, rfl, rfl, hR⟩ := hrel
    have HR := Lib.hid hR
    clear hR
    by_cases hjl : k < m ∧ k < 200
    · have j1 : (k : Int) < (m : Int) := by omega
      have j2 : (k : Int) < 200 := by omega
      have j0 : (0 : Int) ≤ (k : Int) := by omega
      obtain ⟨a, q, g, bk, o, ha, rfl, hbk, d0, d1, d2⟩ := step_at HX.out hjl.1
      have hbk2 : ¬ w.heap.size ≤ bk := by omega
      have c0 := Keeps.cell HR.out.keep d0 hbk2
      have c1 := Keeps.cell HR.out.keep d1 hbk2
      have c2 := Keeps.cell HR.out.keep d2 hbk2
      have HBK := Lib.hid hbk
      have p1 : wr.cell? ⟨P, 1, none⟩ = some (.pointer (some ⟨D, 0, none⟩)) := by rw [HR.out.pr.cell]; rfl
      have p3 : wr.cell? ⟨P, 3, none⟩ = some (.int .u64 (f : Int)) := by rw [HR.out.pr.cell]; rfl
      have p4 : wr.cell? ⟨P, 4, none⟩ = some (.int .u64 (t : Int)) := by rw [HR.out.pr.cell]; rfl
      have hnk := HR.out.nk
      have hsn := HR.out.sn
      have hsm := fl_small HR.out.bt
      have hst2 := HR.out.st2
      obtain ⟨n2, hn2, hn3, hn4⟩ : ∃ n2 : Nat, IntKind.u64.wrap ((nw : Int) + (a : Int) % 30) = (n2 : Int) ∧ n2 ≤ 29 * (k + 1) ∧ nw ≤ n2 := ⟨nw + a % 30, by rw [wrap_u64]; omega, by omega, by omega⟩
      obtain ⟨su, hsu, hsu2⟩ : ∃ su : Nat, IntKind.u64.wrap ((s : Int) + (t : Int)) = (su : Int) ∧ su = s + t := ⟨s + t, by rw [wrap_u64]; omega, rfl⟩
      obtain ⟨f1, hf1, hf2⟩ : ∃ f1 : Nat, IntKind.u64.wrap ((fl : Int) + 1) = (f1 : Int) ∧ f1 = fl + 1 := ⟨fl + 1, by rw [wrap_u64]; omega, rfl⟩
      have HS := Lib.hid (show n2 ≤ 29 * (k + 1) ∧ nw ≤ n2 ∧ su = s + t ∧ f1 = fl + 1 ∧ k < 200 ∧ n2 ≤ 1099511627776 ∧ s ≤ nw from ⟨hn3, hn4, hsu2, hf2, hjl.2, by omega, hsn⟩)
      clear hbk hbk2 d0 d1 d2 hnk hsm hn3 hn4 hsn hjl hk ha hsu2 hf2
      cases q
      · have HT := fun g => Lib.hid (tell0 n2 n2 g (HR.out.bt.keeps (S := fun _ => False) (Keeps.refl _ wr).drew (fun z => z)) HS.out.2.2.2.2.2.1 rfl (fun z => (HR.out.cl z).2))
        have HTG := Lib.hid ((HT g).out)
        go_wp2_with fail
        go_region_held3 (fun w' => w'.cell? ⟨P, 1, none⟩ = some (.pointer (some ⟨D, 0, none⟩)) ∧ w'.cell? ⟨bk, o + k * 3 + 2, none⟩ = some (.bool g))
          (first | exact ⟨y1, y2⟩ | exact ⟨p1, c2⟩)
          ((first
            | (go_at_call 11; refine HTG.out.mono ?_; rintro e w3 ⟨rfl, b3, k3⟩; have K3 := Lib.hid (show Keeps (· = D) wr w3 from (Keeps.refl _ wr).drew.trans k3); have y1 : w3.cell? ⟨P, 1, none⟩ = some (.pointer (some ⟨D, 0, none⟩)) := by { rw [(Blk.keeps HR.out.pr K3.out HR.out.new.2.2).cell]; rfl }; have y2 : w3.cell? ⟨bk, o + k * 3 + 2, none⟩ = some (.bool g) := Keeps.cell K3.out c2 (by have := HR.out.new; have := HBK.out; omega); have B3 := Lib.hid b3; clear b3 k3)))
        have z3 : w3.cell? ⟨P, 3, none⟩ = some (.int .u64 (f : Int)) := by rw [(Blk.keeps HR.out.pr K3.out HR.out.new.2.2).cell]; rfl
        clear HT HTG c0 c1 p1 p3 p4 y1
        have hst : st = 0 ∨ st = 1 ∨ st = 2 := by omega
        clear hst2
        rcases hst with rfl | rfl | rfl
        · cases g
          · by_cases hf : f1 = f
            · have hf' : (f1 : Int) = (f : Int) := by omega
              have hb := B3.out
              rw [show beh f 0 fl s n2 false = (1, f1, n2) from by unfold beh; have := HS.out; rw [if_neg (by omega), if_neg (by simp), if_pos rfl, if_neg (by omega), show fl + 1 = f1 from by omega], hf] at hb
              have B4 := Lib.hid hb
              clear hb
              go_wp2_with fail
              go_roundw
              case rel => exact ⟨k + 1, n2, 1, f, n2, by have := HS.out; omega, by go_num, rfl, rfl, rfl, rfl, HR.out.next (show Bt w3 D f t 1 f n2 from by exact B4.out) K3.out (by omega) (fun z => by omega) (by have := HS.out; omega) (by have := HS.out; omega)⟩
              case measure => simp [intOf]; omega
            · have hf' : ¬ (f1 : Int) = (f : Int) := by omega
              have hb := B3.out
              rw [show beh f 0 fl s n2 false = (0, f1, s) from by unfold beh; have := HS.out; have := HR.out.cl rfl; rw [if_neg (by omega), if_neg (by simp), if_pos rfl, if_pos (by omega), show fl + 1 = f1 from by omega, this.1]] at hb
              have B4 := Lib.hid hb
              have HF := Lib.hid hf
              clear hb
              go_wp2_with fail
              go_roundw
              case rel => exact ⟨k + 1, n2, 0, f1, s, by have := HS.out; omega, by go_num, rfl, rfl, rfl, rfl, HR.out.next (show Bt w3 D f t 0 f1 s from by exact B4.out) K3.out (by omega) (fun z => ⟨(HR.out.cl rfl).1, by have := HF.out; have := HS.out; have := HR.out.cl rfl; omega⟩) (by have := HS.out; omega) (by have := HS.out; omega)⟩
              case measure => simp [intOf]; omega
          · have hb := B3.out
            rw [show beh f 0 fl s n2 true = (0, 0, 0) from by unfold beh; rw [if_neg (by omega), if_pos rfl]] at hb
            have B4 := Lib.hid hb
            clear hb
            go_wp2_with fail
            go_roundw
            case rel => exact ⟨k + 1, n2, 0, 0, 0, by have := HS.out; omega, by go_num, rfl, rfl, rfl, rfl, HR.out.next (show Bt w3 D f t 0 0 0 from by exact B4.out) K3.out (by omega) (fun z => ⟨rfl, by have := HR.out.bt.1.may; omega⟩) (by have := HS.out; omega) (by have := HS.out; omega)⟩
            case measure => simp [intOf]; omega
        · have hb := B3.out
          rw [show beh f 1 fl s n2 g = (1, fl, s) from by unfold beh; rw [if_pos rfl]] at hb
          have B4 := Lib.hid hb
          clear hb
          go_wp2_with fail
          go_roundw
          case rel => exact ⟨k + 1, n2, 1, fl, s, by have := HS.out; omega, by go_num, rfl, rfl, rfl, rfl, HR.out.next (show Bt w3 D f t 1 fl s from by exact B4.out) K3.out (by omega) (fun z => by omega) (by have := HS.out; omega) (by have := HS.out; omega)⟩
          case measure => simp [intOf]; omega
        · cases g
          · have hb := B3.out
            rw [show beh f 2 fl s n2 false = (1, fl, n2) from by unfold beh; rw [if_neg (by omega), if_neg (by simp), if_neg (by omega)]] at hb
            have B4 := Lib.hid hb
            clear hb
            go_wp2_with fail
            go_roundw
            case rel => exact ⟨k + 1, n2, 1, fl, n2, by have := HS.out; omega, by go_num, rfl, rfl, rfl, rfl, HR.out.next (show Bt w3 D f t 1 fl n2 from by exact B4.out) K3.out (by omega) (fun z => by omega) (by have := HS.out; omega) (by have := HS.out; omega)⟩
            case measure => simp [intOf]; omega
          · have hb := B3.out
            rw [show beh f 2 fl s n2 true = (0, 0, 0) from by unfold beh; rw [if_neg (by omega), if_pos rfl]] at hb
            have B4 := Lib.hid hb
            clear hb
            go_wp2_with fail
            go_roundw
            case rel => exact ⟨k + 1, n2, 0, 0, 0, by have := HS.out; omega, by go_num, rfl, rfl, rfl, rfl, HR.out.next (show Bt w3 D f t 0 0 0 from by exact B4.out) K3.out (by omega) (fun z => ⟨rfl, by have := HR.out.bt.1.may; omega⟩) (by have := HS.out; omega) (by have := HS.out; omega)⟩
            case measure => simp [intOf]; omega
      · have hst : st = 0 ∨ st = 1 ∨ st = 2 := by omega
        clear hst2
        rcases hst with rfl | rfl | rfl
        · have hask := ask0 n2 n2 HR.out.bt HS.out.2.2.2.2.2.1 rfl
          rw [show asks t 0 s n2 = true from by unfold asks; simp, show asked t 0 fl s n2 = (0, fl, s) from by unfold asked; rfl] at hask
          have HA := Lib.hid hask
          clear hask
          go_wp2_with fail
          refine HA.out.mono ?_
          rintro e w3 ⟨rfl, b3, k3⟩
          have B3 := Lib.hid b3
          have K3 := Lib.hid k3
          clear b3 k3 HA
          go_wp2_with fail
          go_roundw
          case rel => exact ⟨k + 1, n2, 0, fl, s, by have := HS.out; omega, by go_num, rfl, rfl, rfl, rfl, HR.out.next B3.out K3.out (by omega) (fun z => by exact HR.out.cl z) (by have := HS.out; omega) (by have := HS.out; omega)⟩
          case measure => simp [intOf]; omega
        · by_cases hd : su ≤ n2
          · have hd' : (su : Int) ≤ (n2 : Int) := by omega
            have hask := ask0 n2 n2 HR.out.bt HS.out.2.2.2.2.2.1 rfl
            rw [show asks t 1 s n2 = true from by unfold asks; simp; have := HS.out; omega, show asked t 1 fl s n2 = (2, fl, n2) from by unfold asked; rw [if_neg (by omega), if_pos (by have := HS.out; omega)]] at hask
            have HA := Lib.hid hask
            clear hask
            go_wp2_with fail
            refine HA.out.mono ?_
            rintro e w3 ⟨rfl, b3, k3⟩
            have B3 := Lib.hid b3
            have K3 := Lib.hid k3
            clear b3 k3 HA
            go_wp2_with fail
            go_roundw
            case rel => exact ⟨k + 1, n2, 2, fl, n2, by have := HS.out; omega, by go_num, rfl, rfl, rfl, rfl, HR.out.next B3.out K3.out (by omega) (fun z => by omega) (by have := HS.out; omega) (by have := HS.out; omega)⟩
            case measure => simp [intOf]; omega
          · have hd' : ¬ (su : Int) ≤ (n2 : Int) := by omega
            have hask := ask0 n2 n2 HR.out.bt HS.out.2.2.2.2.2.1 rfl
            rw [show asks t 1 s n2 = false from by unfold asks; simp; have := HS.out; omega, show asked t 1 fl s n2 = (1, fl, s) from by unfold asked; rw [if_neg (by omega), if_neg (by have := HS.out; omega)]] at hask
            have HA := Lib.hid hask
            clear hask
            go_wp2_with fail
            refine HA.out.mono ?_
            rintro e w3 ⟨rfl, b3, k3⟩
            have B3 := Lib.hid b3
            have K3 := Lib.hid k3
            clear b3 k3 HA
            go_wp2_with fail
            go_roundw
            case rel => exact ⟨k + 1, n2, 1, fl, s, by have := HS.out; omega, by go_num, rfl, rfl, rfl, rfl, HR.out.next B3.out K3.out (by omega) (fun z => by omega) (by have := HS.out; omega) (by have := HS.out; omega)⟩
            case measure => simp [intOf]; omega
        · by_cases hd : su ≤ n2
          · have hd' : (su : Int) ≤ (n2 : Int) := by omega
            have hask := ask0 n2 n2 HR.out.bt HS.out.2.2.2.2.2.1 rfl
            rw [show asks t 2 s n2 = true from by unfold asks; simp; have := HS.out; omega, show asked t 2 fl s n2 = (2, fl, n2) from by unfold asked; rw [if_neg (by omega), if_pos (by have := HS.out; omega)]] at hask
            have HA := Lib.hid hask
            clear hask
            go_wp2_with fail
            refine HA.out.mono ?_
            rintro e w3 ⟨rfl, b3, k3⟩
            have B3 := Lib.hid b3
            have K3 := Lib.hid k3
            clear b3 k3 HA
            go_wp2_with fail
            go_roundw
            case rel => exact ⟨k + 1, n2, 2, fl, n2, by have := HS.out; omega, by go_num, rfl, rfl, rfl, rfl, HR.out.next B3.out K3.out (by omega) (fun z => by omega) (by have := HS.out; omega) (by have := HS.out; omega)⟩
            case measure => simp [intOf]; omega
          · have hd' : ¬ (su : Int) ≤ (n2 : Int) := by omega
            have hask := ask0 n2 n2 HR.out.bt HS.out.2.2.2.2.2.1 rfl
            rw [show asks t 2 s n2 = false from by unfold asks; simp; have := HS.out; omega, show asked t 2 fl s n2 = (2, fl, s) from by unfold asked; rw [if_neg (by omega), if_neg (by have := HS.out; omega)]] at hask
            have HA := Lib.hid hask
            clear hask
            go_wp2_with fail
            refine HA.out.mono ?_
            rintro e w3 ⟨rfl, b3, k3⟩
            have B3 := Lib.hid b3
            have K3 := Lib.hid k3
            clear b3 k3 HA
            go_wp2_with fail
            go_roundw
            case rel => exact ⟨k + 1, n2, 2, fl, s, by have := HS.out; omega, by go_num, rfl, rfl, rfl, rfl, HR.out.next B3.out K3.out (by omega) (fun z => by omega) (by have := HS.out; omega) (by have := HS.out; omega)⟩
            case measure => simp [intOf]; omega
    · have HG := Lib.hid (ga.get0 HR.out.bt)
      have p1 : wr.cell? ⟨P, 1, none⟩ = some (.pointer (some ⟨D, 0, none⟩)) := by rw [HR.out.pr.cell]; rfl
      have fin : ∀ w', Keeps (· = D) wr w' → Below w.heap.size w w' := fun w' kk => by
        have h := HR.out.keep.trans (kk.mono (S' := fun b => w.heap.size ≤ b) (fun b hb e => by have := HR.out.new; omega))
        exact (h.mono (S' := fun _ => False) (fun b hb z => by omega)).below
      have FIN := Lib.hid fin
      clear fin
      by_cases h1 : k < m
      · have j1 : (k : Int) < (m : Int) := by omega
        have j2 : ¬ (k : Int) < 200 := by omega
        clear hjl hk
        go_wp2_with fail
        refine HG.out.mono ?_
        rintro e w3 ⟨rfl, -, k3⟩
        have K3 := Lib.hid k3
        clear k3
        go_wp2
        go_ret
        exact ⟨rfl, FIN.out _ K3.out⟩
      · have j1 : ¬ (k : Int) < (m : Int) := by omega
        clear hjl hk
        go_wp2_with fail
        refine HG.out.mono ?_
        rintro e w3 ⟨rfl, -, k3⟩
        have K3 := Lib.hid k3
        clear k3
        go_wp2
        go_ret
        exact ⟨rfl, FIN.out _ K3.out⟩
end Go.Proofs.Ytadnkidbglhdlaa.oc
