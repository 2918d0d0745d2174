/-
  StackAlone's body.
-/
import Derived.Test.YtjgbbjfphjhdcaaSkWk
import Derived.Test.YtjgbbjfphjhdcaaOcBools
import Derived.Test.YtjgbbjfphjhdcaaOcQue
set_option linter.unusedVariables false
namespace Go.Proofs.Ytjgbbjfphjhdcaa.oc
open Go.RowKit Go.Proofs.Ytjgbbjfphjhdcaa.oc Go.Proofs.Ytjgbbjfphjhdcaa.mz Go.Proofs.Ytjgbbjfphjhdcaa.at_ Go.Proofs.Ytjgbbjfphjhdcaa.gt Go.Proofs.Ytjgbbjfphjhdcaa.gw Go.Proofs.Ytjgbbjfphjhdcaa.sk
theorem u64s_len (l : List Nat) : (u64s l).length = l.length := by simp [u64s]
theorem u64_info : (Try.prog.info? 30).map (fun i => (i.zero, i.size, i.bytes)) = some (some (.int .u64 0), 1, 8) := by kernel_rfl
/-- the row's last one, and what is ahead of it -/
theorem Que.back {w : World} {base : Nat} {e : TypeId} {A : Option Addr} {n c : Nat} {x : Value} {r : List Value} (h : Que w base e (.slice A n c) (r ++ [x])) :
    ∃ b o, A = some ⟨b, o, none⟩ ∧ n = r.length + 1 ∧ n ≤ c ∧ w.cell? ⟨b, o + r.length, none⟩ = some x ∧ Que w base e (.slice A r.length c) r := by
  rcases h with ⟨_, h⟩ | ⟨g, off, cap, cs, he, h1, h2, h3, h4, h5⟩
  · simp at h
  · injection he with ha hn hc
    subst ha; subst hn; subst hc
    simp only [List.length_append, List.length_singleton] at h3
    refine ⟨g, off, rfl, by simp, by simpa using h3, by rw [h2.cell]; exact h5 _ x (by simp), .inr ⟨g, off, c, cs, rfl, h1, h2, by omega, h4, fun k u hk => ?_⟩⟩
    have hl := (List.getElem?_eq_some_iff.1 hk).1
    exact h5 k u (by rw [List.getElem?_append_left hl]; exact hk)
theorem Que.at_ {w : World} {base : Nat} {e : TypeId} {A : Option Addr} {n c : Nat} {xs : List Value} (h : Que w base e (.slice A n c) xs) {k : Nat} {x : Value} (hk : xs[k]? = some x) :
    ∃ b o, A = some ⟨b, o, none⟩ ∧ b < w.heap.size ∧ w.cell? ⟨b, o + k, none⟩ = some x := by
  rcases h with ⟨_, rfl⟩ | ⟨g, off, cap, cs, he, h1, h2, h3, h4, h5⟩
  · simp at hk
  · injection he with ha hn hc
    subst ha
    exact ⟨g, off, rfl, h2.lt, by rw [h2.cell]; exact h5 k x hk⟩
/-- what the loop's head finds -/
structure SRow (w wr : World) (R W n q : Nat) (v : Value) : Prop where
  it : ∃ row, At wr R W n row ∧ Que wr q 30 v (u64s row) ∧ (∀ x ∈ row, x < 18446744073709551616)
  ord : R < q ∧ W < q ∧ q ≤ wr.heap.size
  new : w.heap.size ≤ R ∧ w.heap.size ≤ W
  keep : Keeps (fun b => w.heap.size ≤ b) w wr
/-- a call on the stack alone -/
theorem SRow.call {w wr w' : World} {R W n q : Nat} {v0 v : Value} {row : List Nat} (h : SRow w wr R W n q v0) (hr : At w' R W n row) (hq : Que w' q 30 v (u64s row)) (hs : ∀ x ∈ row, x < 18446744073709551616) (k : Keeps (· = W) wr w') : SRow w w' R W n q v := by
  have h1 := h.ord
  have h2 := h.new
  have h3 := h.keep.size
  exact ⟨⟨row, hr, hq, hs⟩, ⟨h1.1, h1.2.1, by have := k.size; omega⟩, h2, h.keep.trans (k.mono (fun b hb e => by omega))⟩
/-- the number that was pushed stands at the row's end, too -/
theorem SRow.push {w wr w' w9 : World} {R W n q : Nat} {v0 v v2 : Value} {row : List Nat} {o : Obj} {x : Nat} (h : SRow w wr R W n q v0) (hr : At w' R W n (row ++ [x])) (hq : Que w' q 30 v (u64s row)) (hs : ∀ x ∈ row, x < 18446744073709551616) (hx : x < 18446744073709551616) (k : Keeps (· = W) wr w')
    (hq2 : Que w9 q 30 v2 (u64s row ++ [.int .u64 (x : Int)])) (hg : (w'.alloc o).grownBy w9 v.ownBlock) : SRow w w9 R W n q v2 := by
  have h1 := h.ord
  have h2 := h.new
  have h3 := h.keep.size
  have hqa := hq.alloc o
  have k2 : Keeps (fun b => v.ownBlock = some b) w' w9 := ((Keeps.refl _ w').alloc o).trans (Keeps.of_grown hg)
  have hlt : ∀ b, v.ownBlock = some b → q ≤ b := fun b hb => (hq.lt hb).1
  refine ⟨⟨row ++ [x], hr.keeps k2 (fun z => by have := hlt _ z; omega) (fun z => by have := hlt _ z; omega), by simpa [u64s] using hq2, fun y hy => ?_⟩, ⟨h1.1, h1.2.1, by have := k.size; have := k2.size; omega⟩, h2, (h.keep.trans (k.mono (fun b hb e => by omega))).trans (k2.mono (fun b hb e => by have := hlt _ e; omega))⟩
  rcases List.mem_append.1 hy with z | z
  · exact hs y z
  · simp at z; subst z; exact hx
theorem SRow.below {w wr : World} {R W n q : Nat} {v : Value} (h : SRow w wr R W n q v) : Below w.heap.size w wr := (h.keep.only (fun b z => z)).below
theorem row_cases (row : List Nat) : row = [] ∨ ∃ r x, row = r ++ [x] := by
  rcases List.eq_nil_or_concat row with h | ⟨r, x, h⟩
  · exact .inl h
  · exact .inr ⟨r, x, by simpa using h⟩
set_option maxRecDepth 100000 in
set_option maxHeartbeats 8000000 in
theorem walk_stackAlone (w : World) (A : Option Addr) (m c : Nat) (bs : List Bool) (hd : IsBools w A m c bs) (A2 : Option Addr) (m2 c2 : Nat) (xs : List Nat) (hx : IsNums .u64 18446744073709551616 w A2 m2 c2 xs) (_ : c2 ≤ 140737488351232) (s : Int) (hs1 : -9223372036854775808 ≤ s) (hs2 : s ≤ 9223372036854775807) :
    Calls Try.prog 4 #[.slice A m c, .slice A2 m2 c2, .int .i64 s] w fun e w' => e = .returned (.bool true) ∧ Below w.heap.size w w' := by
  obtain ⟨i0, hi0, hz0, hz1, hz2⟩ := info_parts u64_info
  have HD := Lib.hid hd
  have HX := Lib.hid hx
  clear hd hx
  have HWK := Lib.hid (awake_ w)
  go_enter Try.func4, Try.ntmps4
  go_wp2_with fail
  refine HWK.out.mono ?_
  rintro e w1 ⟨rfl, k1⟩
  have K1 : Hid (∀ S, Keeps S w w1) := Lib.hid k1
  have HWI := Lib.hid (within_ s 5 w1 (by omega) (by omega) hs1 hs2)
  have hr0 : 0 ≤ s % (5 : Int) := Int.emod_nonneg _ (by omega)
  have hr1 : s % (5 : Int) < 5 := Int.emod_lt_of_pos _ (by omega)
  have hcast : ((5 : Nat) : Int) = 5 := rfl
  simp only [hcast] at HWI
  generalize s % (5 : Int) = r at *
  clear k1 hs1 hs2 HWK hcast
  go_wp2_with fail
  refine HWI.out.mono ?_
  rintro e w' ⟨rfl, rfl⟩
  go_wp2_with fail
  have hn : ∃ n : Nat, wrap64 (2 ^ r.toNat) = (n : Int) ∧ n ∈ pows ∧ n ≤ 16 := by
    have hr : r = 0 ∨ r = 1 ∨ r = 2 ∨ r = 3 ∨ r = 4 := by omega
    rcases hr with rfl | rfl | rfl | rfl | rfl
    · exact ⟨1, (by unfold wrap64; decide), by decide, by decide⟩
    · exact ⟨2, (by unfold wrap64; decide), by decide, by decide⟩
    · exact ⟨4, (by unfold wrap64; decide), by decide, by decide⟩
    · exact ⟨8, (by unfold wrap64; decide), by decide, by decide⟩
    · exact ⟨16, (by unfold wrap64; decide), by decide, by decide⟩
  obtain ⟨n, hn, hnp, hn16⟩ := hn
  rw [hn]
  have HNE := Lib.hid (new_ok n w1 hnp)
  have HNP := Lib.hid (pows_le hnp)
  have HN16 := Lib.hid hn16
  have hn8 : (n : Int) ≤ 16 := by omega
  clear hn hnp hr0 hr1 hn16
  refine HNE.out.mono ?_
  rintro e w2 ⟨R, W, rfl, r2, hR, hW, k2⟩
  have hb : SRow w w2 R W n w2.heap.size (.slice none 0 0) := ⟨⟨[], ⟨_, r2, Holds.start HNP.out.1 HNP.out.2⟩, Que.nil_ _ _ _, fun x hx => by cases hx⟩, ⟨r2.ltQ, r2.ltW, Nat.le_refl _⟩, ⟨Nat.le_trans (K1.out (fun _ => False)).size hR, Nat.le_trans (K1.out (fun _ => False)).size hW⟩, (K1.out _).trans (k2 _)⟩
  have HBEG := Lib.hid hb
  clear r2 hR hW k2 hb HNE
  generalize w2.heap.size = q at *
  go_wp2_with fail
  go_loopw [10, 11] (fun v i wr => ∃ j : Nat, j ≤ 200 ∧ i = .int .i64 j ∧ SRow w wr R W n q v) (fun _ i _ => 201 - (intOf i).toNat)
  case atStart => exact ⟨0, by omega, rfl, HBEG.out⟩
  case round =>
    clear HBEG
    obtain ⟨j, hj, rfl, hR⟩ := hrel
    have HR := Lib.hid hR
    clear hR
    by_cases hjl : j < m ∧ j < 200
    · have hjl' : (j : Int) < (m : Int) := by omega
      have hj2 : (j : Int) < 200 := by omega
      obtain ⟨b, hb⟩ : ∃ z, bs[j]? = some z := ⟨_, List.getElem?_eq_getElem (by rw [HD.out.1]; exact hjl.1)⟩
      obtain ⟨bk, o, rfl, hbl, hc⟩ := HD.out.2.2 _ _ (bls_at hb)
      have hcw := Keeps.cell HR.out.keep hc (by omega)
      obtain ⟨row, rg, hq, hsm⟩ := HR.out.it
      obtain ⟨A1, c1, hu⟩ := hq.form
      rw [u64s_len] at hu
      subst hu
      have HORD : Hid ((w.heap.size ≤ R ∧ w.heap.size ≤ W) ∧ (R < q ∧ W < q ∧ q ≤ wr.heap.size)) := Lib.hid ⟨HR.out.new, HR.out.ord⟩
      have HQ := Lib.hid hq
      have HSM : Hid (∀ x ∈ row, x < 18446744073709551616) := Lib.hid hsm
      have hrl : (row.length : Int) ≤ 16 := by have := rg.le; have := HN16.out; omega
      have j0 : (0 : Int) ≤ (j : Int) := by omega
      clear hb hc hsm
      cases b
      · rcases row_cases row with rfl | ⟨rest, x, rfl⟩
        · have HP := Lib.hid (pop0_no rg)
          clear rg hq
          go_wp2_with fail
          refine HP.out.mono ?_
          rintro e w3 ⟨rfl, r3, k3⟩
          have hq3 := HQ.out.keeps k3 (fun y hy e => by have := (HQ.out.lt hy).1; have := HORD.out; omega)
          have R3 := Lib.hid r3
          have K3 := Lib.hid k3
          have HQ3 := Lib.hid hq3
          clear r3 k3 hq3 hcw
          go_wp2_with fail
          go_roundw
          case rel => exact ⟨j + 1, by omega, by go_num, HR.out.call R3.out HQ3.out HSM.out K3.out⟩
          case measure => simp [intOf]; omega
        · obtain ⟨L, hL⟩ : ∃ L, rest.length = L := ⟨_, rfl⟩
          have HP := Lib.hid (pop0_yes x rg)
          have hlen : (rest ++ [x]).length = L + 1 := by simp [hL]
          have hu1 : u64s (rest ++ [x]) = u64s rest ++ [.int .u64 (x : Int)] := by simp [u64s]
          have hul : (u64s rest).length = L := by rw [u64s_len, hL]
          have HUL := Lib.hid hul
          rw [hlen, hu1] at HQ
          rw [hlen] at HR hrl ⊢
          have hpos : (0 : Int) < ((L + 1 : Nat) : Int) := by omega
          clear rg hq hlen hu1 hL hul
          go_wp2_with fail
          refine HP.out.mono ?_
          rintro e w3 ⟨rfl, r3, k3⟩
          have hq3 := HQ.out.keeps k3 (fun y hy e => by have := (HQ.out.lt hy).1; have := HORD.out; omega)
          obtain ⟨bq, oq, rfl, hnn, hcap, hcq, hq4⟩ := Que.back hq3
          rw [HUL.out] at hcq hq4
          have R3 := Lib.hid r3
          have K3 := Lib.hid k3
          have HQ4 := Lib.hid hq4
          have hcap2 : L + 1 ≤ c1 := hcap
          clear r3 k3 hq3 hq4 hcw hcap hnn
          go_wp2_with fail
          go_roundw
          case rel => exact ⟨j + 1, by omega, by go_num, HR.out.call R3.out HQ4.out (fun y hy => HSM.out y (List.mem_append_left _ hy)) K3.out⟩
          case measure => simp [intOf]; omega
      · by_cases hj3 : j < m2
        · have hj3' : (j : Int) < (m2 : Int) := by omega
          obtain ⟨v, hv⟩ : ∃ z, xs[j]? = some z := ⟨_, List.getElem?_eq_getElem (by rw [HX.out.1]; exact hj3)⟩
          have HV := Lib.hid (HX.out.2.2.1 v (List.mem_of_getElem? hv))
          obtain ⟨bk2, o2, rfl, hbl2, hc2⟩ := HX.out.2.2.2 _ _ (nu_at (k := .u64) hv)
          have hcx := Keeps.cell HR.out.keep hc2 (by omega)
          clear hv hc2 hq
          by_cases hroom : row.length < n
          · have HP := Lib.hid (push0_yes v rg hroom HV.out)
            have hroom' : (row.length : Int) < (n : Int) := by omega
            clear rg
            go_wp2_with fail
            refine HP.out.mono ?_
            rintro e w3 ⟨rfl, r3, k3⟩
            have hq3 := HQ.out.keeps k3 (fun y hy e => by have := (HQ.out.lt hy).1; have := HORD.out; omega)
            have R3 := Lib.hid r3
            have K3 := Lib.hid k3
            have HQ3 := Lib.hid hq3
            have hz3 : q ≤ w3.heap.size := by have := k3.size; have := HORD.out; omega
            clear r3 k3 hq3 hcw hcx
            go_wp2_with (at_builtin; refine Que.wpList_append rfl _ _ 35 rfl i0 _ 8 Try.underlying35 hi0 hz0 hz1 hz2 rfl rfl (HQ3.out.alloc _) ⟨w3.heap.size, 0, none⟩ 1 (.int .u64 ((v : Nat) : Int)) rfl (by rw [(Blk.new w3 30 #[.int .u64 ((v : Nat) : Int)]).cell]; rfl) rfl (by rw [u64s_len]; unfold maxLen; omega) (by rw [u64s_len]; omega) (by simp; omega) ?_; intro v2 w9 hq9 hg9 hat9)
            go_roundw
            case rel => exact ⟨j + 1, by omega, by go_num, HR.out.push R3.out HQ3.out HSM.out HV.out K3.out hq9 hg9⟩
            case measure => simp [intOf]; omega
          · have HP := Lib.hid (push0_no ((v : Nat) : Int) rg hroom)
            have hroom' : ¬ (row.length : Int) < (n : Int) := by omega
            clear rg
            go_wp2_with fail
            refine HP.out.mono ?_
            rintro e w3 ⟨rfl, r3, k3⟩
            have hq3 := HQ.out.keeps k3 (fun y hy e => by have := (HQ.out.lt hy).1; have := HORD.out; omega)
            have R3 := Lib.hid r3
            have K3 := Lib.hid k3
            have HQ3 := Lib.hid hq3
            clear r3 k3 hq3 hcw hcx
            go_wp2_with fail
            go_roundw
            case rel => exact ⟨j + 1, by omega, by go_num, HR.out.call R3.out HQ3.out HSM.out K3.out⟩
            case measure => simp [intOf]; omega
        · have hj3' : ¬ (j : Int) < (m2 : Int) := by omega
          have hcx := hj3'
          have HV := Lib.hid (show j < 18446744073709551616 by omega)
          clear hq
          by_cases hroom : row.length < n
          · have HP := Lib.hid (push0_yes j rg hroom HV.out)
            have hroom' : (row.length : Int) < (n : Int) := by omega
            clear rg
            go_wp2_with fail
            refine HP.out.mono ?_
            rintro e w3 ⟨rfl, r3, k3⟩
            have hq3 := HQ.out.keeps k3 (fun y hy e => by have := (HQ.out.lt hy).1; have := HORD.out; omega)
            have R3 := Lib.hid r3
            have K3 := Lib.hid k3
            have HQ3 := Lib.hid hq3
            have hz3 : q ≤ w3.heap.size := by have := k3.size; have := HORD.out; omega
            clear r3 k3 hq3 hcw hcx
            go_wp2_with (at_builtin; refine Que.wpList_append rfl _ _ 35 rfl i0 _ 8 Try.underlying35 hi0 hz0 hz1 hz2 rfl rfl (HQ3.out.alloc _) ⟨w3.heap.size, 0, none⟩ 1 (.int .u64 ((j : Nat) : Int)) rfl (by rw [(Blk.new w3 30 #[.int .u64 ((j : Nat) : Int)]).cell]; rfl) rfl (by rw [u64s_len]; unfold maxLen; omega) (by rw [u64s_len]; omega) (by simp; omega) ?_; intro v2 w9 hq9 hg9 hat9)
            go_roundw
            case rel => exact ⟨j + 1, by omega, by go_num, HR.out.push R3.out HQ3.out HSM.out HV.out K3.out hq9 hg9⟩
            case measure => simp [intOf]; omega
          · have HP := Lib.hid (push0_no ((j : Nat) : Int) rg hroom)
            have hroom' : ¬ (row.length : Int) < (n : Int) := by omega
            clear rg
            go_wp2_with fail
            refine HP.out.mono ?_
            rintro e w3 ⟨rfl, r3, k3⟩
            have hq3 := HQ.out.keeps k3 (fun y hy e => by have := (HQ.out.lt hy).1; have := HORD.out; omega)
            have R3 := Lib.hid r3
            have K3 := Lib.hid k3
            have HQ3 := Lib.hid hq3
            clear r3 k3 hq3 hcw hcx
            go_wp2_with fail
            go_roundw
            case rel => exact ⟨j + 1, by omega, by go_num, HR.out.call R3.out HQ3.out HSM.out K3.out⟩
            case measure => simp [intOf]; omega
    · obtain ⟨row, rg, hq, hsm⟩ := HR.out.it
      obtain ⟨A1, c1, hu⟩ := hq.form
      rw [u64s_len] at hu
      subst hu
      have hrl : (row.length : Int) ≤ 16 := by have := rg.le; have := HN16.out; omega
      have HB := Lib.hid (show At wr R W n row ∧ Que wr q 30 (.slice A1 row.length c1) (u64s row) ∧ (∀ x ∈ row, x < 18446744073709551616) from ⟨rg, hq, hsm⟩)
      have hj0 : ((j : Int) < (m : Int) ∧ ¬ (j : Int) < 200) ∨ ¬ (j : Int) < (m : Int) := by omega
      clear rg hq hsm hjl
      rcases hj0 with ⟨h1', h2'⟩ | h1'
      all_goals
        go_wp2_with fail
        go_loopw [18] (fun i w9 => ∃ z : Int, i = .int .i64 z ∧ -1 ≤ z ∧ z < (row.length : Int) ∧ At w9 R W n (row.take (z + 1).toNat) ∧ Keeps (· = W) wr w9) (fun i _ => (intOf i + 2).toNat)
        case atStart => exact ⟨(row.length : Int) - 1, rfl, by omega, by omega, by have := HB.out.1; rwa [show ((row.length : Int) - 1 + 1).toNat = row.length from by omega, List.take_length], Keeps.refl _ _⟩
        case round =>
          obtain ⟨z, rfl, hz1, hz2, hat, hkk⟩ := hrel
          have HK := Lib.hid hkk
          have HORD : Hid ((w.heap.size ≤ R ∧ w.heap.size ≤ W) ∧ (R < q ∧ W < q)) := Lib.hid ⟨HR.out.new, HR.out.ord.1, HR.out.ord.2.1⟩
          by_cases hz : 0 ≤ z
          · obtain ⟨k, rfl⟩ := Int.eq_ofNat_of_zero_le hz
            have hkl : k < row.length := by omega
            obtain ⟨x, hx⟩ : ∃ x, row[k]? = some x := ⟨_, List.getElem?_eq_getElem hkl⟩
            rw [show ((k : Int) + 1).toNat = k + 1 from by omega, List.take_add_one, hx] at hat
            have HP := Lib.hid (pop0_yes x hat)
            have hq3 := HB.out.2.1.keeps hkk (fun y hy e => by have := (HB.out.2.1.lt hy).1; have := HORD.out; omega)
            have HQ3 := Lib.hid hq3
            have HXX := Lib.hid (show (u64s row)[k]? = some (.int .u64 (x : Int)) by simp [u64s, hx])
            clear hat hkk hz1 hx hq3
            go_wp2_with fail
            refine HP.out.mono ?_
            rintro e w3 ⟨rfl, h3, k3⟩
            have hq4 := HQ3.out.keeps k3 (fun y hy e => by have := (HQ3.out.lt hy).1; have := HORD.out; omega)
            obtain ⟨bq, oq, rfl, hbq, hcq⟩ := Que.at_ hq4 HXX.out
            have H3 := Lib.hid h3
            have K3 := Lib.hid k3
            clear h3 k3 hq4 hbq
            go_wp2_with fail
            go_roundw
            case rel => exact ⟨(k : Int) - 1, by go_num, by omega, by omega, by rw [show ((k : Int) - 1 + 1).toNat = k from by omega]; exact H3.out, HK.out.trans K3.out⟩
            case measure => simp [intOf]; omega
          · obtain rfl : z = -1 := by omega
            have HP := Lib.hid (pop0_no (by simpa using hat))
            clear hat hkk
            go_wp2_with fail
            refine HP.out.mono ?_
            rintro e w3 ⟨rfl, h3, k3⟩
            have K3 := Lib.hid k3
            clear h3 k3
            go_wp2
            try rw [Exit.noGoto_ret]
            go_ret
            have ho := HORD.out
            exact ⟨rfl, ((HR.out.keep.trans ((HK.out.trans K3.out).mono (fun b hb e => by omega))).only (fun b z => z)).below⟩
end Go.Proofs.Ytjgbbjfphjhdcaa.oc
