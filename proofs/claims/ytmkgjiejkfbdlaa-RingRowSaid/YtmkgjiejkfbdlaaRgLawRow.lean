/-
  RingRow's body.
-/
import Derived.Test.YtmkgjiejkfbdlaaRgWk
import Derived.Test.YtmkgjiejkfbdlaaRgRow
import Derived.Test.YtmkgjiejkfbdlaaOcQue
import Derived.Test.YtmkgjiejkfbdlaaOcDos
import Derived.Deep.RegionHeld3
set_option linter.unusedVariables false
namespace Go.Proofs.Ytmkgjiejkfbdlaa.oc
open Go.RowKit Go.Proofs.Ytmkgjiejkfbdlaa.oc Go.Proofs.Ytmkgjiejkfbdlaa.mz Go.Proofs.Ytmkgjiejkfbdlaa.at_ Go.Proofs.Ytmkgjiejkfbdlaa.gt Go.Proofs.Ytmkgjiejkfbdlaa.rg
theorem u64_info : (Try.prog.info? 31).map (fun i => (i.zero, i.size, i.bytes)) = some (some (.int .u64 0), 1, 8) := by kernel_rfl
/-- what the loops' heads find -/
structure Row (w wr : World) (R W n q : Nat) (v : Value) (c : Nat) : Prop where
  it : ∃ ws row, Rg wr R W n ws ∧ Lk n ws row c ∧ Que wr q 31 v (u64s row) ∧ (∀ x ∈ row, x < 18446744073709551616)
  ord : R < q ∧ W < q ∧ q ≤ wr.heap.size
  new : w.heap.size ≤ R ∧ w.heap.size ≤ W
  keep : Keeps (fun b => w.heap.size ≤ b) w wr
theorem Row.more {w wr : World} {R W n q : Nat} {v : Value} {c c' : Nat} (h : Row w wr R W n q v c) (hc : c ≤ c') : Row w wr R W n q v c' := by
  obtain ⟨ws, row, h1, h2, h3, h4⟩ := h.it
  exact ⟨⟨ws, row, h1, h2.more hc, h3, h4⟩, h.ord, h.new, h.keep⟩
theorem u64s_len (l : List Nat) : (u64s l).length = l.length := by simp [u64s]
/-- a call on the ring alone -/
theorem Row.call {w wr w' : World} {R W n q c c' : Nat} {v0 v : Value} {ws row : List Nat} (h : Row w wr R W n q v0 c) (hr : Rg w' R W n ws) (hl : Lk n ws row c') (hq : Que w' q 31 v (u64s row)) (hs : ∀ x ∈ row, x < 18446744073709551616) (k : Keeps (· = W) wr w') : Row w w' R W n q v c' := by
  have h1 := h.ord
  have h2 := h.new
  have h3 := h.keep.size
  exact ⟨⟨ws, row, hr, hl, hq, hs⟩, ⟨h1.1, h1.2.1, by have := k.size; omega⟩, h2, h.keep.trans (k.mono (fun b hb e => by omega))⟩
/-- the number that was put in stands at the row's end, too -/
theorem Row.push {w wr w' w9 : World} {R W n q c c' : Nat} {v0 v v2 : Value} {ws row : List Nat} {o : Obj} {x : Nat} (h : Row w wr R W n q v0 c) (hr : Rg w' R W n ws) (hl : Lk n ws (row ++ [x]) c') (hq : Que w' q 31 v (u64s row)) (hs : ∀ x ∈ row, x < 18446744073709551616) (hx : x < 18446744073709551616) (k : Keeps (· = W) wr w')
    (hq2 : Que w9 q 31 v2 (u64s row ++ [.int .u64 (x : Int)])) (hg : (w'.alloc o).grownBy w9 v.ownBlock) : Row w w9 R W n q v2 c' := by
  have h1 := h.ord
  have h2 := h.new
  have h3 := h.keep.size
  have hqa := hq.alloc o
  have k2 : Keeps (fun b => v.ownBlock = some b) w' w9 := ((Keeps.refl _ w').alloc o).trans (Keeps.of_grown hg)
  have hlt : ∀ b, v.ownBlock = some b → q ≤ b := fun b hb => (hq.lt hb).1
  refine ⟨⟨ws, row ++ [x], hr.keeps k2 (fun z => by have := hlt _ z; omega) (fun z => by have := hlt _ z; omega), hl, by simpa [u64s] using hq2, fun y hy => ?_⟩, ⟨h1.1, h1.2.1, by have := k.size; have := k2.size; omega⟩, h2, (h.keep.trans (k.mono (fun b hb e => by omega))).trans (k2.mono (fun b hb e => by have := hlt _ e; omega))⟩
  rcases List.mem_append.1 hy with z | z
  · exact hs y z
  · simp at z; subst z; exact hx
theorem Row.below {w wr : World} {R W n q c : Nat} {v : Value} (h : Row w wr R W n q v c) : Below w.heap.size w wr := (h.keep.only (fun b z => z)).below
set_option maxRecDepth 100000 in
set_option maxHeartbeats 8000000 in
theorem walk_ringRow (w : World) (s : Int) (hs1 : -9223372036854775808 ≤ s) (hs2 : s ≤ 9223372036854775807) (A : Option Addr) (m c : Nat) (xs : List (Int × Nat)) (hd : IsDos w A m xs) (hm : m ≤ 140737488351232) (t : Int) (ht1 : -9223372036854775808 ≤ t) (ht2 : t ≤ 9223372036854775807) :
    Calls Try.prog 3 #[.int .i64 s, .slice A m c, .int .i64 t] w fun e w' => e = .returned (.bool true) ∧ Below w.heap.size w w' := by
  obtain ⟨i0, hi0, hz0, hz1, hz2⟩ := info_parts u64_info
  have HD := Lib.hid hd
  clear hd
  have HWK := Lib.hid (works_ w)
  go_enter Try.func3, Try.ntmps3
  go_wp2_with fail
  refine HWK.out.mono ?_
  rintro e w1 ⟨rfl, k1⟩
  have K1 : Hid (∀ S, Keeps S w w1) := Lib.hid k1
  have HWD := Lib.hid (width_ s w1 hs1 hs2)
  clear k1 hs1 hs2 HWK
  go_wp2_with fail
  refine HWD.out.mono ?_
  rintro e w' ⟨n, rfl, hn, rfl⟩
  have hnp : n ∈ pows := by rcases hn with rfl | rfl | rfl | rfl <;> decide
  have HNE := Lib.hid (new_ok n w1 hnp)
  have HNN := Lib.hid hn
  have hn8 : (n : Int) ≤ 8 := by omega
  clear HWD hnp hn
  go_wp2_with fail
  refine HNE.out.mono ?_
  rintro e w2 ⟨R, W, rfl, r2, hR, hW, k2⟩
  have hb : Row w w2 R W n w2.heap.size (.slice none 0 0) (60 * 0) := ⟨⟨_, [], r2, Lk.start HNN.out, Que.nil_ _ _ _, fun x hx => by cases hx⟩, ⟨r2.ltR, r2.ltW, Nat.le_refl _⟩, ⟨Nat.le_trans (K1.out (fun _ => False)).size hR, Nat.le_trans (K1.out (fun _ => False)).size hW⟩, (K1.out _).trans (k2 _)⟩
  have HBEG := Lib.hid hb
  clear r2 hR hW k2 hb HNE
  generalize w2.heap.size = q at *
  go_wp2
  have HWI := fun wr : World => Lib.hid (within_ t 20 wr (by omega) (by omega) ht1 ht2)
  have hr0 : 0 ≤ t % (20 : Int) := Int.emod_nonneg _ (by omega)
  have hr1 : t % (20 : Int) < 20 := Int.emod_lt_of_pos _ (by omega)
  have hcast : ((20 : Nat) : Int) = 20 := rfl
  simp only [hcast] at HWI
  generalize t % (20 : Int) = r at *
  clear hcast ht1 ht2
  go_loopw [10, 11] (fun v i wr => ∃ k : Nat, k ≤ 20 ∧ i = .int .i64 k ∧ Row w wr R W n q v (60 * k)) (fun _ i _ => 21 - (intOf i).toNat)
  case atStart => exact ⟨0, Nat.zero_le _, rfl, HBEG.out⟩
  case round =>
    clear HBEG
    obtain ⟨k, hk, rfl, hR⟩ := hrel
    have HR := Lib.hid hR
    clear hR
    by_cases hlt : (k : Int) < 1 + r
    · have HK20 : Hid (k < 20) := Lib.hid (by omega)
      go_wp2_with fail
      refine (HWI wr).out.mono ?_
      rintro e w' ⟨rfl, rfl⟩
      go_wp2_with fail
      go_loopw [10, 12] (fun v i wr => ∃ j : Nat, j ≤ 60 ∧ i = .int .i64 j ∧ Row w wr R W n q v (60 * k + j)) (fun _ i _ => 61 - (intOf i).toNat)
      case atStart => exact ⟨0, by omega, rfl, HR.out⟩
      case round =>
        clear HR
        obtain ⟨j, hj, rfl, hR⟩ := hrel
        have HR := Lib.hid hR
        clear hR
        by_cases hjl : j < m
        · have hjl' : (j : Int) < (m : Int) := by omega
          by_cases hj6 : j < 60
          · have hj6' : (j : Int) < 60 := by omega
            obtain ⟨ws, row, rg, lk, hq, hsm⟩ := HR.out.it
            obtain ⟨A1, c1, rfl⟩ := hq.form
            rw [u64s_len] at hq ⊢
            obtain ⟨⟨kd, vl⟩, hx⟩ : ∃ z, xs[j]? = some z := ⟨_, List.getElem?_eq_getElem (by rw [HD.out.1]; exact hjl)⟩
            obtain ⟨hk1, hk2, hvl⟩ := HD.out.2.1 _ (List.mem_of_getElem? hx)
            obtain ⟨d1, d2⟩ := dos_at xs j (kd, vl) hx
            obtain ⟨b, o, rfl, hbl, hc⟩ := HD.out.2.2 _ _ d1
            obtain ⟨b1, o1, e1, _, hc'⟩ := HD.out.2.2 _ _ d2
            injection e1 with e1
            injection e1 with e1 e2
            subst e1
            subst e2
            rw [← Nat.add_assoc] at hc'
            simp only at hc hc' hk1 hk2 hvl
            have hcw := Keeps.cell HR.out.keep hc (by omega)
            have hcw' := Keeps.cell HR.out.keep hc' (by omega)
            have hnew := HR.out.new
            have hord := HR.out.ord
            have HW3 := Lib.hid (within_ kd 3 wr (by omega) (by omega) hk1 hk2)
            have hr3 : kd % 3 = 0 ∨ kd % 3 = 1 ∨ kd % 3 = 2 := by omega
            have hc3 : ((3 : Nat) : Int) = 3 := rfl
            rw [hc3] at HW3
            have hrl : (row.length : Int) ≤ 8 := by have := lk.few; omega
            have hcc : 60 * k + j < 100000 := by omega
            have hdif := lk.dif hcc
            have j0 : (0 : Int) ≤ (j : Int) := by omega
            clear hc3 hk1 hk2 hx d1 d2 hc hc'
            generalize kd % 3 = kr at *
            have HORD : Hid ((w.heap.size ≤ R ∧ w.heap.size ≤ W) ∧ (R < q ∧ W < q ∧ q ≤ wr.heap.size) ∧ b < w.heap.size) := Lib.hid ⟨hnew, hord, hbl⟩
            have HQ := Lib.hid hq
            have HLK := Lib.hid lk
            have HSM : Hid (∀ x ∈ row, x < 18446744073709551616) := Lib.hid hsm
            have HVL : Hid (vl < 18446744073709551616) := Lib.hid hvl
            have HCC : Hid (60 * k + j < 100000) := Lib.hid hcc
            clear hnew hord hsm hq hcc
            rcases hr3 with rfl | rfl | rfl
            · by_cases hroom : row.length < n
              · have HP := Lib.hid (put0_yes vl rg (by rw [hdif]; exact hroom) hvl)
                have HL := Lib.hid (lk.put (v := vl) HCC.out hroom)
                have hroom' : (row.length : Int) < (n : Int) := by omega
                clear rg lk hdif hvl
                go_wp2_with fail
                refine HW3.out.mono ?_
                rintro e w' ⟨rfl, rfl⟩
                go_wp2_with fail
                refine HP.out.mono ?_
                rintro e w3 ⟨rfl, r3, k3⟩
                have hq3 := HQ.out.keeps k3 (fun y hy e => by have := (HQ.out.lt hy).1; have := HORD.out; omega)
                have c3 := Keeps.cell k3 hcw' (by have := HORD.out; omega)
                have R3 := Lib.hid r3
                have K3 := Lib.hid k3
                have HQ3 := Lib.hid hq3
                have hz3 : q ≤ w3.heap.size := by have := k3.size; have := HORD.out; omega
                clear r3 k3 hq3 hcw hcw'
                go_wp2_with (at_builtin; refine Que.wpList_append rfl _ _ 29 rfl i0 _ 8 Try.underlying29 hi0 hz0 hz1 hz2 rfl rfl (HQ3.out.alloc _) ⟨w3.heap.size, 0, none⟩ 1 (.int .u64 (vl : Int)) rfl (by rw [(Blk.new w3 31 #[.int .u64 (vl : Int)]).cell]; rfl) rfl (by rw [u64s_len]; unfold maxLen; omega) (by rw [u64s_len]; omega) (by simp; omega) ?_; intro v2 w9 hq9 hg9 hat9)
                go_roundw
                case rel => exact ⟨j + 1, by omega, by go_num, HR.out.push R3.out HL.out HQ3.out HSM.out HVL.out K3.out hq9 hg9⟩
                case measure => simp [intOf]; omega
              · have HP := Lib.hid (put0_no vl rg (by rw [hdif]; exact hroom))
                have hroom' : ¬ (row.length : Int) < (n : Int) := by omega
                clear rg lk hdif hvl
                go_wp2_with fail
                refine HW3.out.mono ?_
                rintro e w' ⟨rfl, rfl⟩
                go_wp2_with fail
                refine HP.out.mono ?_
                rintro e w3 ⟨rfl, r3, k3⟩
                have hq3 := HQ.out.keeps k3 (fun y hy e => by have := (HQ.out.lt hy).1; have := HORD.out; omega)
                have R3 := Lib.hid r3
                have K3 := Lib.hid k3
                have HQ3 := Lib.hid hq3
                clear r3 k3 hq3 hcw hcw'
                go_wp2_with fail
                go_roundw
                case rel => exact ⟨j + 1, by omega, by go_num, HR.out.call R3.out (HLK.out.more (Nat.le_succ _)) HQ3.out HSM.out K3.out⟩
                case measure => simp [intOf]; omega
            · rcases row with _ | ⟨x, rest⟩
              · have HP := Lib.hid (take0_no rg lk.bare)
                clear rg lk hdif hvl
                go_wp2_with fail
                refine HW3.out.mono ?_
                rintro e w' ⟨rfl, rfl⟩
                go_wp2_with fail
                refine HP.out.mono ?_
                rintro e w3 ⟨rfl, r3, k3⟩
                have hq3 := HQ.out.keeps k3 (fun y hy e => by have := (HQ.out.lt hy).1; have := HORD.out; omega)
                have R3 := Lib.hid r3
                have K3 := Lib.hid k3
                have HQ3 := Lib.hid hq3
                clear r3 k3 hq3 hcw hcw'
                go_wp2_with fail
                go_roundw
                case rel => exact ⟨j + 1, by omega, by go_num, HR.out.call R3.out (HLK.out.more (Nat.le_succ _)) HQ3.out HSM.out K3.out⟩
                case measure => simp [intOf]; omega
              · obtain ⟨l1, l2, l3⟩ := lk.take HCC.out
                have HP := Lib.hid (take0_yes rg l1)
                rw [l2] at HP
                have HL := Lib.hid l3
                clear rg lk hdif hvl l1 l2 l3
                go_wp2_with fail
                refine HW3.out.mono ?_
                rintro e w' ⟨rfl, rfl⟩
                go_wp2_with fail
                refine HP.out.mono ?_
                rintro e w3 ⟨rfl, r3, k3⟩
                have hq3 := HQ.out.keeps k3 (fun y hy e => by have := (HQ.out.lt hy).1; have := HORD.out; omega)
                obtain ⟨bq, oq, rfl, _, hcap, hcq, hq4⟩ := Que.front (x := .int .u64 (x : Int)) (r := u64s rest) hq3
                have R3 := Lib.hid r3
                have K3 := Lib.hid k3
                have HQ4 := Lib.hid hq4
                clear r3 k3 hq3 hcw hcw' hq4
                have hrl2 : ((rest.length + 1 : Nat) : Int) ≤ 8 := hrl
                have hcap2 : rest.length + 1 ≤ c1 := hcap
                clear hrl hcap
                go_wp2_with fail
                go_roundw
                case rel => exact ⟨j + 1, by omega, by go_num, HR.out.call R3.out (HL.out.more (Nat.le_succ _)) (by have := HQ4.out; simpa [u64s_len, Addr.add_lit] using this) (fun y hy => HSM.out y (List.mem_cons_of_mem _ hy)) K3.out⟩
                case measure => simp [intOf]; omega
            · have HP := Lib.hid (len0 rg)
              have hmin : min (Go.Proofs.Ytmkgjiejkfbdlaa.rg.dif ws) n = row.length := by have := lk.few; omega
              rw [hmin] at HP
              clear rg lk hdif hvl hmin
              go_wp2_with fail
              refine HW3.out.mono ?_
              rintro e w' ⟨rfl, rfl⟩
              go_wp2_with fail
              refine HP.out.mono ?_
              rintro e w3 ⟨rfl, r3, k3⟩
              have hq3 := HQ.out.keeps k3 (fun y hy e => by have := (HQ.out.lt hy).1; have := HORD.out; omega)
              have R3 := Lib.hid r3
              have K3 := Lib.hid k3
              have HQ3 := Lib.hid hq3
              clear r3 k3 hq3 hcw hcw'
              go_wp2_with fail
              go_roundw
              case rel => exact ⟨j + 1, by omega, by go_num, HR.out.call R3.out (HLK.out.more (Nat.le_succ _)) HQ3.out HSM.out K3.out⟩
              case measure => simp [intOf]; omega
          · have hj6' : ¬ (j : Int) < 60 := by omega
            have HJ : Hid (j = 60) := Lib.hid (by omega)
            clear hj6
            go_wp2_with fail
            go_roundw
            case rel => exact ⟨k + 1, by have := HK20.out; omega, by go_num, by have := HJ.out; exact HR.out.more (by omega)⟩
            case measure => simp [intOf]; omega
        · have hjl' : ¬ (j : Int) < (m : Int) := by omega
          go_wp2_with fail
          go_roundw
          case rel => exact ⟨k + 1, by have := HK20.out; omega, by go_num, HR.out.more (by omega)⟩
          case measure => simp [intOf]; omega
    · go_wp2_with fail
      refine (HWI wr).out.mono ?_
      rintro e w' ⟨rfl, rfl⟩
      go_wp2
      go_ret
      exact ⟨rfl, HR.out.below⟩
end Go.Proofs.Ytmkgjiejkfbdlaa.oc
