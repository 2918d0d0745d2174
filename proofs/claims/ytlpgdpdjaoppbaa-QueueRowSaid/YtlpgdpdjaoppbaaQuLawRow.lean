/-
  QueueRow's body.
-/
import Derived.Test.YtlpgdpdjaoppbaaQuWk
import Derived.Test.YtlpgdpdjaoppbaaOcDos
set_option linter.unusedVariables false
namespace Go.Proofs.Ytlpgdpdjaoppbaa.oc
open Go.RowKit Go.Proofs.Ytlpgdpdjaoppbaa.oc Go.Proofs.Ytlpgdpdjaoppbaa.mz Go.Proofs.Ytlpgdpdjaoppbaa.at_ Go.Proofs.Ytlpgdpdjaoppbaa.gt Go.Proofs.Ytlpgdpdjaoppbaa.gw Go.Proofs.Ytlpgdpdjaoppbaa.qu
theorem Que.rd {w : World} {base n c : Nat} {e : TypeId} {A : Option Addr} {xs : List Value} (h : Que w base e (.slice A n c) xs) : Rd w w.heap.size A xs := by
  rcases h with ⟨h, rfl⟩ | ⟨g, off, cap, cs, he, h1, h2, h3, h4, h5⟩
  · intro k v hk; simp at hk
  · injection he with ha hn hc
    subst ha
    intro k v hk
    exact ⟨g, off, rfl, h2.lt, by rw [h2.cell]; exact h5 k v hk⟩
theorem Que.more {w : World} {base base' : Nat} {e : TypeId} {v : Value} {xs : List Value} (h : Que w base e v xs) (hb : base' ≤ base) : Que w base' e v xs := by
  rcases h with h | ⟨g, off, cap, cs, rfl, h1, h2⟩
  · exact .inl h
  · exact .inr ⟨g, off, cap, cs, rfl, by omega, h2⟩
/-- what the loops' heads find -/
structure QRow (w wr : World) (R W n q : Nat) (v : Value) (c : Nat) : Prop where
  it : ∃ ws row, Qu wr R W n ws ∧ Lk n ws row c ∧ Que wr q 31 v (u64s row) ∧ (∀ x ∈ row, x < 18446744073709551616)
  ord : R < q ∧ W < q ∧ q ≤ wr.heap.size
  new : w.heap.size ≤ R ∧ w.heap.size ≤ W
  keep : Keeps (fun b => w.heap.size ≤ b) w wr
theorem QRow.more {w wr : World} {R W n q : Nat} {v : Value} {c c' : Nat} (h : QRow w wr R W n q v c) (hc : c ≤ c') : QRow w wr R W n q v c' := by
  obtain ⟨ws, row, h1, h2, h3, h4⟩ := h.it
  exact ⟨⟨ws, row, h1, h2.more hc, h3, h4⟩, h.ord, h.new, h.keep⟩
theorem QRow.grown {w wr wa : World} {R W n q : Nat} {v : Value} {c : Nat} (h : QRow w wr R W n q v c) (k : ∀ S, Keeps S wr wa) : QRow w wa R W n q v c := by
  obtain ⟨ws, row, h1, h2, h3, h4⟩ := h.it
  exact ⟨⟨ws, row, h1.keeps (k (fun _ => False)) (fun z => z) (fun z => z), h2, h3.keeps (k (fun _ => False)) (fun _ _ z => z), h4⟩, ⟨h.ord.1, h.ord.2.1, Nat.le_trans h.ord.2.2 (k (fun _ => False)).size⟩, h.new, h.keep.trans (k _)⟩
/-- a call on the queue alone -/
theorem QRow.call {w wr w' : World} {R W n q c c' : Nat} {v0 v : Value} {ws row : List Nat} (h : QRow w wr R W n q v0 c) (hr : Qu w' R W n ws) (hl : Lk n ws row c') (hq : Que w' q 31 v (u64s row)) (hs : ∀ x ∈ row, x < 18446744073709551616) (k : Keeps (· = W) wr w') : QRow w w' R W n q v c' := by
  have h1 := h.ord
  have h2 := h.new
  have h3 := h.keep.size
  exact ⟨⟨ws, row, hr, hl, hq, hs⟩, ⟨h1.1, h1.2.1, by have := k.size; omega⟩, h2, h.keep.trans (k.mono (fun b hb e => by omega))⟩
/-- the number that was put in stands at the row's end, too -/
theorem QRow.push {w wr w' w9 : World} {R W n q c c' : Nat} {v0 v v2 : Value} {ws row : List Nat} {o : Obj} {x : Nat} (h : QRow w wr R W n q v0 c) (hr : Qu w' R W n ws) (hl : Lk n ws (row ++ [x]) c') (hq : Que w' q 31 v (u64s row)) (hs : ∀ x ∈ row, x < 18446744073709551616) (hx : x < 18446744073709551616) (k : Keeps (· = W) wr w')
    (hq2 : Que w9 q 31 v2 (u64s row ++ [.int .u64 (x : Int)])) (hg : (w'.alloc o).grownBy w9 v.ownBlock) : QRow w w9 R W n q v2 c' := by
  have h1 := h.ord
  have h2 := h.new
  have h3 := h.keep.size
  have hqa := hq.alloc o
  have k2 : Keeps (fun b => v.ownBlock = some b) w' w9 := ((Keeps.refl _ w').alloc o).trans (Keeps.of_grown hg)
  have hlt : ∀ b, v.ownBlock = some b → q ≤ b := fun b hb => (hq.lt hb).1
  refine ⟨⟨ws, row ++ [x], hr.keeps k2 (fun z => by have := hlt _ z; omega) (fun z => by have := hlt _ z; omega), hl, by simpa [u64s] using hq2, fun y hy => ?_⟩, ⟨h1.1, h1.2.1, by have := k.size; have := k2.size; omega⟩, h2, (h.keep.trans (k.mono (fun b hb e => by omega))).trans (k2.mono (fun b hb e => by have := hlt _ e; omega))⟩
  rcases List.mem_append.1 hy with z | z
  · exact hs y z
  · simp at z; subst z; exact hx
theorem QRow.below {w wr : World} {R W n q c : Nat} {v : Value} (h : QRow w wr R W n q v c) : Below w.heap.size w wr := (h.keep.only (fun b z => z)).below
set_option maxRecDepth 100000 in
set_option maxHeartbeats 8000000 in
theorem walk_queueRow (w : World) (s : Int) (hs1 : -9223372036854775808 ≤ s) (hs2 : s ≤ 9223372036854775807) (A : Option Addr) (m c : Nat) (xs : List (Int × Nat)) (hd : IsDos w A m xs) (hm : m ≤ 140737488351232) (t : Int) (ht1 : -9223372036854775808 ≤ t) (ht2 : t ≤ 9223372036854775807) :
    Calls Try.prog 3 #[.int .i64 s, .slice A m c, .int .i64 t] w fun e w' => e = .returned (.bool true) ∧ Below w.heap.size w w' := by
  obtain ⟨i0, hi0, hz0, hz1, hz2⟩ := info_parts qu.u64_info
  have HD := Lib.hid hd
  clear hd
  have HWK := Lib.hid (works_ w)
  go_enter Try.func3, Try.ntmps3
  go_wp2_with fail
  refine HWK.out.mono ?_
  rintro e w1 ⟨rfl, k1⟩
  have K1 : Hid (∀ S, Keeps S w w1) := Lib.hid k1
  have HWD := Lib.hid (width_ s w1 hs1 hs2)
  clear k1 hs1 hs2 HWK
  go_wp2_with fail
  refine HWD.out.mono ?_
  rintro e w' ⟨n, rfl, hn, rfl⟩
  have hnp : n ∈ pows := by rcases hn with rfl | rfl | rfl <;> decide
  have HNE := Lib.hid (new_ok n w1 hnp)
  have HNN := Lib.hid hnp
  have hn8 : (n : Int) ≤ 8 := by omega
  clear HWD hnp hn
  go_wp2_with fail
  refine HNE.out.mono ?_
  rintro e w2 ⟨R, W, rfl, r2, hR, hW, k2⟩
  have hb : QRow w w2 R W n w2.heap.size (.slice none 0 0) (30 * 0) := ⟨⟨_, [], r2, Lk.start HNN.out, Que.nil_ _ _ _, fun x hx => by cases hx⟩, ⟨r2.ltQ, r2.ltW, Nat.le_refl _⟩, ⟨Nat.le_trans (K1.out (fun _ => False)).size hR, Nat.le_trans (K1.out (fun _ => False)).size hW⟩, (K1.out _).trans (k2 _)⟩
  have HBEG := Lib.hid hb
  clear r2 hR hW k2 hb HNE
  generalize w2.heap.size = q at *
  go_wp2
  have HWI := fun wr : World => Lib.hid (within_ t 20 wr (by omega) (by omega) ht1 ht2)
  have hr0 : 0 ≤ t % (20 : Int) := Int.emod_nonneg _ (by omega)
  have hr1 : t % (20 : Int) < 20 := Int.emod_lt_of_pos _ (by omega)
  have hcast : ((20 : Nat) : Int) = 20 := rfl
  simp only [hcast] at HWI
  generalize t % (20 : Int) = r at *
  clear hcast ht1 ht2
  go_loopw [10, 11] (fun v i wr => ∃ k : Nat, k ≤ 20 ∧ i = .int .i64 k ∧ QRow w wr R W n q v (30 * k)) (fun _ i _ => 21 - (intOf i).toNat)
  case atStart => exact ⟨0, Nat.zero_le _, rfl, HBEG.out⟩
  case round =>
    clear HBEG
    obtain ⟨k, hk, rfl, hR⟩ := hrel
    have HR := Lib.hid hR
    clear hR
    by_cases hlt : (k : Int) < 1 + r
    · have HK20 : Hid (k < 20) := Lib.hid (by omega)
      go_wp2_with fail
      refine (HWI wr).out.mono ?_
      rintro e w' ⟨rfl, rfl⟩
      go_wp2_with fail
      go_loopw [10, 12] (fun v i wr => ∃ j : Nat, j ≤ 30 ∧ i = .int .i64 j ∧ QRow w wr R W n q v (30 * k + j)) (fun _ i _ => 31 - (intOf i).toNat)
      case atStart => exact ⟨0, by omega, rfl, HR.out⟩
      case round =>
        clear HR
        obtain ⟨j, hj, rfl, hR⟩ := hrel
        have HR0 := Lib.hid hR
        clear hR
        by_cases hjl : j < m
        · have hjl' : (j : Int) < (m : Int) := by omega
          by_cases hj6 : j < 30
          · have hj6' : (j : Int) < 30 := by omega
            obtain ⟨⟨kd, vl⟩, hx⟩ : ∃ z, xs[j]? = some z := ⟨_, List.getElem?_eq_getElem (by rw [HD.out.1]; exact hjl)⟩
            obtain ⟨hk1, hk2, hvl⟩ := HD.out.2.1 _ (List.mem_of_getElem? hx)
            obtain ⟨d1, d2⟩ := dos_at xs j (kd, vl) hx
            obtain ⟨b, o, rfl, hbl, hc⟩ := HD.out.2.2 _ _ d1
            obtain ⟨b1, o1, e1, _, hc'⟩ := HD.out.2.2 _ _ d2
            injection e1 with e1
            injection e1 with e1 e2
            subst e1
            subst e2
            rw [← Nat.add_assoc] at hc'
            simp only at hc hc' hk1 hk2 hvl
            have hcw := Keeps.cell HR0.out.keep hc (by omega)
            have hcw' := Keeps.cell HR0.out.keep hc' (by omega)
            obtain ⟨wa, hwa, ka, ba⟩ := enter_blk wr #[.int .i64 kd, .int .u64 (vl : Int)] 33
            have HR := Lib.hid (HR0.out.grown ka)
            have hX : wr.heap.size < wa.heap.size := ba.lt
            have x0 : wa.cell? ⟨wr.heap.size, 0, none⟩ = some (.int .i64 kd) := by rw [ba.cell]; rfl
            have x1 : wa.cell? ⟨wr.heap.size, 1, none⟩ = some (.int .u64 (vl : Int)) := by rw [ba.cell]; rfl
            have hqX : q ≤ wr.heap.size := HR0.out.ord.2.2
            have HWA := Lib.hid hwa
            clear hwa ka ba HR0
            obtain ⟨ws, row, rg, lk, hq, hsm⟩ := HR.out.it
            obtain ⟨A1, c1, hu⟩ := hq.form
            rw [u64s_len] at hu
            subst hu
            have hnew := HR.out.new
            have hord := HR.out.ord
            have HW3 := Lib.hid (within_ kd 3 wa (by omega) (by omega) hk1 hk2)
            have hr3 : kd % 3 = 0 ∨ kd % 3 = 1 ∨ kd % 3 = 2 := by omega
            have hc3 : ((3 : Nat) : Int) = 3 := rfl
            rw [hc3] at HW3
            have hrl : (row.length : Int) ≤ 8 := by have := lk.few; omega
            have hcc : 30 * k + j < 800000 := by omega
            have j0 : (0 : Int) ≤ (j : Int) := by omega
            clear hc3 hk1 hk2 hx d1 d2 hc hc'
            generalize kd % 3 = kr at *
            have HORD : Hid ((w.heap.size ≤ R ∧ w.heap.size ≤ W) ∧ (R < q ∧ W < q ∧ q ≤ wr.heap.size) ∧ b < w.heap.size ∧ wr.heap.size < wa.heap.size) := Lib.hid ⟨hnew, ⟨hord.1, hord.2.1, hqX⟩, hbl, hX⟩
            have HQ := Lib.hid hq
            have HLK := Lib.hid lk
            have HSM : Hid (∀ x ∈ row, x < 18446744073709551616) := Lib.hid hsm
            have HVL : Hid (vl < 18446744073709551616) := Lib.hid hvl
            clear hnew hord hsm hq hX hqX
            rcases hr3 with rfl | rfl | rfl
            · by_cases hroom : row.length < n
              · have HP := Lib.hid (put0_yes vl rg lk hcc hroom hvl)
                have HL := Lib.hid (lk.put (v := vl) hroom)
                have hroom' : (row.length : Int) < (n : Int) := by omega
                clear rg lk hvl hcc
                go_wp2_with fail
                rw [← HWA.out]
                go_wp2_with fail
                refine HW3.out.mono ?_
                rintro e w' ⟨rfl, rfl⟩
                go_wp2_with fail
                refine HP.out.mono ?_
                rintro e w3 ⟨rfl, r3, k3⟩
                have hq3 := HQ.out.keeps k3 (fun y hy e => by have := (HQ.out.lt hy).1; have := HORD.out; omega)
                have c3 := Keeps.cell k3 x1 (by have := HORD.out; omega)
                have R3 := Lib.hid r3
                have K3 := Lib.hid k3
                have HQ3 := Lib.hid hq3
                have hz3 : q ≤ w3.heap.size := by have := k3.size; have := HORD.out; omega
                clear r3 k3 hq3 hcw hcw' x0 x1
                go_wp2_with (at_builtin; refine Que.wpList_append rfl _ _ 29 rfl i0 _ 8 Try.underlying29 hi0 hz0 hz1 hz2 rfl rfl (HQ3.out.alloc _) ⟨w3.heap.size, 0, none⟩ 1 (.int .u64 (vl : Int)) rfl (by rw [(Blk.new w3 31 #[.int .u64 (vl : Int)]).cell]; rfl) rfl (by rw [u64s_len]; unfold maxLen; omega) (by rw [u64s_len]; omega) (by simp; omega) ?_; intro v2 w9 hq9 hg9 hat9)
                go_roundw
                case rel => exact ⟨j + 1, by omega, by go_num, HR.out.push R3.out HL.out HQ3.out HSM.out HVL.out K3.out hq9 hg9⟩
                case measure => simp [intOf]; omega
              · have HP := Lib.hid (put0_no vl rg lk hcc hroom)
                have hroom' : ¬ (row.length : Int) < (n : Int) := by omega
                clear rg lk hvl hcc
                go_wp2_with fail
                rw [← HWA.out]
                go_wp2_with fail
                refine HW3.out.mono ?_
                rintro e w' ⟨rfl, rfl⟩
                go_wp2_with fail
                refine HP.out.mono ?_
                rintro e w3 ⟨rfl, r3, k3⟩
                have hq3 := HQ.out.keeps k3 (fun y hy e => by have := (HQ.out.lt hy).1; have := HORD.out; omega)
                have R3 := Lib.hid r3
                have K3 := Lib.hid k3
                have HQ3 := Lib.hid hq3
                clear r3 k3 hq3 hcw hcw' x0 x1
                go_wp2_with fail
                go_roundw
                case rel => exact ⟨j + 1, by omega, by go_num, HR.out.call R3.out (HLK.out.more (Nat.le_succ _)) HQ3.out HSM.out K3.out⟩
                case measure => simp [intOf]; omega
            · rcases row with _ | ⟨x, rest⟩
              · have HP := Lib.hid (take0_no rg lk hcc)
                clear rg lk hvl hcc
                go_wp2_with fail
                rw [← HWA.out]
                go_wp2_with fail
                refine HW3.out.mono ?_
                rintro e w' ⟨rfl, rfl⟩
                go_wp2_with fail
                refine HP.out.mono ?_
                rintro e w3 ⟨rfl, r3, k3⟩
                have hq3 := HQ.out.keeps k3 (fun y hy e => by have := (HQ.out.lt hy).1; have := HORD.out; omega)
                have R3 := Lib.hid r3
                have K3 := Lib.hid k3
                have HQ3 := Lib.hid hq3
                clear r3 k3 hq3 hcw hcw' x0 x1
                go_wp2_with fail
                go_roundw
                case rel => exact ⟨j + 1, by omega, by go_num, HR.out.call R3.out (HLK.out.more (Nat.le_succ _)) HQ3.out HSM.out K3.out⟩
                case measure => simp [intOf]; omega
              · have HP := Lib.hid (take0_yes x rg lk hcc)
                have HL := Lib.hid lk.take
                clear rg lk hvl hcc
                go_wp2_with fail
                rw [← HWA.out]
                go_wp2_with fail
                refine HW3.out.mono ?_
                rintro e w' ⟨rfl, rfl⟩
                go_wp2_with fail
                refine HP.out.mono ?_
                rintro e w3 ⟨rfl, r3, k3⟩
                have hq3 := HQ.out.keeps k3 (fun y hy e => by have := (HQ.out.lt hy).1; have := HORD.out; omega)
                obtain ⟨bq, oq, rfl, _, hcap, hcq, hq4⟩ := Que.front (x := .int .u64 (x : Int)) (r := u64s rest) hq3
                have R3 := Lib.hid r3
                have K3 := Lib.hid k3
                have HQ4 := Lib.hid hq4
                clear r3 k3 hq3 hcw hcw' hq4 x0 x1
                have hrl2 : ((rest.length + 1 : Nat) : Int) ≤ 8 := hrl
                have hcap2 : rest.length + 1 ≤ c1 := hcap
                clear hrl hcap
                go_wp2_with fail
                go_roundw
                case rel => exact ⟨j + 1, by omega, by go_num, HR.out.call R3.out (HL.out.more (Nat.le_succ _)) (by have := HQ4.out; simpa [u64s_len, Addr.add_lit] using this) (fun y hy => HSM.out y (List.mem_cons_of_mem _ hy)) K3.out⟩
                case measure => simp [intOf]; omega
            · have HP := Lib.hid (drain0 rg lk hcc)
              have HL := Lib.hid (drain_lk row ws lk)
              clear rg lk hvl hcc
              go_wp2_with fail
              rw [← HWA.out]
              go_wp2_with fail
              refine HW3.out.mono ?_
              rintro e w' ⟨rfl, rfl⟩
              go_wp2_with fail
              refine HP.out.mono ?_
              rintro e w3 ⟨Ad, cd, rfl, hqd, r3, k3⟩
              have hq3 := HQ.out.keeps k3 (fun y hy e => by have := (HQ.out.lt hy).1; have := HORD.out; omega)
              have HSW := Lib.hid (same_words Ad A1 row row.length cd c1 _ _ w3 rfl (by omega) hqd.rd hq3.rd)
              have R3 := Lib.hid r3
              have K3 := Lib.hid k3
              clear r3 k3 hq3 hqd hcw hcw' x0 x1
              go_wp2_with fail
              refine HSW.out.mono ?_
              rintro e w4 ⟨rfl, dd, rfl⟩
              go_wp2_with fail
              go_roundw
              case rel => exact ⟨j + 1, by omega, by go_num, HR.out.call (R3.out.keeps (S := fun _ => False) (Keeps.of_drew _ _) (fun z => z) (fun z => z)) (HL.out.more (Nat.le_succ _)) (Que.nil_ _ _ _) (fun x hx => by cases hx) (K3.out.trans (Keeps.of_drew _ _))⟩
              case measure => simp [intOf]; omega
          · have hj6' : ¬ (j : Int) < 30 := by omega
            have HJ : Hid (j = 30) := Lib.hid (by omega)
            clear hj6
            go_wp2_with fail
            go_roundw
            case rel => exact ⟨k + 1, by have := HK20.out; omega, by go_num, by have := HJ.out; exact HR0.out.more (by omega)⟩
            case measure => simp [intOf]; omega
        · have hjl' : ¬ (j : Int) < (m : Int) := by omega
          go_wp2_with fail
          go_roundw
          case rel => exact ⟨k + 1, by have := HK20.out; omega, by go_num, HR0.out.more (by omega)⟩
          case measure => simp [intOf]; omega
    · go_wp2_with fail
      refine (HWI wr).out.mono ?_
      rintro e w' ⟨rfl, rfl⟩
      go_wp2
      go_ret
      exact ⟨rfl, HR.out.below⟩
end Go.Proofs.Ytlpgdpdjaoppbaa.oc
