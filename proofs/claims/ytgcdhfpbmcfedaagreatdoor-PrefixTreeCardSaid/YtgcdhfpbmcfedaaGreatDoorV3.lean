/-
  patchbayref15: six. What is written is read: texts of IPv4 and IPv6, plainly. The text of an address is read as it was; two addresses have one text only if they are one. patchbayref15: ReadAddr: the address whose text it is, or the refusal. patchbayref15: Text. The text of a prefix is read as it was, plainly: the last stroke, one text only. patchbayref15: Read: the prefix whose text it is, or the refusal. Regions that draw their order, whose calls make memory of their own: one walk in the order of the text. prefix: first, width. Equality of arrays of 16 bytes, of addresses, of prefixes. prefix: CheckAddr.
-/
import Derived.Deep.QuietTactic
import Derived.BigQuiet
import Derived.Test.YtgcdhfpbmcfedaaGreatDoorV2
section
set_option linter.unusedVariables false
set_option linter.unusedSimpArgs false
namespace Go.Proofs.YtgcdhfpbmcfedaaGreatDoor.pf
open Go.RowKit Go.Proofs.YtgcdhfpbmcfedaaGreatDoor.oc Go.Proofs.YtgcdhfpbmcfedaaGreatDoor.mz Go.Proofs.YtgcdhfpbmcfedaaGreatDoor.wh
def zero6 : Ad := ⟨true, zero16⟩
theorem zero6_cells : adc zero6 = [.bool true, .int .u8 0, .int .u8 0, .int .u8 0, .int .u8 0, .int .u8 0, .int .u8 0, .int .u8 0, .int .u8 0, .int .u8 0, .int .u8 0, .int .u8 0, .int .u8 0, .int .u8 0, .int .u8 0, .int .u8 0, .int .u8 0] := rfl
theorem str_extract (l : List Nat) (i j : Nat) : (str l).extract i j = str ((l.drop i).take (j - i)) := by
  apply ByteArray.ext
  simp [str, ByteArray.data_extract, List.drop_take]
theorem Que.at_ {w : World} {base : Nat} {e : TypeId} {A : Option Addr} {n c : Nat} {xs : List Value} (h : Que w base e (.slice A n c) xs) {k : Nat} {x : Value} (hk : xs[k]? = some x) :
    ∃ b o, A = some ⟨b, o, none⟩ ∧ base ≤ b ∧ b < w.heap.size ∧ w.cell? ⟨b, o + k, none⟩ = some x := by
  have hq := h
  rcases h with ⟨_, rfl⟩ | ⟨g, off, cap, cs, he, h1, h2, h3, h4, h5⟩
  · simp at hk
  · injection he with ha hn hc
    subst ha
    exact ⟨g, off, rfl, (hq.lt rfl).1, h2.lt, by rw [h2.cell]; exact h5 k x hk⟩
/-- the address that is filled, and the result's place -/
structure SI (w wr : World) (B : List Nat) : Prop where
  len : B.length = 16
  lt : ∀ x ∈ B, x < 256
  bq : Blk wr (w.heap.size + 1) 24 (adc ⟨true, B⟩)
  bp : Blk wr w.heap.size 24 (adc zeroA)
  keep : ∀ S, Keeps S w wr
theorem SI.wf {w wr : World} {B : List Nat} (h : SI w wr B) : (⟨true, B⟩ : Ad).Wf := ⟨h.len, h.lt⟩
theorem SI.keeps {w wr w' : World} {B : List Nat} (h : SI w wr B) (k : ∀ S, Keeps S wr w') : SI w w' B := ⟨h.len, h.lt, Blk.keeps h.bq (k (fun _ => False)) (fun z => z), Blk.keeps h.bp (k (fun _ => False)) (fun z => z), fun S => (h.keep S).trans (k S)⟩
theorem SI.ret {w wr : World} {B : List Nat} (h : SI w wr B) :
    ((wr.rangeAt (w.heap.size + 1) 0 (adc ⟨true, B⟩)) ∧ wr.there w.heap.size 0 (adc ⟨true, B⟩).toArray.size) ∧ ((Tryz.prog.info? 24).map (·.size) = some (adc ⟨true, B⟩).length ∧ (Tryz.prog.info? 24).map (·.size) = some (adc ⟨true, B⟩).toArray.size) ∧ (adc ⟨true, B⟩).toArray.all (·.oneCell') = true ∧
    Blk (wr.setCells w.heap.size 0 (adc ⟨true, B⟩)) w.heap.size 24 (adc ⟨true, B⟩) ∧ ∀ S, Keeps S w (wr.setCells w.heap.size 0 (adc ⟨true, B⟩)) := by
  have hl : (adc ⟨true, B⟩).length = 17 := adc_len h.wf
  obtain ⟨t0, b9, k9⟩ := over_all (vs := adc ⟨true, B⟩) h.bp (by rw [hl]; rfl)
  refine ⟨⟨Blk.range h.bq, t0⟩, ⟨by rw [hl]; exact addr_info, by rw [List.size_toArray, hl]; exact addr_info⟩, all_oneCell_toArray (ad_one _), b9, fun S => ?_⟩
  have kk := h.keep S
  exact ⟨Nat.le_trans kk.size k9.size, fun x hx hs => by rw [k9.block x (Nat.lt_of_lt_of_le hx kk.size) (by omega), kk.block x hx hs], kk.same.trans k9.same⟩
theorem SI.cell {w wr : World} {B : List Nat} (h : SI w wr B) {p : Nat} (hp : p < 16) : (∃ u, wr.cell? ⟨w.heap.size + 1, 1 + p, none⟩ = some u) ∧ wr.frozen? ⟨w.heap.size + 1, 1 + p, none⟩ = false :=
  ⟨⟨_, ad_byt h.wf h.bq hp⟩, h.bq.frozen _⟩
theorem SI.cell2 {w wr : World} {B : List Nat} (h : SI w wr B) {p q x : Nat} (hp : p < 16) (hq : q < 16) (hx : x < 256) : (∃ u, (wr.setCell ⟨w.heap.size + 1, 1 + p, none⟩ (.int .u8 (x : Int))).cell? ⟨w.heap.size + 1, 1 + q, none⟩ = some u) ∧ (wr.setCell ⟨w.heap.size + 1, 1 + p, none⟩ (.int .u8 (x : Int))).frozen? ⟨w.heap.size + 1, 1 + q, none⟩ = false := by
  have b := h.bq.put (1 + p) (.int .u8 (x : Int))
  rw [← adc_set] at b
  have hw : (⟨true, B.set p x⟩ : Ad).Wf := ⟨by simp [h.len], fun z hz => by
    rcases List.mem_or_eq_of_mem_set hz with c | c
    · exact h.lt z c
    · omega⟩
  exact ⟨⟨_, ad_byt hw b hq⟩, b.frozen _⟩
/-- two bytes are put -/
theorem SI.put {w wr : World} {B : List Nat} (h : SI w wr B) {p q x y : Nat} (hp : p < 16) (hq : q < 16) (hx : x < 256) (hy : y < 256) :
    SI w ((wr.setCell ⟨w.heap.size + 1, 1 + p, none⟩ (.int .u8 (x : Int))).setCell ⟨w.heap.size + 1, 1 + q, none⟩ (.int .u8 (y : Int))) ((B.set p x).set q y) ∧ Keeps (· = w.heap.size + 1) wr ((wr.setCell ⟨w.heap.size + 1, 1 + p, none⟩ (.int .u8 (x : Int))).setCell ⟨w.heap.size + 1, 1 + q, none⟩ (.int .u8 (y : Int))) := by
  have kD : Keeps (· = w.heap.size + 1) wr ((wr.setCell ⟨w.heap.size + 1, 1 + p, none⟩ (.int .u8 (x : Int))).setCell ⟨w.heap.size + 1, 1 + q, none⟩ (.int .u8 (y : Int))) := (Keeps.here _).trans (Keeps.here _)
  refine ⟨⟨by simp [h.len], fun z hz => ?_, ?_, Blk.keeps h.bp kD (by omega), fun S => ?_⟩, kD⟩
  · rcases List.mem_or_eq_of_mem_set hz with c | c
    · rcases List.mem_or_eq_of_mem_set c with d | d
      · exact h.lt z d
      · omega
    · omega
  · rw [adc_set, adc_set]; exact (h.bq.put (1 + p) _).put (1 + q) _
  · have kk := h.keep S
    exact ⟨Nat.le_trans kk.size kD.size, fun x hx hs => by rw [kD.block x (Nat.lt_of_lt_of_le hx kk.size) (by omega), kk.block x hx hs], kk.same.trans kD.same⟩
/-- a list of numbers that lies elsewhere -/
def Nums (w wr : World) (A : Option Addr) (n c : Nat) (X : List Nat) : Prop := ∀ (i x : Nat), X[i]? = some x → ∃ b o, A = some ⟨b, o, none⟩ ∧ b ≠ w.heap.size + 1 ∧ b < wr.heap.size ∧ wr.cell? ⟨b, o + i, none⟩ = some (.int .i64 (x : Int))
theorem Nums.keeps {w wr w' : World} {A : Option Addr} {n c : Nat} {X : List Nat} (h : Nums w wr A n c X) (k : Keeps (· = w.heap.size + 1) wr w') : Nums w w' A n c X := fun i x hx => by
  obtain ⟨b, o, h1, h2, h3, h4⟩ := h i x hx
  exact ⟨b, o, h1, h2, Nat.lt_of_lt_of_le h3 k.size, Keeps.cell k h4 h2⟩
theorem Nums.of {w w2 wr : World} {A : Option Addr} {c : Nat} {X : List Nat} (h : Que wr w2.heap.size 3 (.slice A X.length c) (i64s X)) (hz : w.heap.size + 1 < w2.heap.size) : Nums w wr A X.length c X := fun i x hx => by
  obtain ⟨b, o, h1, h2, h3, h4⟩ := Que.at_ h (k := i) (x := .int .i64 (x : Int)) (by simp [i64s, hx])
  exact ⟨b, o, h1, by omega, h3, h4⟩
theorem gap_step {l : List Nat} {i x y : Nat} {r : List Nat} (hd : l.drop i = x :: y :: r) (h : gapL l = (gapL (l.drop i)).map (· + i)) :
    (x = 58 ∧ y = 58 → gapL l = some i) ∧ (¬ (x = 58 ∧ y = 58) → gapL l = (gapL (l.drop (i + 1))).map (· + (i + 1))) := by
  have h1 : l.drop (i + 1) = y :: r := by rw [← List.drop_drop, hd]; rfl
  rw [hd, gapL] at h
  constructor
  · intro c; rw [if_pos c] at h; simpa using h
  · intro c
    rw [if_neg c, ← h1] at h
    rw [h, Option.map_map]
    congr 1
    funext z
    simp; omega
theorem gap_end {l : List Nat} {i : Nat} (hi : ¬ i + 1 < l.length) (h : gapL l = (gapL (l.drop i)).map (· + i)) : gapL l = none := by
  have : gapL (l.drop i) = none := by
    have hl : (l.drop i).length ≤ 1 := by simp; omega
    match hd : l.drop i with
    | [] => rfl
    | [_] => rfl
    | _ :: _ :: _ => rw [hd] at hl; simp at hl
  rw [h, this]; rfl
section
variable (w : World)
set_option maxRecDepth 100000 in
set_option maxHeartbeats 8000000 in
theorem six_ (l : List Nat) (hb : ∀ x ∈ l, x < 256) (hl : l.length < 140737488355328) : Calls Tryz.prog 59 #[.string (str l)] w fun e w' => e = .returned (.tuple #[av ⟨true, (sixF l).1⟩, .bool (sixF l).2]) ∧ ∀ S, Keeps S w w' := by
  obtain ⟨m, hm⟩ : ∃ m, m = l.length := ⟨_, rfl⟩
  obtain ⟨s, hs⟩ : ∃ s, s = str l := ⟨_, rfl⟩
  have hsz : (s.size : Int) = (m : Int) := by rw [hs, str_size, hm]
  obtain ⟨R, hR⟩ : ∃ R, R = sixF l := ⟨_, rfl⟩
  obtain ⟨w1, hw1, K1, B1, B2⟩ := box_two w (adc zeroA) (adc zero6) 24 24
  rw [zeroA_cells, zero6_cells] at hw1
  rw [← hs, ← hR]
  have HW := Lib.hid hw1
  have HSI := Lib.hid (show SI w w1 zero16 from ⟨rfl, fun x hx => by have := (List.mem_replicate.1 hx).2; omega, B2, B1, K1⟩)
  have HS := Lib.hid (show (∀ x ∈ l, x < 256) ∧ m = l.length ∧ s = str l ∧ m < 140737488355328 ∧ R = sixF l from ⟨hb, hm, hs, by omega, hR⟩)
  have hm9 : m < 140737488355328 := by omega
  have HG0 := Lib.hid (show gapL l = (gapL (l.drop 0)).map (· + 0) from by simp)
  clear hb hl hm hs hR K1 B1 B2 hw1
  go_enter Tryz.func59, Tryz.ntmps59
  go_wp2_with fail
  rw [← HW.out]
  go_loopw [5, 6] (fun gv iv wr => w1 = wr ∧ ∃ i : Nat, i ≤ m ∧ iv = .int .i64 (i : Int) ∧ ((gv = .int .i64 (-1) ∧ gapL l = (gapL (l.drop i)).map (· + i)) ∨ (∃ j : Nat, gv = .int .i64 (j : Int) ∧ gapL l = some j))) (fun _ i _ => m - (intOf i).toNat)
  case atStart => exact ⟨rfl, 0, by omega, rfl, .inl ⟨rfl, HG0.out⟩⟩
  case round =>
    clear HG0 HW
    obtain ⟨rfl, i, hi, rfl, hg⟩ := hrel
    have h0 : (0 : Int) ≤ (i : Int) := by omega
    have h1 : (0 : Int) ≤ (i : Int) + 1 := by omega
    rcases hg with ⟨rfl, hg⟩ | ⟨j, rfl, hj⟩
    · by_cases hlt : i + 1 < m
      · have hlt' : (i : Int) + 1 < (m : Int) := by omega
        have hlt2 : (i : Int) < (m : Int) := by omega
        have hsn : i < s.size := by omega
        have hsn1 : i + 1 < s.size := by omega
        obtain ⟨x, hx⟩ : ∃ x, l[i]? = some x := ⟨_, List.getElem?_eq_getElem (by have := HS.out.2.1; omega)⟩
        obtain ⟨y, hy⟩ : ∃ y, l[i + 1]? = some y := ⟨_, List.getElem?_eq_getElem (by have := HS.out.2.1; omega)⟩
        have hx256 := HS.out.1 x (List.mem_of_getElem? hx)
        have hy256 := HS.out.1 y (List.mem_of_getElem? hy)
        have hcx := fun h => str_get hx hx256 s HS.out.2.2.1 h
        have hcy := fun h => str_get hy hy256 s HS.out.2.2.1 h
        have hd : l.drop i = x :: y :: l.drop (i + 1 + 1) := by
          obtain ⟨a1, a2⟩ := List.getElem?_eq_some_iff.1 hx
          obtain ⟨a3, a4⟩ := List.getElem?_eq_some_iff.1 hy
          rw [← a2, ← a4, List.drop_eq_getElem_cons a1, List.drop_eq_getElem_cons a3]
        have GS := Lib.hid (gap_step hd hg)
        have HI1 := Lib.hid (And.intro hlt hi)
        clear hx hy hd hg
        by_cases hx58 : x = 58
        · by_cases hy58 : y = 58
          · have GG := Lib.hid (GS.out.1 ⟨hx58, hy58⟩)
            subst hx58; subst hy58
            go_wp2_with fail
            go_roundw
            case rel => exact ⟨by first | trivial | rfl, i + 1, by have := HI1.out; omega, by first | rfl | (have := HI1.out; go_num), .inr ⟨i, rfl, GG.out⟩⟩
            case measure => simp [intOf] <;> (have := HI1.out; omega)
          · have GG := Lib.hid (GS.out.2 (by omega))
            have hyf : ((y : Int) == 58) = false := by rw [beq_eq_false_iff_ne]; omega
            subst hx58
            go_wp2_with fail
            go_roundw
            case rel => exact ⟨by first | trivial | rfl, i + 1, by have := HI1.out; omega, by first | rfl | (have := HI1.out; go_num), .inl ⟨rfl, GG.out⟩⟩
            case measure => simp [intOf] <;> (have := HI1.out; omega)
        · have GG := Lib.hid (GS.out.2 (by omega))
          have hxf : ((x : Int) == 58) = false := by rw [beq_eq_false_iff_ne]; omega
          go_wp2_with fail
          go_roundw
          case rel => exact ⟨by first | trivial | rfl, i + 1, by have := HI1.out; omega, by first | rfl | (have := HI1.out; go_num), .inl ⟨rfl, GG.out⟩⟩
          case measure => simp [intOf] <;> (have := HI1.out; omega)
      · have hlt' : ¬ (i : Int) + 1 < (m : Int) := by omega
        have hnone := gap_end (by have := HS.out.2.1; omega) hg
        clear hg
        have HNH := Lib.hid (show Calls Tryz.prog 77 #[.string s] w1 fun e w' => NumAns w1 (nums (headL l)) e w' from by
          have := numbers_ w1 (headL l) (fun x hx => HS.out.1 x (by rwa [head_none hnone] at hx)) (by rw [head_none hnone]; have := HS.out; omega)
          rwa [show str (headL l) = s from by rw [head_none hnone, HS.out.2.2.1]] at this)
        have HNT := fun w2 => Lib.hid (show Calls Tryz.prog 77 #[.string ⟨#[]⟩] w2 fun e w' => NumAns w2 (nums (tailL l)) e w' from by
          have := numbers_ w2 (tailL l) (fun x hx => (by rw [tail_none hnone] at hx; cases hx)) (by rw [tail_none hnone]; simp)
          rwa [show str (tailL l) = ⟨#[]⟩ from by rw [tail_none hnone]; rfl] at this)
        have HRD := Lib.hid (show (badL l → R = (zero16, false)) ∧ (¬ badL l → R = (putN (putN zero16 0 (nums (headL l)).1) (8 - (nums (tailL l)).1.length) (nums (tailL l)).1, true)) from ⟨fun h => by rw [HS.out.2.2.2.2]; unfold sixF; rw [if_pos h], fun h => by rw [HS.out.2.2.2.2]; unfold sixF; rw [if_neg h]⟩)
        have HBD := Lib.hid (show badL l ↔ ((nums (headL l)).2 = false ∨ (nums (tailL l)).2 = false ∨ (gapL l = none ∧ ¬ (nums (headL l)).1.length = 8) ∨ 8 < (nums (headL l)).1.length + (nums (tailL l)).1.length) from Iff.rfl)
        have HGP := Lib.hid (hnone)
        generalize nums (headL l) = X at *
        generalize nums (tailL l) = Y at *
        obtain ⟨X, xo⟩ := X
        obtain ⟨Y, yo⟩ := Y
        simp only at HBD HRD
        go_wp2_with fail
        refine HNH.out.mono ?_
        rintro e w2 ⟨A1, c1, rfl, q1, xs, x8, k2⟩
        simp only at q1 xs x8 ⊢
        have K2 : Hid (∀ S, Keeps S w1 w2) := Lib.hid k2
        have Q1 := Lib.hid q1
        have XS : Hid (∀ x ∈ X, x < 65536) := Lib.hid xs
        clear HNH q1 xs k2
        go_wp2_with fail
        refine (HNT w2).out.mono ?_
        rintro e w3 ⟨A2, c2, rfl, q2, ys, y8, k3⟩
        simp only at q2 ys y8 ⊢
        have HWZ := Lib.hid (show w.heap.size + 1 < w1.heap.size ∧ w.heap.size + 1 < w2.heap.size from by have h := HSI.out.bq.lt; have := (K2.out (fun _ => False)).size; omega)
        have NX1 := Lib.hid (Nums.of (w := w) (Que.keeps Q1.out (k3 (fun _ => False)) (fun _ _ z => z)) HWZ.out.1)
        have NY1 := Lib.hid (Nums.of (w := w) q2 HWZ.out.2)
        have S3 := Lib.hid (HSI.out.keeps (fun S => (K2.out S).trans (k3 S)))
        have YS : Hid (∀ x ∈ Y, x < 65536) := Lib.hid ys
        clear HNT q2 ys k3 Q1 K2
        have hg9 : ((-1 : Int) < 0) := by omega
        cases xo
        · have hr := S3.out.ret
          have HLq := Lib.hid hr.1
          have HSC := Lib.hid hr.2.1
          have HOC := Lib.hid hr.2.2.1
          have B9 := Lib.hid hr.2.2.2.1
          have K9 : Hid (∀ S, Keeps S w (w3.setCells w.heap.size 0 (adc ⟨true, zero16⟩))) := Lib.hid hr.2.2.2.2
          have HV := Lib.hid (show R = (zero16, false) from HRD.out.1 (HBD.out.2 (.inl rfl)))
          clear hr
          generalize hC : adc ⟨true, zero16⟩ = C at *
          go_wp2_with (first
            | (refine wpList_load_mid rfl 24 _ rfl (w.heap.size + 1) 0 rfl C _ HLq.out.1 Tryz.underlying24 rfl HSC.out.1 ?_)
            | (refine wpList_store_mid rfl 24 _ _ rfl w.heap.size 0 C.toArray rfl rfl HLq.out.2 HSC.out.2 HOC.out ?_))
          try rw [Exit.noGoto_ret]
          refine bodyPost_ret (wh.ret_cell (p := 2) (u := 3) (ty := 24) (by kernel_rfl) _ _ _ w.heap.size _ _ _ (by rfl) B9.out Tryz.underlying24 rfl HSC.out.1) rfl ?_
          exact ⟨by rw [HV.out]; unfold av; rw [hC]; rfl, K9.out⟩
        cases yo
        · have hr := S3.out.ret
          have HLq := Lib.hid hr.1
          have HSC := Lib.hid hr.2.1
          have HOC := Lib.hid hr.2.2.1
          have B9 := Lib.hid hr.2.2.2.1
          have K9 : Hid (∀ S, Keeps S w (w3.setCells w.heap.size 0 (adc ⟨true, zero16⟩))) := Lib.hid hr.2.2.2.2
          have HV := Lib.hid (show R = (zero16, false) from HRD.out.1 (HBD.out.2 (.inr (.inl rfl))))
          clear hr
          generalize hC : adc ⟨true, zero16⟩ = C at *
          go_wp2_with (first
            | (refine wpList_load_mid rfl 24 _ rfl (w.heap.size + 1) 0 rfl C _ HLq.out.1 Tryz.underlying24 rfl HSC.out.1 ?_)
            | (refine wpList_store_mid rfl 24 _ _ rfl w.heap.size 0 C.toArray rfl rfl HLq.out.2 HSC.out.2 HOC.out ?_))
          try rw [Exit.noGoto_ret]
          refine bodyPost_ret (wh.ret_cell (p := 2) (u := 3) (ty := 24) (by kernel_rfl) _ _ _ w.heap.size _ _ _ (by rfl) B9.out Tryz.underlying24 rfl HSC.out.1) rfl ?_
          exact ⟨by rw [HV.out]; unfold av; rw [hC]; rfl, K9.out⟩
        by_cases h8 : ¬ X.length = 8
        · have h8' : ¬ (X.length : Int) = 8 := by omega
          have hr := S3.out.ret
          have HLq := Lib.hid hr.1
          have HSC := Lib.hid hr.2.1
          have HOC := Lib.hid hr.2.2.1
          have B9 := Lib.hid hr.2.2.2.1
          have K9 : Hid (∀ S, Keeps S w (w3.setCells w.heap.size 0 (adc ⟨true, zero16⟩))) := Lib.hid hr.2.2.2.2
          have HV := Lib.hid (show R = (zero16, false) from HRD.out.1 (HBD.out.2 (.inr (.inr (.inl ⟨HGP.out, h8⟩)))))
          clear hr
          generalize hC : adc ⟨true, zero16⟩ = C at *
          go_wp2_with (first
            | (refine wpList_load_mid rfl 24 _ rfl (w.heap.size + 1) 0 rfl C _ HLq.out.1 Tryz.underlying24 rfl HSC.out.1 ?_)
            | (refine wpList_store_mid rfl 24 _ _ rfl w.heap.size 0 C.toArray rfl rfl HLq.out.2 HSC.out.2 HOC.out ?_))
          try rw [Exit.noGoto_ret]
          refine bodyPost_ret (wh.ret_cell (p := 2) (u := 3) (ty := 24) (by kernel_rfl) _ _ _ w.heap.size _ _ _ (by rfl) B9.out Tryz.underlying24 rfl HSC.out.1) rfl ?_
          exact ⟨by rw [HV.out]; unfold av; rw [hC]; rfl, K9.out⟩
        have h8' : (X.length : Int) = 8 := by omega
        obtain ⟨xy, hxy⟩ : ∃ xy, xy = X.length + Y.length := ⟨_, rfl⟩
        have hxyw : wrap64 ((X.length : Int) + (Y.length : Int)) = (xy : Int) := by unfold wrap64; omega
        by_cases hb : 8 < xy
        · have hb' : (8 : Int) < (xy : Int) := by omega
          have hb2 : (8 : Int) < 8 + (Y.length : Int) := by omega
          have hr := S3.out.ret
          have HLq := Lib.hid hr.1
          have HSC := Lib.hid hr.2.1
          have HOC := Lib.hid hr.2.2.1
          have B9 := Lib.hid hr.2.2.2.1
          have K9 : Hid (∀ S, Keeps S w (w3.setCells w.heap.size 0 (adc ⟨true, zero16⟩))) := Lib.hid hr.2.2.2.2
          have HV := Lib.hid (show R = (zero16, false) from HRD.out.1 (HBD.out.2 (.inr (.inr (.inr (by omega))))))
          clear hr
          generalize hC : adc ⟨true, zero16⟩ = C at *
          go_wp2_with (first
            | (refine wpList_load_mid rfl 24 _ rfl (w.heap.size + 1) 0 rfl C _ HLq.out.1 Tryz.underlying24 rfl HSC.out.1 ?_)
            | (refine wpList_store_mid rfl 24 _ _ rfl w.heap.size 0 C.toArray rfl rfl HLq.out.2 HSC.out.2 HOC.out ?_))
          try rw [Exit.noGoto_ret]
          refine bodyPost_ret (wh.ret_cell (p := 2) (u := 3) (ty := 24) (by kernel_rfl) _ _ _ w.heap.size _ _ _ (by rfl) B9.out Tryz.underlying24 rfl HSC.out.1) rfl ?_
          exact ⟨by rw [HV.out]; unfold av; rw [hC]; rfl, K9.out⟩
        have hb' : ¬ (8 : Int) < (xy : Int) := by omega
        have hb2 : ¬ (8 : Int) < 8 + (Y.length : Int) := by omega
        have HRR := Lib.hid (HRD.out.2 (by rw [HBD.out]; intro h; rcases h with h | h | h | h; cases h; cases h; exact h.2 (by omega); omega))
        have HXY := Lib.hid (show X.length + Y.length ≤ 8 from by omega)
        clear hb hxy h8
        go_wp2_with fail
        clear hxyw hb' hb2 h8'
        go_loopw [13] (fun iv wr => ∃ (i : Nat) (B : List Nat), i ≤ X.length ∧ iv = .int .i64 (i : Int) ∧ SI w wr B ∧ putN B i (X.drop i) = putN zero16 0 X ∧ Nums w wr A1 X.length c1 X ∧ Nums w wr A2 Y.length c2 Y) (fun iv _ => X.length - (intOf iv).toNat)
        case atStart => exact ⟨0, _, by omega, rfl, S3.out, by rw [List.drop_zero], NX1.out, NY1.out⟩
        case round =>
          obtain ⟨i, B, hi, rfl, hS, hP, hNX, hNY⟩ := hrel
          have HSB := Lib.hid hS
          have HP := Lib.hid hP
          have HNX := Lib.hid hNX
          have HNY := Lib.hid hNY
          clear hS hP hNX hNY
          by_cases hlt : i < X.length
          · have hlt' : (i : Int) < (X.length : Int) := by omega
            have i0 : (0 : Int) ≤ (i : Int) := by omega
            obtain ⟨n, hn⟩ : ∃ n, X[i]? = some n := ⟨_, List.getElem?_eq_getElem hlt⟩
            have hn6 := XS.out n (List.mem_of_getElem? hn)
            obtain ⟨bb, oo, rfl, hb1, hb2, hc⟩ := HNX.out i n hn
            have hdr : X.drop i = n :: X.drop (i + 1) := by
              obtain ⟨a1, a2⟩ := List.getElem?_eq_some_iff.1 hn
              rw [← a2]; exact List.drop_eq_getElem_cons a1
            have hxy9 := HXY.out
            have p1 : 2 * ((i : Nat) : Int) < 16 := by omega
            have p0 : (0 : Int) ≤ ((i : Nat) : Int) := by omega
            have q1 : 2 * ((i : Nat) : Int) + 1 < 16 := by omega
            obtain ⟨x, hx⟩ : ∃ x, x = n / 256 := ⟨_, rfl⟩
            obtain ⟨y, hy⟩ : ∃ y, y = n % 256 := ⟨_, rfl⟩
            have t1 : (n : Int).tdiv 256 = (x : Int) := by rw [Int.tdiv_eq_ediv_of_nonneg (by omega)]; omega
            have t2 : (n : Int).tmod 256 = (y : Int) := by rw [Int.tmod_eq_emod_of_nonneg (by omega)]; omega
            have u1 : IntKind.u8.wrap (x : Int) = (x : Int) := by rw [show IntKind.u8.wrap (x : Int) = (x : Int) % 256 from rfl]; omega
            have u2 : IntKind.u8.wrap (y : Int) = (y : Int) := by rw [show IntKind.u8.wrap (y : Int) = (y : Int) % 256 from rfl]; omega
            have v1 : IntKind.i64.wrap (x : Int) = (x : Int) := by rw [IntKind.wrap_i64]; omega
            have hcl := HSB.out.cell (p := 2 * i) (by omega)
            have hcl2 := HSB.out.cell2 (p := 2 * i) (q := 2 * i + 1) (x := x) (by omega) (by omega) (by omega)
            obtain ⟨⟨s1, hs1⟩, f1⟩ := hcl
            obtain ⟨⟨s2, hs2⟩, f2⟩ := hcl2
            have SP := Lib.hid (HSB.out.put (p := 2 * i) (q := 2 * i + 1) (x := x) (y := y) (by omega) (by omega) (by omega) (by omega))
            have HPN := Lib.hid (show putN ((B.set (2 * i) x).set (2 * i + 1) y) (i + 1) (X.drop (i + 1)) = putN zero16 0 X from by have := HP.out; rw [hdr, putN, ← hx, ← hy] at this; exact this)
            have HLI := Lib.hid hlt
            have hc2 : (wr.setCell ⟨w.heap.size + 1, 1 + 2 * i, none⟩ (.int .u8 (x : Int))).cell? ⟨bb, oo + i, none⟩ = some (.int .i64 (n : Int)) := Keeps.cell (Keeps.here (b := w.heap.size + 1) (i := 1 + 2 * i) (.int .u8 (x : Int))) hc hb1
            clear hn hb2 hdr hx hy hlt hi
            go_wp2_with fail
            go_roundw
            case rel => exact ⟨i + 1, _, by have := HLI.out; omega, by first | rfl | go_num, SP.out.1, HPN.out, HNX.out.keeps SP.out.2, HNY.out.keeps SP.out.2⟩
            case measure => simp [intOf] <;> (have := HLI.out; omega)
          · have hlt' : ¬ (i : Int) < (X.length : Int) := by omega
            have hdr : X.drop i = [] := List.drop_eq_nil_of_le (by omega)
            have HB2 := Lib.hid (show B = putN zero16 0 X from by have := HP.out; rw [hdr, putN] at this; exact this)
            clear hdr hlt
            have SB := Lib.hid HSB.out
            have NX2 := Lib.hid HNX.out
            have NY2 := Lib.hid HNY.out
            have HBX := Lib.hid HB2.out
            clear HSB HNX HNY HP HB2
            obtain ⟨B1, hB1⟩ : ∃ B1, B1 = B := ⟨_, rfl⟩
            rw [← hB1] at SB HBX
            clear hB1 hi
            go_wp2_with fail
            clear hlt'
            go_loopw [14] (fun iv wr => ∃ (i : Nat) (B : List Nat), i ≤ Y.length ∧ iv = .int .i64 (i : Int) ∧ SI w wr B ∧ putN B ((8 - Y.length) + i) (Y.drop i) = putN B1 (8 - Y.length) Y ∧ Nums w wr A1 X.length c1 X ∧ Nums w wr A2 Y.length c2 Y) (fun iv _ => Y.length - (intOf iv).toNat)
            case atStart => exact ⟨0, _, by omega, rfl, SB.out, by rw [Nat.add_zero, List.drop_zero], NX2.out, NY2.out⟩
            case round =>
              obtain ⟨i, B, hi, rfl, hS, hP, hNX, hNY⟩ := hrel
              have HSB := Lib.hid hS
              have HP := Lib.hid hP
              have HNX := Lib.hid hNX
              have HNY := Lib.hid hNY
              clear hS hP hNX hNY
              by_cases hlt : i < Y.length
              · have hlt' : (i : Int) < (Y.length : Int) := by omega
                have i0 : (0 : Int) ≤ (i : Int) := by omega
                obtain ⟨n, hn⟩ : ∃ n, Y[i]? = some n := ⟨_, List.getElem?_eq_getElem hlt⟩
                have hn6 := YS.out n (List.mem_of_getElem? hn)
                obtain ⟨bb, oo, rfl, hb1, hb2, hc⟩ := HNY.out i n hn
                have hdr : Y.drop i = n :: Y.drop (i + 1) := by
                  obtain ⟨a1, a2⟩ := List.getElem?_eq_some_iff.1 hn
                  rw [← a2]; exact List.drop_eq_getElem_cons a1
                have hxy9 := HXY.out
                have p1 : 2 * (((8 - Y.length + i) : Nat) : Int) < 16 := by omega
                have p0 : (0 : Int) ≤ (((8 - Y.length + i) : Nat) : Int) := by omega
                have q1 : 2 * (((8 - Y.length + i) : Nat) : Int) + 1 < 16 := by omega
                obtain ⟨x, hx⟩ : ∃ x, x = n / 256 := ⟨_, rfl⟩
                obtain ⟨y, hy⟩ : ∃ y, y = n % 256 := ⟨_, rfl⟩
                have t1 : (n : Int).tdiv 256 = (x : Int) := by rw [Int.tdiv_eq_ediv_of_nonneg (by omega)]; omega
                have t2 : (n : Int).tmod 256 = (y : Int) := by rw [Int.tmod_eq_emod_of_nonneg (by omega)]; omega
                have u1 : IntKind.u8.wrap (x : Int) = (x : Int) := by rw [show IntKind.u8.wrap (x : Int) = (x : Int) % 256 from rfl]; omega
                have u2 : IntKind.u8.wrap (y : Int) = (y : Int) := by rw [show IntKind.u8.wrap (y : Int) = (y : Int) % 256 from rfl]; omega
                have v1 : IntKind.i64.wrap (x : Int) = (x : Int) := by rw [IntKind.wrap_i64]; omega
                have hcl := HSB.out.cell (p := 2 * (8 - Y.length + i)) (by omega)
                have hcl2 := HSB.out.cell2 (p := 2 * (8 - Y.length + i)) (q := 2 * (8 - Y.length + i) + 1) (x := x) (by omega) (by omega) (by omega)
                obtain ⟨⟨s1, hs1⟩, f1⟩ := hcl
                obtain ⟨⟨s2, hs2⟩, f2⟩ := hcl2
                have SP := Lib.hid (HSB.out.put (p := 2 * (8 - Y.length + i)) (q := 2 * (8 - Y.length + i) + 1) (x := x) (y := y) (by omega) (by omega) (by omega) (by omega))
                have HPN := Lib.hid (show putN ((B.set (2 * (8 - Y.length + i)) x).set (2 * (8 - Y.length + i) + 1) y) ((8 - Y.length) + (i + 1)) (Y.drop (i + 1)) = putN B1 (8 - Y.length) Y from by have := HP.out; rw [hdr, putN, ← hx, ← hy] at this; rw [show ((8 - Y.length) + (i + 1)) = (8 - Y.length + i) + 1 from by omega]; exact this)
                have HLI := Lib.hid hlt
                have hc2 : (wr.setCell ⟨w.heap.size + 1, 1 + 2 * (8 - Y.length + i), none⟩ (.int .u8 (x : Int))).cell? ⟨bb, oo + i, none⟩ = some (.int .i64 (n : Int)) := Keeps.cell (Keeps.here (b := w.heap.size + 1) (i := 1 + 2 * (8 - Y.length + i)) (.int .u8 (x : Int))) hc hb1
                clear hn hb2 hdr hx hy hlt hi
                go_wp2_with fail
                go_roundw
                case rel => exact ⟨i + 1, _, by have := HLI.out; omega, by first | rfl | go_num, SP.out.1, HPN.out, HNX.out.keeps SP.out.2, HNY.out.keeps SP.out.2⟩
                case measure => simp [intOf] <;> (have := HLI.out; omega)
              · have hlt' : ¬ (i : Int) < (Y.length : Int) := by omega
                have hdr : Y.drop i = [] := List.drop_eq_nil_of_le (by omega)
                have HB2 := Lib.hid (show B = putN B1 (8 - Y.length) Y from by have := HP.out; rw [hdr, putN] at this; exact this)
                clear hdr hlt
                have HB3 := Lib.hid (show B = putN (putN zero16 0 X) (8 - Y.length) Y from by rw [HB2.out, HBX.out])
                have hr := HSB.out.ret
                have HLq := Lib.hid hr.1
                have HSC := Lib.hid hr.2.1
                have HOC := Lib.hid hr.2.2.1
                have B9 := Lib.hid hr.2.2.2.1
                have K9 : Hid (∀ S, Keeps S w (wr.setCells w.heap.size 0 (adc ⟨true, B⟩))) := Lib.hid hr.2.2.2.2
                have HV := Lib.hid (show R = (B, true) from HRR.out.trans (by rw [HB3.out]))
                clear hr
                generalize hC : adc ⟨true, B⟩ = C at *
                go_wp2_with (first
                  | (refine wpList_load_mid rfl 24 _ rfl (w.heap.size + 1) 0 rfl C _ HLq.out.1 Tryz.underlying24 rfl HSC.out.1 ?_)
                  | (refine wpList_store_mid rfl 24 _ _ rfl w.heap.size 0 C.toArray rfl rfl HLq.out.2 HSC.out.2 HOC.out ?_))
                try rw [Exit.noGoto_ret]
                refine bodyPost_ret (wh.ret_cell (p := 2) (u := 3) (ty := 24) (by kernel_rfl) _ _ _ w.heap.size _ _ _ (by rfl) B9.out Tryz.underlying24 rfl HSC.out.1) rfl ?_
                exact ⟨by rw [HV.out]; unfold av; rw [hC]; rfl, K9.out⟩
    · have hj0 : ¬ (j : Int) < 0 := by omega
      have hj1 : (0 : Int) ≤ (j : Int) := by omega
      have hjm := gapL_lt l j hj
      rw [← HS.out.2.1] at hjm
      obtain ⟨j2, hj2⟩ : ∃ j2, j2 = j + 2 := ⟨_, rfl⟩
      have hjw : wrap64 ((j : Int) + 2) = (j2 : Int) := by unfold wrap64; omega
      have hj3 : (j2 : Int) ≤ (m : Int) := by omega
      have hj4 : (j : Int) ≤ (m : Int) := by omega
      have hj5 : (0 : Int) ≤ (j2 : Int) := by omega
      by_cases hlt : i + 1 < m
      · have hlt' : (i : Int) + 1 < (m : Int) := by omega
        clear hlt
        have HNH := Lib.hid (show Calls Tryz.prog 77 #[.string (s.extract 0 j)] w1 fun e w' => NumAns w1 (nums (headL l)) e w' from by
          have := numbers_ w1 (headL l) (fun x hx => HS.out.1 x (by rw [head_some hj] at hx; exact List.mem_of_mem_take hx)) (by rw [head_some hj]; have := HS.out; simp; omega)
          rwa [show str (headL l) = (s.extract 0 j) from by rw [head_some hj, HS.out.2.2.1, str_extract]; simp] at this)
        have HNT := fun w2 => Lib.hid (show Calls Tryz.prog 77 #[.string (s.extract (j + 2) s.size)] w2 fun e w' => NumAns w2 (nums (tailL l)) e w' from by
          have := numbers_ w2 (tailL l) (fun x hx => HS.out.1 x (by rw [tail_some hj] at hx; exact List.mem_of_mem_drop hx)) (by rw [tail_some hj]; have := HS.out; simp; omega)
          rwa [show str (tailL l) = (s.extract (j + 2) s.size) from by rw [tail_some hj, HS.out.2.2.1, str_extract, str_size, List.take_of_length_le (by simp)]] at this)
        have HRD := Lib.hid (show (badL l → R = (zero16, false)) ∧ (¬ badL l → R = (putN (putN zero16 0 (nums (headL l)).1) (8 - (nums (tailL l)).1.length) (nums (tailL l)).1, true)) from ⟨fun h => by rw [HS.out.2.2.2.2]; unfold sixF; rw [if_pos h], fun h => by rw [HS.out.2.2.2.2]; unfold sixF; rw [if_neg h]⟩)
        have HBD := Lib.hid (show badL l ↔ ((nums (headL l)).2 = false ∨ (nums (tailL l)).2 = false ∨ (gapL l = none ∧ ¬ (nums (headL l)).1.length = 8) ∨ 8 < (nums (headL l)).1.length + (nums (tailL l)).1.length) from Iff.rfl)
        have HGP := Lib.hid (hj)
        generalize nums (headL l) = X at *
        generalize nums (tailL l) = Y at *
        obtain ⟨X, xo⟩ := X
        obtain ⟨Y, yo⟩ := Y
        simp only at HBD HRD
        go_wp2_with fail
        refine HNH.out.mono ?_
        rintro e w2 ⟨A1, c1, rfl, q1, xs, x8, k2⟩
        simp only at q1 xs x8 ⊢
        have K2 : Hid (∀ S, Keeps S w1 w2) := Lib.hid k2
        have Q1 := Lib.hid q1
        have XS : Hid (∀ x ∈ X, x < 65536) := Lib.hid xs
        clear HNH q1 xs k2
        go_wp2_with fail
        refine (HNT w2).out.mono ?_
        rintro e w3 ⟨A2, c2, rfl, q2, ys, y8, k3⟩
        simp only at q2 ys y8 ⊢
        have HWZ := Lib.hid (show w.heap.size + 1 < w1.heap.size ∧ w.heap.size + 1 < w2.heap.size from by have h := HSI.out.bq.lt; have := (K2.out (fun _ => False)).size; omega)
        have NX1 := Lib.hid (Nums.of (w := w) (Que.keeps Q1.out (k3 (fun _ => False)) (fun _ _ z => z)) HWZ.out.1)
        have NY1 := Lib.hid (Nums.of (w := w) q2 HWZ.out.2)
        have S3 := Lib.hid (HSI.out.keeps (fun S => (K2.out S).trans (k3 S)))
        have YS : Hid (∀ x ∈ Y, x < 65536) := Lib.hid ys
        clear HNT q2 ys k3 Q1 K2
        cases xo
        · have hr := S3.out.ret
          have HLq := Lib.hid hr.1
          have HSC := Lib.hid hr.2.1
          have HOC := Lib.hid hr.2.2.1
          have B9 := Lib.hid hr.2.2.2.1
          have K9 : Hid (∀ S, Keeps S w (w3.setCells w.heap.size 0 (adc ⟨true, zero16⟩))) := Lib.hid hr.2.2.2.2
          have HV := Lib.hid (show R = (zero16, false) from HRD.out.1 (HBD.out.2 (.inl rfl)))
          clear hr
          generalize hC : adc ⟨true, zero16⟩ = C at *
          go_wp2_with (first
            | (refine wpList_load_mid rfl 24 _ rfl (w.heap.size + 1) 0 rfl C _ HLq.out.1 Tryz.underlying24 rfl HSC.out.1 ?_)
            | (refine wpList_store_mid rfl 24 _ _ rfl w.heap.size 0 C.toArray rfl rfl HLq.out.2 HSC.out.2 HOC.out ?_))
          try rw [Exit.noGoto_ret]
          refine bodyPost_ret (wh.ret_cell (p := 2) (u := 3) (ty := 24) (by kernel_rfl) _ _ _ w.heap.size _ _ _ (by rfl) B9.out Tryz.underlying24 rfl HSC.out.1) rfl ?_
          exact ⟨by rw [HV.out]; unfold av; rw [hC]; rfl, K9.out⟩
        cases yo
        · have hr := S3.out.ret
          have HLq := Lib.hid hr.1
          have HSC := Lib.hid hr.2.1
          have HOC := Lib.hid hr.2.2.1
          have B9 := Lib.hid hr.2.2.2.1
          have K9 : Hid (∀ S, Keeps S w (w3.setCells w.heap.size 0 (adc ⟨true, zero16⟩))) := Lib.hid hr.2.2.2.2
          have HV := Lib.hid (show R = (zero16, false) from HRD.out.1 (HBD.out.2 (.inr (.inl rfl))))
          clear hr
          generalize hC : adc ⟨true, zero16⟩ = C at *
          go_wp2_with (first
            | (refine wpList_load_mid rfl 24 _ rfl (w.heap.size + 1) 0 rfl C _ HLq.out.1 Tryz.underlying24 rfl HSC.out.1 ?_)
            | (refine wpList_store_mid rfl 24 _ _ rfl w.heap.size 0 C.toArray rfl rfl HLq.out.2 HSC.out.2 HOC.out ?_))
          try rw [Exit.noGoto_ret]
          refine bodyPost_ret (wh.ret_cell (p := 2) (u := 3) (ty := 24) (by kernel_rfl) _ _ _ w.heap.size _ _ _ (by rfl) B9.out Tryz.underlying24 rfl HSC.out.1) rfl ?_
          exact ⟨by rw [HV.out]; unfold av; rw [hC]; rfl, K9.out⟩
        obtain ⟨xy, hxy⟩ : ∃ xy, xy = X.length + Y.length := ⟨_, rfl⟩
        have hxyw : wrap64 ((X.length : Int) + (Y.length : Int)) = (xy : Int) := by unfold wrap64; omega
        by_cases hb : 8 < xy
        · have hb' : (8 : Int) < (xy : Int) := by omega
          have hb2 : (8 : Int) < (X.length : Int) + (Y.length : Int) := by omega
          have hr := S3.out.ret
          have HLq := Lib.hid hr.1
          have HSC := Lib.hid hr.2.1
          have HOC := Lib.hid hr.2.2.1
          have B9 := Lib.hid hr.2.2.2.1
          have K9 : Hid (∀ S, Keeps S w (w3.setCells w.heap.size 0 (adc ⟨true, zero16⟩))) := Lib.hid hr.2.2.2.2
          have HV := Lib.hid (show R = (zero16, false) from HRD.out.1 (HBD.out.2 (.inr (.inr (.inr (by omega))))))
          clear hr
          generalize hC : adc ⟨true, zero16⟩ = C at *
          go_wp2_with (first
            | (refine wpList_load_mid rfl 24 _ rfl (w.heap.size + 1) 0 rfl C _ HLq.out.1 Tryz.underlying24 rfl HSC.out.1 ?_)
            | (refine wpList_store_mid rfl 24 _ _ rfl w.heap.size 0 C.toArray rfl rfl HLq.out.2 HSC.out.2 HOC.out ?_))
          try rw [Exit.noGoto_ret]
          refine bodyPost_ret (wh.ret_cell (p := 2) (u := 3) (ty := 24) (by kernel_rfl) _ _ _ w.heap.size _ _ _ (by rfl) B9.out Tryz.underlying24 rfl HSC.out.1) rfl ?_
          exact ⟨by rw [HV.out]; unfold av; rw [hC]; rfl, K9.out⟩
        have hb' : ¬ (8 : Int) < (xy : Int) := by omega
        have hb2 : ¬ (8 : Int) < (X.length : Int) + (Y.length : Int) := by omega
        have HRR := Lib.hid (HRD.out.2 (by rw [HBD.out]; intro h; rcases h with h | h | h | h; cases h; cases h; rw [HGP.out] at h; cases h.1; omega))
        have HXY := Lib.hid (show X.length + Y.length ≤ 8 from by omega)
        clear hb hxy
        go_wp2_with fail
        clear hxyw hb' hb2
        go_loopw [13] (fun iv wr => ∃ (i : Nat) (B : List Nat), i ≤ X.length ∧ iv = .int .i64 (i : Int) ∧ SI w wr B ∧ putN B i (X.drop i) = putN zero16 0 X ∧ Nums w wr A1 X.length c1 X ∧ Nums w wr A2 Y.length c2 Y) (fun iv _ => X.length - (intOf iv).toNat)
        case atStart => exact ⟨0, _, by omega, rfl, S3.out, by rw [List.drop_zero], NX1.out, NY1.out⟩
        case round =>
          obtain ⟨i, B, hi, rfl, hS, hP, hNX, hNY⟩ := hrel
          have HSB := Lib.hid hS
          have HP := Lib.hid hP
          have HNX := Lib.hid hNX
          have HNY := Lib.hid hNY
          clear hS hP hNX hNY
          by_cases hlt : i < X.length
          · have hlt' : (i : Int) < (X.length : Int) := by omega
            have i0 : (0 : Int) ≤ (i : Int) := by omega
            obtain ⟨n, hn⟩ : ∃ n, X[i]? = some n := ⟨_, List.getElem?_eq_getElem hlt⟩
            have hn6 := XS.out n (List.mem_of_getElem? hn)
            obtain ⟨bb, oo, rfl, hb1, hb2, hc⟩ := HNX.out i n hn
            have hdr : X.drop i = n :: X.drop (i + 1) := by
              obtain ⟨a1, a2⟩ := List.getElem?_eq_some_iff.1 hn
              rw [← a2]; exact List.drop_eq_getElem_cons a1
            have hxy9 := HXY.out
            have p1 : 2 * ((i : Nat) : Int) < 16 := by omega
            have p0 : (0 : Int) ≤ ((i : Nat) : Int) := by omega
            have q1 : 2 * ((i : Nat) : Int) + 1 < 16 := by omega
            obtain ⟨x, hx⟩ : ∃ x, x = n / 256 := ⟨_, rfl⟩
            obtain ⟨y, hy⟩ : ∃ y, y = n % 256 := ⟨_, rfl⟩
            have t1 : (n : Int).tdiv 256 = (x : Int) := by rw [Int.tdiv_eq_ediv_of_nonneg (by omega)]; omega
            have t2 : (n : Int).tmod 256 = (y : Int) := by rw [Int.tmod_eq_emod_of_nonneg (by omega)]; omega
            have u1 : IntKind.u8.wrap (x : Int) = (x : Int) := by rw [show IntKind.u8.wrap (x : Int) = (x : Int) % 256 from rfl]; omega
            have u2 : IntKind.u8.wrap (y : Int) = (y : Int) := by rw [show IntKind.u8.wrap (y : Int) = (y : Int) % 256 from rfl]; omega
            have v1 : IntKind.i64.wrap (x : Int) = (x : Int) := by rw [IntKind.wrap_i64]; omega
            have hcl := HSB.out.cell (p := 2 * i) (by omega)
            have hcl2 := HSB.out.cell2 (p := 2 * i) (q := 2 * i + 1) (x := x) (by omega) (by omega) (by omega)
            obtain ⟨⟨s1, hs1⟩, f1⟩ := hcl
            obtain ⟨⟨s2, hs2⟩, f2⟩ := hcl2
            have SP := Lib.hid (HSB.out.put (p := 2 * i) (q := 2 * i + 1) (x := x) (y := y) (by omega) (by omega) (by omega) (by omega))
            have HPN := Lib.hid (show putN ((B.set (2 * i) x).set (2 * i + 1) y) (i + 1) (X.drop (i + 1)) = putN zero16 0 X from by have := HP.out; rw [hdr, putN, ← hx, ← hy] at this; exact this)
            have HLI := Lib.hid hlt
            have hc2 : (wr.setCell ⟨w.heap.size + 1, 1 + 2 * i, none⟩ (.int .u8 (x : Int))).cell? ⟨bb, oo + i, none⟩ = some (.int .i64 (n : Int)) := Keeps.cell (Keeps.here (b := w.heap.size + 1) (i := 1 + 2 * i) (.int .u8 (x : Int))) hc hb1
            clear hn hb2 hdr hx hy hlt hi
            go_wp2_with fail
            go_roundw
            case rel => exact ⟨i + 1, _, by have := HLI.out; omega, by first | rfl | go_num, SP.out.1, HPN.out, HNX.out.keeps SP.out.2, HNY.out.keeps SP.out.2⟩
            case measure => simp [intOf] <;> (have := HLI.out; omega)
          · have hlt' : ¬ (i : Int) < (X.length : Int) := by omega
            have hdr : X.drop i = [] := List.drop_eq_nil_of_le (by omega)
            have HB2 := Lib.hid (show B = putN zero16 0 X from by have := HP.out; rw [hdr, putN] at this; exact this)
            clear hdr hlt
            have SB := Lib.hid HSB.out
            have NX2 := Lib.hid HNX.out
            have NY2 := Lib.hid HNY.out
            have HBX := Lib.hid HB2.out
            clear HSB HNX HNY HP HB2
            obtain ⟨B1, hB1⟩ : ∃ B1, B1 = B := ⟨_, rfl⟩
            rw [← hB1] at SB HBX
            clear hB1 hi
            go_wp2_with fail
            clear hlt'
            go_loopw [14] (fun iv wr => ∃ (i : Nat) (B : List Nat), i ≤ Y.length ∧ iv = .int .i64 (i : Int) ∧ SI w wr B ∧ putN B ((8 - Y.length) + i) (Y.drop i) = putN B1 (8 - Y.length) Y ∧ Nums w wr A1 X.length c1 X ∧ Nums w wr A2 Y.length c2 Y) (fun iv _ => Y.length - (intOf iv).toNat)
            case atStart => exact ⟨0, _, by omega, rfl, SB.out, by rw [Nat.add_zero, List.drop_zero], NX2.out, NY2.out⟩
            case round =>
              obtain ⟨i, B, hi, rfl, hS, hP, hNX, hNY⟩ := hrel
              have HSB := Lib.hid hS
              have HP := Lib.hid hP
              have HNX := Lib.hid hNX
              have HNY := Lib.hid hNY
              clear hS hP hNX hNY
              by_cases hlt : i < Y.length
              · have hlt' : (i : Int) < (Y.length : Int) := by omega
                have i0 : (0 : Int) ≤ (i : Int) := by omega
                obtain ⟨n, hn⟩ : ∃ n, Y[i]? = some n := ⟨_, List.getElem?_eq_getElem hlt⟩
                have hn6 := YS.out n (List.mem_of_getElem? hn)
                obtain ⟨bb, oo, rfl, hb1, hb2, hc⟩ := HNY.out i n hn
                have hdr : Y.drop i = n :: Y.drop (i + 1) := by
                  obtain ⟨a1, a2⟩ := List.getElem?_eq_some_iff.1 hn
                  rw [← a2]; exact List.drop_eq_getElem_cons a1
                have hxy9 := HXY.out
                have p1 : 2 * (((8 - Y.length + i) : Nat) : Int) < 16 := by omega
                have p0 : (0 : Int) ≤ (((8 - Y.length + i) : Nat) : Int) := by omega
                have q1 : 2 * (((8 - Y.length + i) : Nat) : Int) + 1 < 16 := by omega
                obtain ⟨x, hx⟩ : ∃ x, x = n / 256 := ⟨_, rfl⟩
                obtain ⟨y, hy⟩ : ∃ y, y = n % 256 := ⟨_, rfl⟩
                have t1 : (n : Int).tdiv 256 = (x : Int) := by rw [Int.tdiv_eq_ediv_of_nonneg (by omega)]; omega
                have t2 : (n : Int).tmod 256 = (y : Int) := by rw [Int.tmod_eq_emod_of_nonneg (by omega)]; omega
                have u1 : IntKind.u8.wrap (x : Int) = (x : Int) := by rw [show IntKind.u8.wrap (x : Int) = (x : Int) % 256 from rfl]; omega
                have u2 : IntKind.u8.wrap (y : Int) = (y : Int) := by rw [show IntKind.u8.wrap (y : Int) = (y : Int) % 256 from rfl]; omega
                have v1 : IntKind.i64.wrap (x : Int) = (x : Int) := by rw [IntKind.wrap_i64]; omega
                have hcl := HSB.out.cell (p := 2 * (8 - Y.length + i)) (by omega)
                have hcl2 := HSB.out.cell2 (p := 2 * (8 - Y.length + i)) (q := 2 * (8 - Y.length + i) + 1) (x := x) (by omega) (by omega) (by omega)
                obtain ⟨⟨s1, hs1⟩, f1⟩ := hcl
                obtain ⟨⟨s2, hs2⟩, f2⟩ := hcl2
                have SP := Lib.hid (HSB.out.put (p := 2 * (8 - Y.length + i)) (q := 2 * (8 - Y.length + i) + 1) (x := x) (y := y) (by omega) (by omega) (by omega) (by omega))
                have HPN := Lib.hid (show putN ((B.set (2 * (8 - Y.length + i)) x).set (2 * (8 - Y.length + i) + 1) y) ((8 - Y.length) + (i + 1)) (Y.drop (i + 1)) = putN B1 (8 - Y.length) Y from by have := HP.out; rw [hdr, putN, ← hx, ← hy] at this; rw [show ((8 - Y.length) + (i + 1)) = (8 - Y.length + i) + 1 from by omega]; exact this)
                have HLI := Lib.hid hlt
                have hc2 : (wr.setCell ⟨w.heap.size + 1, 1 + 2 * (8 - Y.length + i), none⟩ (.int .u8 (x : Int))).cell? ⟨bb, oo + i, none⟩ = some (.int .i64 (n : Int)) := Keeps.cell (Keeps.here (b := w.heap.size + 1) (i := 1 + 2 * (8 - Y.length + i)) (.int .u8 (x : Int))) hc hb1
                clear hn hb2 hdr hx hy hlt hi
                go_wp2_with fail
                go_roundw
                case rel => exact ⟨i + 1, _, by have := HLI.out; omega, by first | rfl | go_num, SP.out.1, HPN.out, HNX.out.keeps SP.out.2, HNY.out.keeps SP.out.2⟩
                case measure => simp [intOf] <;> (have := HLI.out; omega)
              · have hlt' : ¬ (i : Int) < (Y.length : Int) := by omega
                have hdr : Y.drop i = [] := List.drop_eq_nil_of_le (by omega)
                have HB2 := Lib.hid (show B = putN B1 (8 - Y.length) Y from by have := HP.out; rw [hdr, putN] at this; exact this)
                clear hdr hlt
                have HB3 := Lib.hid (show B = putN (putN zero16 0 X) (8 - Y.length) Y from by rw [HB2.out, HBX.out])
                have hr := HSB.out.ret
                have HLq := Lib.hid hr.1
                have HSC := Lib.hid hr.2.1
                have HOC := Lib.hid hr.2.2.1
                have B9 := Lib.hid hr.2.2.2.1
                have K9 : Hid (∀ S, Keeps S w (wr.setCells w.heap.size 0 (adc ⟨true, B⟩))) := Lib.hid hr.2.2.2.2
                have HV := Lib.hid (show R = (B, true) from HRR.out.trans (by rw [HB3.out]))
                clear hr
                generalize hC : adc ⟨true, B⟩ = C at *
                go_wp2_with (first
                  | (refine wpList_load_mid rfl 24 _ rfl (w.heap.size + 1) 0 rfl C _ HLq.out.1 Tryz.underlying24 rfl HSC.out.1 ?_)
                  | (refine wpList_store_mid rfl 24 _ _ rfl w.heap.size 0 C.toArray rfl rfl HLq.out.2 HSC.out.2 HOC.out ?_))
                try rw [Exit.noGoto_ret]
                refine bodyPost_ret (wh.ret_cell (p := 2) (u := 3) (ty := 24) (by kernel_rfl) _ _ _ w.heap.size _ _ _ (by rfl) B9.out Tryz.underlying24 rfl HSC.out.1) rfl ?_
                exact ⟨by rw [HV.out]; unfold av; rw [hC]; rfl, K9.out⟩
      · have hlt' : ¬ (i : Int) + 1 < (m : Int) := by omega
        clear hlt
        have HNH := Lib.hid (show Calls Tryz.prog 77 #[.string (s.extract 0 j)] w1 fun e w' => NumAns w1 (nums (headL l)) e w' from by
          have := numbers_ w1 (headL l) (fun x hx => HS.out.1 x (by rw [head_some hj] at hx; exact List.mem_of_mem_take hx)) (by rw [head_some hj]; have := HS.out; simp; omega)
          rwa [show str (headL l) = (s.extract 0 j) from by rw [head_some hj, HS.out.2.2.1, str_extract]; simp] at this)
        have HNT := fun w2 => Lib.hid (show Calls Tryz.prog 77 #[.string (s.extract (j + 2) s.size)] w2 fun e w' => NumAns w2 (nums (tailL l)) e w' from by
          have := numbers_ w2 (tailL l) (fun x hx => HS.out.1 x (by rw [tail_some hj] at hx; exact List.mem_of_mem_drop hx)) (by rw [tail_some hj]; have := HS.out; simp; omega)
          rwa [show str (tailL l) = (s.extract (j + 2) s.size) from by rw [tail_some hj, HS.out.2.2.1, str_extract, str_size, List.take_of_length_le (by simp)]] at this)
        have HRD := Lib.hid (show (badL l → R = (zero16, false)) ∧ (¬ badL l → R = (putN (putN zero16 0 (nums (headL l)).1) (8 - (nums (tailL l)).1.length) (nums (tailL l)).1, true)) from ⟨fun h => by rw [HS.out.2.2.2.2]; unfold sixF; rw [if_pos h], fun h => by rw [HS.out.2.2.2.2]; unfold sixF; rw [if_neg h]⟩)
        have HBD := Lib.hid (show badL l ↔ ((nums (headL l)).2 = false ∨ (nums (tailL l)).2 = false ∨ (gapL l = none ∧ ¬ (nums (headL l)).1.length = 8) ∨ 8 < (nums (headL l)).1.length + (nums (tailL l)).1.length) from Iff.rfl)
        have HGP := Lib.hid (hj)
        generalize nums (headL l) = X at *
        generalize nums (tailL l) = Y at *
        obtain ⟨X, xo⟩ := X
        obtain ⟨Y, yo⟩ := Y
        simp only at HBD HRD
        go_wp2_with fail
        refine HNH.out.mono ?_
        rintro e w2 ⟨A1, c1, rfl, q1, xs, x8, k2⟩
        simp only at q1 xs x8 ⊢
        have K2 : Hid (∀ S, Keeps S w1 w2) := Lib.hid k2
        have Q1 := Lib.hid q1
        have XS : Hid (∀ x ∈ X, x < 65536) := Lib.hid xs
        clear HNH q1 xs k2
        go_wp2_with fail
        refine (HNT w2).out.mono ?_
        rintro e w3 ⟨A2, c2, rfl, q2, ys, y8, k3⟩
        simp only at q2 ys y8 ⊢
        have HWZ := Lib.hid (show w.heap.size + 1 < w1.heap.size ∧ w.heap.size + 1 < w2.heap.size from by have h := HSI.out.bq.lt; have := (K2.out (fun _ => False)).size; omega)
        have NX1 := Lib.hid (Nums.of (w := w) (Que.keeps Q1.out (k3 (fun _ => False)) (fun _ _ z => z)) HWZ.out.1)
        have NY1 := Lib.hid (Nums.of (w := w) q2 HWZ.out.2)
        have S3 := Lib.hid (HSI.out.keeps (fun S => (K2.out S).trans (k3 S)))
        have YS : Hid (∀ x ∈ Y, x < 65536) := Lib.hid ys
        clear HNT q2 ys k3 Q1 K2
        cases xo
        · have hr := S3.out.ret
          have HLq := Lib.hid hr.1
          have HSC := Lib.hid hr.2.1
          have HOC := Lib.hid hr.2.2.1
          have B9 := Lib.hid hr.2.2.2.1
          have K9 : Hid (∀ S, Keeps S w (w3.setCells w.heap.size 0 (adc ⟨true, zero16⟩))) := Lib.hid hr.2.2.2.2
          have HV := Lib.hid (show R = (zero16, false) from HRD.out.1 (HBD.out.2 (.inl rfl)))
          clear hr
          generalize hC : adc ⟨true, zero16⟩ = C at *
          go_wp2_with (first
            | (refine wpList_load_mid rfl 24 _ rfl (w.heap.size + 1) 0 rfl C _ HLq.out.1 Tryz.underlying24 rfl HSC.out.1 ?_)
            | (refine wpList_store_mid rfl 24 _ _ rfl w.heap.size 0 C.toArray rfl rfl HLq.out.2 HSC.out.2 HOC.out ?_))
          try rw [Exit.noGoto_ret]
          refine bodyPost_ret (wh.ret_cell (p := 2) (u := 3) (ty := 24) (by kernel_rfl) _ _ _ w.heap.size _ _ _ (by rfl) B9.out Tryz.underlying24 rfl HSC.out.1) rfl ?_
          exact ⟨by rw [HV.out]; unfold av; rw [hC]; rfl, K9.out⟩
        cases yo
        · have hr := S3.out.ret
          have HLq := Lib.hid hr.1
          have HSC := Lib.hid hr.2.1
          have HOC := Lib.hid hr.2.2.1
          have B9 := Lib.hid hr.2.2.2.1
          have K9 : Hid (∀ S, Keeps S w (w3.setCells w.heap.size 0 (adc ⟨true, zero16⟩))) := Lib.hid hr.2.2.2.2
          have HV := Lib.hid (show R = (zero16, false) from HRD.out.1 (HBD.out.2 (.inr (.inl rfl))))
          clear hr
          generalize hC : adc ⟨true, zero16⟩ = C at *
          go_wp2_with (first
            | (refine wpList_load_mid rfl 24 _ rfl (w.heap.size + 1) 0 rfl C _ HLq.out.1 Tryz.underlying24 rfl HSC.out.1 ?_)
            | (refine wpList_store_mid rfl 24 _ _ rfl w.heap.size 0 C.toArray rfl rfl HLq.out.2 HSC.out.2 HOC.out ?_))
          try rw [Exit.noGoto_ret]
          refine bodyPost_ret (wh.ret_cell (p := 2) (u := 3) (ty := 24) (by kernel_rfl) _ _ _ w.heap.size _ _ _ (by rfl) B9.out Tryz.underlying24 rfl HSC.out.1) rfl ?_
          exact ⟨by rw [HV.out]; unfold av; rw [hC]; rfl, K9.out⟩
        obtain ⟨xy, hxy⟩ : ∃ xy, xy = X.length + Y.length := ⟨_, rfl⟩
        have hxyw : wrap64 ((X.length : Int) + (Y.length : Int)) = (xy : Int) := by unfold wrap64; omega
        by_cases hb : 8 < xy
        · have hb' : (8 : Int) < (xy : Int) := by omega
          have hb2 : (8 : Int) < (X.length : Int) + (Y.length : Int) := by omega
          have hr := S3.out.ret
          have HLq := Lib.hid hr.1
          have HSC := Lib.hid hr.2.1
          have HOC := Lib.hid hr.2.2.1
          have B9 := Lib.hid hr.2.2.2.1
          have K9 : Hid (∀ S, Keeps S w (w3.setCells w.heap.size 0 (adc ⟨true, zero16⟩))) := Lib.hid hr.2.2.2.2
          have HV := Lib.hid (show R = (zero16, false) from HRD.out.1 (HBD.out.2 (.inr (.inr (.inr (by omega))))))
          clear hr
          generalize hC : adc ⟨true, zero16⟩ = C at *
          go_wp2_with (first
            | (refine wpList_load_mid rfl 24 _ rfl (w.heap.size + 1) 0 rfl C _ HLq.out.1 Tryz.underlying24 rfl HSC.out.1 ?_)
            | (refine wpList_store_mid rfl 24 _ _ rfl w.heap.size 0 C.toArray rfl rfl HLq.out.2 HSC.out.2 HOC.out ?_))
          try rw [Exit.noGoto_ret]
          refine bodyPost_ret (wh.ret_cell (p := 2) (u := 3) (ty := 24) (by kernel_rfl) _ _ _ w.heap.size _ _ _ (by rfl) B9.out Tryz.underlying24 rfl HSC.out.1) rfl ?_
          exact ⟨by rw [HV.out]; unfold av; rw [hC]; rfl, K9.out⟩
        have hb' : ¬ (8 : Int) < (xy : Int) := by omega
        have hb2 : ¬ (8 : Int) < (X.length : Int) + (Y.length : Int) := by omega
        have HRR := Lib.hid (HRD.out.2 (by rw [HBD.out]; intro h; rcases h with h | h | h | h; cases h; cases h; rw [HGP.out] at h; cases h.1; omega))
        have HXY := Lib.hid (show X.length + Y.length ≤ 8 from by omega)
        clear hb hxy
        go_wp2_with fail
        clear hxyw hb' hb2
        go_loopw [13] (fun iv wr => ∃ (i : Nat) (B : List Nat), i ≤ X.length ∧ iv = .int .i64 (i : Int) ∧ SI w wr B ∧ putN B i (X.drop i) = putN zero16 0 X ∧ Nums w wr A1 X.length c1 X ∧ Nums w wr A2 Y.length c2 Y) (fun iv _ => X.length - (intOf iv).toNat)
        case atStart => exact ⟨0, _, by omega, rfl, S3.out, by rw [List.drop_zero], NX1.out, NY1.out⟩
        case round =>
          obtain ⟨i, B, hi, rfl, hS, hP, hNX, hNY⟩ := hrel
          have HSB := Lib.hid hS
          have HP := Lib.hid hP
          have HNX := Lib.hid hNX
          have HNY := Lib.hid hNY
          clear hS hP hNX hNY
          by_cases hlt : i < X.length
          · have hlt' : (i : Int) < (X.length : Int) := by omega
            have i0 : (0 : Int) ≤ (i : Int) := by omega
            obtain ⟨n, hn⟩ : ∃ n, X[i]? = some n := ⟨_, List.getElem?_eq_getElem hlt⟩
            have hn6 := XS.out n (List.mem_of_getElem? hn)
            obtain ⟨bb, oo, rfl, hb1, hb2, hc⟩ := HNX.out i n hn
            have hdr : X.drop i = n :: X.drop (i + 1) := by
              obtain ⟨a1, a2⟩ := List.getElem?_eq_some_iff.1 hn
              rw [← a2]; exact List.drop_eq_getElem_cons a1
            have hxy9 := HXY.out
            have p1 : 2 * ((i : Nat) : Int) < 16 := by omega
            have p0 : (0 : Int) ≤ ((i : Nat) : Int) := by omega
            have q1 : 2 * ((i : Nat) : Int) + 1 < 16 := by omega
            obtain ⟨x, hx⟩ : ∃ x, x = n / 256 := ⟨_, rfl⟩
            obtain ⟨y, hy⟩ : ∃ y, y = n % 256 := ⟨_, rfl⟩
            have t1 : (n : Int).tdiv 256 = (x : Int) := by rw [Int.tdiv_eq_ediv_of_nonneg (by omega)]; omega
            have t2 : (n : Int).tmod 256 = (y : Int) := by rw [Int.tmod_eq_emod_of_nonneg (by omega)]; omega
            have u1 : IntKind.u8.wrap (x : Int) = (x : Int) := by rw [show IntKind.u8.wrap (x : Int) = (x : Int) % 256 from rfl]; omega
            have u2 : IntKind.u8.wrap (y : Int) = (y : Int) := by rw [show IntKind.u8.wrap (y : Int) = (y : Int) % 256 from rfl]; omega
            have v1 : IntKind.i64.wrap (x : Int) = (x : Int) := by rw [IntKind.wrap_i64]; omega
            have hcl := HSB.out.cell (p := 2 * i) (by omega)
            have hcl2 := HSB.out.cell2 (p := 2 * i) (q := 2 * i + 1) (x := x) (by omega) (by omega) (by omega)
            obtain ⟨⟨s1, hs1⟩, f1⟩ := hcl
            obtain ⟨⟨s2, hs2⟩, f2⟩ := hcl2
            have SP := Lib.hid (HSB.out.put (p := 2 * i) (q := 2 * i + 1) (x := x) (y := y) (by omega) (by omega) (by omega) (by omega))
            have HPN := Lib.hid (show putN ((B.set (2 * i) x).set (2 * i + 1) y) (i + 1) (X.drop (i + 1)) = putN zero16 0 X from by have := HP.out; rw [hdr, putN, ← hx, ← hy] at this; exact this)
            have HLI := Lib.hid hlt
            have hc2 : (wr.setCell ⟨w.heap.size + 1, 1 + 2 * i, none⟩ (.int .u8 (x : Int))).cell? ⟨bb, oo + i, none⟩ = some (.int .i64 (n : Int)) := Keeps.cell (Keeps.here (b := w.heap.size + 1) (i := 1 + 2 * i) (.int .u8 (x : Int))) hc hb1
            clear hn hb2 hdr hx hy hlt hi
            go_wp2_with fail
            go_roundw
            case rel => exact ⟨i + 1, _, by have := HLI.out; omega, by first | rfl | go_num, SP.out.1, HPN.out, HNX.out.keeps SP.out.2, HNY.out.keeps SP.out.2⟩
            case measure => simp [intOf] <;> (have := HLI.out; omega)
          · have hlt' : ¬ (i : Int) < (X.length : Int) := by omega
            have hdr : X.drop i = [] := List.drop_eq_nil_of_le (by omega)
            have HB2 := Lib.hid (show B = putN zero16 0 X from by have := HP.out; rw [hdr, putN] at this; exact this)
            clear hdr hlt
            have SB := Lib.hid HSB.out
            have NX2 := Lib.hid HNX.out
            have NY2 := Lib.hid HNY.out
            have HBX := Lib.hid HB2.out
            clear HSB HNX HNY HP HB2
            obtain ⟨B1, hB1⟩ : ∃ B1, B1 = B := ⟨_, rfl⟩
            rw [← hB1] at SB HBX
            clear hB1 hi
            go_wp2_with fail
            clear hlt'
            go_loopw [14] (fun iv wr => ∃ (i : Nat) (B : List Nat), i ≤ Y.length ∧ iv = .int .i64 (i : Int) ∧ SI w wr B ∧ putN B ((8 - Y.length) + i) (Y.drop i) = putN B1 (8 - Y.length) Y ∧ Nums w wr A1 X.length c1 X ∧ Nums w wr A2 Y.length c2 Y) (fun iv _ => Y.length - (intOf iv).toNat)
            case atStart => exact ⟨0, _, by omega, rfl, SB.out, by rw [Nat.add_zero, List.drop_zero], NX2.out, NY2.out⟩
            case round =>
              obtain ⟨i, B, hi, rfl, hS, hP, hNX, hNY⟩ := hrel
              have HSB := Lib.hid hS
              have HP := Lib.hid hP
              have HNX := Lib.hid hNX
              have HNY := Lib.hid hNY
              clear hS hP hNX hNY
              by_cases hlt : i < Y.length
              · have hlt' : (i : Int) < (Y.length : Int) := by omega
                have i0 : (0 : Int) ≤ (i : Int) := by omega
                obtain ⟨n, hn⟩ : ∃ n, Y[i]? = some n := ⟨_, List.getElem?_eq_getElem hlt⟩
                have hn6 := YS.out n (List.mem_of_getElem? hn)
                obtain ⟨bb, oo, rfl, hb1, hb2, hc⟩ := HNY.out i n hn
                have hdr : Y.drop i = n :: Y.drop (i + 1) := by
                  obtain ⟨a1, a2⟩ := List.getElem?_eq_some_iff.1 hn
                  rw [← a2]; exact List.drop_eq_getElem_cons a1
                have hxy9 := HXY.out
                have p1 : 2 * (((8 - Y.length + i) : Nat) : Int) < 16 := by omega
                have p0 : (0 : Int) ≤ (((8 - Y.length + i) : Nat) : Int) := by omega
                have q1 : 2 * (((8 - Y.length + i) : Nat) : Int) + 1 < 16 := by omega
                obtain ⟨x, hx⟩ : ∃ x, x = n / 256 := ⟨_, rfl⟩
                obtain ⟨y, hy⟩ : ∃ y, y = n % 256 := ⟨_, rfl⟩
                have t1 : (n : Int).tdiv 256 = (x : Int) := by rw [Int.tdiv_eq_ediv_of_nonneg (by omega)]; omega
                have t2 : (n : Int).tmod 256 = (y : Int) := by rw [Int.tmod_eq_emod_of_nonneg (by omega)]; omega
                have u1 : IntKind.u8.wrap (x : Int) = (x : Int) := by rw [show IntKind.u8.wrap (x : Int) = (x : Int) % 256 from rfl]; omega
                have u2 : IntKind.u8.wrap (y : Int) = (y : Int) := by rw [show IntKind.u8.wrap (y : Int) = (y : Int) % 256 from rfl]; omega
                have v1 : IntKind.i64.wrap (x : Int) = (x : Int) := by rw [IntKind.wrap_i64]; omega
                have hcl := HSB.out.cell (p := 2 * (8 - Y.length + i)) (by omega)
                have hcl2 := HSB.out.cell2 (p := 2 * (8 - Y.length + i)) (q := 2 * (8 - Y.length + i) + 1) (x := x) (by omega) (by omega) (by omega)
                obtain ⟨⟨s1, hs1⟩, f1⟩ := hcl
                obtain ⟨⟨s2, hs2⟩, f2⟩ := hcl2
                have SP := Lib.hid (HSB.out.put (p := 2 * (8 - Y.length + i)) (q := 2 * (8 - Y.length + i) + 1) (x := x) (y := y) (by omega) (by omega) (by omega) (by omega))
                have HPN := Lib.hid (show putN ((B.set (2 * (8 - Y.length + i)) x).set (2 * (8 - Y.length + i) + 1) y) ((8 - Y.length) + (i + 1)) (Y.drop (i + 1)) = putN B1 (8 - Y.length) Y from by have := HP.out; rw [hdr, putN, ← hx, ← hy] at this; rw [show ((8 - Y.length) + (i + 1)) = (8 - Y.length + i) + 1 from by omega]; exact this)
                have HLI := Lib.hid hlt
                have hc2 : (wr.setCell ⟨w.heap.size + 1, 1 + 2 * (8 - Y.length + i), none⟩ (.int .u8 (x : Int))).cell? ⟨bb, oo + i, none⟩ = some (.int .i64 (n : Int)) := Keeps.cell (Keeps.here (b := w.heap.size + 1) (i := 1 + 2 * (8 - Y.length + i)) (.int .u8 (x : Int))) hc hb1
                clear hn hb2 hdr hx hy hlt hi
                go_wp2_with fail
                go_roundw
                case rel => exact ⟨i + 1, _, by have := HLI.out; omega, by first | rfl | go_num, SP.out.1, HPN.out, HNX.out.keeps SP.out.2, HNY.out.keeps SP.out.2⟩
                case measure => simp [intOf] <;> (have := HLI.out; omega)
              · have hlt' : ¬ (i : Int) < (Y.length : Int) := by omega
                have hdr : Y.drop i = [] := List.drop_eq_nil_of_le (by omega)
                have HB2 := Lib.hid (show B = putN B1 (8 - Y.length) Y from by have := HP.out; rw [hdr, putN] at this; exact this)
                clear hdr hlt
                have HB3 := Lib.hid (show B = putN (putN zero16 0 X) (8 - Y.length) Y from by rw [HB2.out, HBX.out])
                have hr := HSB.out.ret
                have HLq := Lib.hid hr.1
                have HSC := Lib.hid hr.2.1
                have HOC := Lib.hid hr.2.2.1
                have B9 := Lib.hid hr.2.2.2.1
                have K9 : Hid (∀ S, Keeps S w (wr.setCells w.heap.size 0 (adc ⟨true, B⟩))) := Lib.hid hr.2.2.2.2
                have HV := Lib.hid (show R = (B, true) from HRR.out.trans (by rw [HB3.out]))
                clear hr
                generalize hC : adc ⟨true, B⟩ = C at *
                go_wp2_with (first
                  | (refine wpList_load_mid rfl 24 _ rfl (w.heap.size + 1) 0 rfl C _ HLq.out.1 Tryz.underlying24 rfl HSC.out.1 ?_)
                  | (refine wpList_store_mid rfl 24 _ _ rfl w.heap.size 0 C.toArray rfl rfl HLq.out.2 HSC.out.2 HOC.out ?_))
                try rw [Exit.noGoto_ret]
                refine bodyPost_ret (wh.ret_cell (p := 2) (u := 3) (ty := 24) (by kernel_rfl) _ _ _ w.heap.size _ _ _ (by rfl) B9.out Tryz.underlying24 rfl HSC.out.1) rfl ?_
                exact ⟨by rw [HV.out]; unfold av; rw [hC]; rfl, K9.out⟩
end
end Go.Proofs.YtgcdhfpbmcfedaaGreatDoor.pf
end
section
set_option linter.unusedVariables false
set_option linter.unusedSimpArgs false
namespace Go.Proofs.YtgcdhfpbmcfedaaGreatDoor.pf
open Go.RowKit Go.Proofs.YtgcdhfpbmcfedaaGreatDoor.oc Go.Proofs.YtgcdhfpbmcfedaaGreatDoor.mz
theorem dec_form (n : Nat) (h : n < 256) : (n < 10 ∧ dec n = [48 + n]) ∨ (10 ≤ n ∧ n < 100 ∧ dec n = [48 + n / 10, 48 + n % 10]) ∨ (100 ≤ n ∧ dec n = [48 + n / 100, 48 + n / 10 % 10, 48 + n % 10]) := by
  have sg : ∀ d, d < 10 → sign d = 48 + d := fun d hd => by unfold sign; rw [if_pos hd]
  rcases Nat.lt_or_ge n 10 with h1 | h1
  · left
    refine ⟨h1, ?_⟩
    unfold dec; rw [dg, if_pos h1, sg n h1]
  · right
    rcases Nat.lt_or_ge n 100 with h2 | h2
    · left
      refine ⟨h1, h2, ?_⟩
      unfold dec
      rw [dg, if_neg (by omega), dg, if_pos (by omega), sg _ (by omega), sg _ (by omega)]
      rfl
    · right
      refine ⟨h2, ?_⟩
      unfold dec
      rw [dg, if_neg (by omega), dg, if_neg (by omega), dg, if_pos (by omega), sg _ (by omega), sg _ (by omega), sg _ (by omega), show n / 10 / 10 = n / 100 from by omega]
      rfl
/-- a digit is read -/
theorem four4_digit (d k n : Nat) (sm : Bool) (B r : List Nat) (hd : d < 10) (hn : n ≤ 255) : four4 ((48 + d) :: r) k n sm B = four4 r k (10 * n + d) true B := by
  rw [four4, if_neg (by omega), if_neg (by omega), show 48 + d - 48 = d from by omega]
theorem four4_dec (n k : Nat) (B r : List Nat) (h : n < 256) : four4 (dec n ++ r) k 0 false B = four4 r k n true B := by
  rcases dec_form n h with ⟨h1, e⟩ | ⟨h1, h2, e⟩ | ⟨h1, e⟩
  · rw [e]; simp only [List.cons_append, List.nil_append]
    rw [four4_digit n k 0 _ _ _ h1 (by omega), Nat.mul_zero, Nat.zero_add]
  · rw [e]; simp only [List.cons_append, List.nil_append]
    rw [four4_digit _ k 0 _ _ _ (by omega) (by omega), four4_digit _ k _ _ _ _ (by omega) (by omega)]
    congr 1; omega
  · rw [e]; simp only [List.cons_append, List.nil_append]
    rw [four4_digit _ k 0 _ _ _ (by omega) (by omega), four4_digit _ k _ _ _ _ (by omega) (by omega), four4_digit _ k _ _ _ _ (by omega) (by omega)]
    congr 1; omega
theorem four4_dot (k n : Nat) (B r : List Nat) (hn : n ≤ 255) (hk : k ≤ 3) : four4 (46 :: r) k n true B = four4 r (k + 1) 0 false (B.set k n) := by
  rw [four4, if_pos rfl, if_neg (by simp; omega)]
theorem four4_t4 {a : Ad} (h : a.Wf) : four4 (t4 a) 0 0 false (List.replicate 16 0) = ((((List.replicate 16 0).set 0 (byt a 0)).set 1 (byt a 1)).set 2 (byt a 2) |>.set 3 (byt a 3), true) := by
  have b := byt_lt h
  unfold t4
  simp only [List.append_assoc]
  rw [four4_dec _ _ _ _ (b 0), List.singleton_append, four4_dot _ _ _ _ (by have := b 0; omega) (by omega)]
  rw [four4_dec _ _ _ _ (b 1), List.singleton_append, four4_dot _ _ _ _ (by have := b 1; omega) (by omega)]
  rw [four4_dec _ _ _ _ (b 2), List.singleton_append, four4_dot _ _ _ _ (by have := b 2; omega) (by omega)]
  rw [show dec (byt a 3) = dec (byt a 3) ++ [] from by simp, four4_dec _ _ _ _ (b 3), four4, if_neg (by have := b 3; simp; omega)]
  rfl
/-- what has a colon is no text of IPv4 -/
theorem four4_colon : ∀ (l : List Nat) (k n : Nat) (sm : Bool) (B : List Nat), 58 ∈ l → (four4 l k n sm B).2 = false
  | [], k, n, sm, B, h => by simp at h
  | c :: r, k, n, sm, B, h => by
    rw [four4]
    by_cases hc : c = 46
    · rw [if_pos hc]
      have hr : 58 ∈ r := by rcases List.mem_cons.1 h with e | e; omega; exact e
      split
      · rfl
      · exact four4_colon r _ _ _ _ hr
    · rw [if_neg hc]
      split
      · rfl
      · rename_i hd
        have hr : 58 ∈ r := by rcases List.mem_cons.1 h with e | e; omega; exact e
        exact four4_colon r _ _ _ _ hr
theorem hexv_sign {d : Nat} (h : d < 16) : hexv (sign d) = (d : Int) ∧ sign d ≠ 58 := by
  unfold sign
  split
  · unfold hexv; rw [if_pos (by omega)]; exact ⟨by omega, by omega⟩
  · unfold hexv; rw [if_neg (by omega), if_pos (by omega)]; exact ⟨by omega, by omega⟩
theorem hx_form (n : Nat) (h : n < 65536) : (n < 16 ∧ hx n = [sign n]) ∨ (16 ≤ n ∧ n < 256 ∧ hx n = [sign (n / 16), sign (n % 16)]) ∨ (256 ≤ n ∧ n < 4096 ∧ hx n = [sign (n / 256), sign (n / 16 % 16), sign (n % 16)]) ∨ (4096 ≤ n ∧ hx n = [sign (n / 4096), sign (n / 256 % 16), sign (n / 16 % 16), sign (n % 16)]) := by
  rcases Nat.lt_or_ge n 16 with h1 | h1
  · left; refine ⟨h1, ?_⟩; unfold hx; rw [dg, if_pos h1]
  · right
    rcases Nat.lt_or_ge n 256 with h2 | h2
    · left; refine ⟨h1, h2, ?_⟩
      unfold hx
      rw [dg, if_neg (by omega), dg, if_pos (by omega)]; rfl
    · right
      rcases Nat.lt_or_ge n 4096 with h3 | h3
      · left; refine ⟨h2, h3, ?_⟩
        unfold hx
        rw [dg, if_neg (by omega), dg, if_neg (by omega), dg, if_pos (by omega), show n / 16 / 16 = n / 256 from by omega]; rfl
      · right; refine ⟨h3, ?_⟩
        unfold hx
        rw [dg, if_neg (by omega), dg, if_neg (by omega), dg, if_neg (by omega), dg, if_pos (by omega), show n / 16 / 16 / 16 = n / 4096 from by omega, show n / 16 / 16 % 16 = n / 256 % 16 from by omega]; rfl
theorem numsF_digit (d n c : Nat) (o r : List Nat) (hd : d < 16) (hc : c ≤ 4) : numsF (sign d :: r) n c o = numsF r (16 * n + d) (c + 1) o := by
  obtain ⟨e1, e2⟩ := hexv_sign hd
  rw [numsF, if_neg e2, if_neg (by rw [e1]; omega), e1]
  rfl
theorem hx_ok (n : Nat) (h : n < 65536) : (1 ≤ (hx n).length ∧ (hx n).length ≤ 4) ∧ (∀ c ∈ hx n, c ≠ 58) ∧ ∀ o r, numsF (hx n ++ r) 0 0 o = numsF r n (hx n).length o := by
  have sg := fun d hd => (hexv_sign (d := d) hd).2
  rcases hx_form n h with ⟨h1, e⟩ | ⟨h1, h2, e⟩ | ⟨h1, h2, e⟩ | ⟨h1, e⟩
  · rw [e]
    refine ⟨by simp, fun c hc => ?_, fun o r => ?_⟩
    · simp at hc; subst hc; exact sg _ h1
    · simp only [List.cons_append, List.nil_append]
      rw [numsF_digit n 0 0 o r h1 (by omega)]; simp
  · rw [e]
    refine ⟨by simp, fun c hc => ?_, fun o r => ?_⟩
    · simp at hc; rcases hc with hc | hc <;> subst hc <;> exact sg _ (by omega)
    · simp only [List.cons_append, List.nil_append]
      rw [numsF_digit _ 0 0 o _ (by omega) (by omega), numsF_digit _ _ _ o r (by omega) (by omega)]
      congr 1; omega
  · rw [e]
    refine ⟨by simp, fun c hc => ?_, fun o r => ?_⟩
    · simp at hc; rcases hc with hc | hc | hc <;> subst hc <;> exact sg _ (by omega)
    · simp only [List.cons_append, List.nil_append]
      rw [numsF_digit _ 0 0 o _ (by omega) (by omega), numsF_digit _ _ _ o _ (by omega) (by omega), numsF_digit _ _ _ o r (by omega) (by omega)]
      congr 1; omega
  · rw [e]
    refine ⟨by simp, fun c hc => ?_, fun o r => ?_⟩
    · simp at hc; rcases hc with hc | hc | hc | hc <;> subst hc <;> exact sg _ (by omega)
    · simp only [List.cons_append, List.nil_append]
      rw [numsF_digit _ 0 0 o _ (by omega) (by omega), numsF_digit _ _ _ o _ (by omega) (by omega), numsF_digit _ _ _ o _ (by omega) (by omega), numsF_digit _ _ _ o r (by omega) (by omega)]
      congr 1; omega
/-- numbers, colons between -/
def jn : List Nat → List Nat
  | [] => []
  | [n] => hx n
  | n :: m :: r => hx n ++ 58 :: jn (m :: r)
theorem jn_cons (n : Nat) (r : List Nat) : jn (n :: r) = hx n ++ (if r = [] then [] else 58 :: jn r) := by
  cases r with
  | nil => simp [jn]
  | cons m r => rw [jn]; simp
theorem jn_snoc : ∀ (l : List Nat) (n : Nat), jn (l ++ [n]) = jn l ++ (if l = [] then [] else [58]) ++ hx n
  | [], n => by simp [jn]
  | m :: r, n => by
    rw [List.cons_append, jn_cons, jn_snoc r n, jn_cons]
    cases r with
    | nil => simp [jn]
    | cons x y => simp
theorem numsF_jn : ∀ (ns : List Nat) (n : Nat) (o : List Nat), (∀ x ∈ n :: ns, x < 65536) → o.length + (n :: ns).length ≤ 8 → numsF (jn (n :: ns)) 0 0 o = (o ++ n :: ns, true)
  | [], n, o, h, hl => by
    obtain ⟨h1, h2, h3⟩ := hx_ok n (h n (by simp))
    have ho : o.length ≤ 7 := by simp at hl; omega
    rw [jn, show hx n = hx n ++ [] from by simp, h3, numsF, if_neg (by omega)]
  | m :: r, n, o, h, hl => by
    obtain ⟨h1, h2, h3⟩ := hx_ok n (h n (by simp))
    have ho : o.length ≤ 6 := by simp at hl; omega
    rw [jn, h3, numsF, if_pos rfl, if_neg (by omega), numsF_jn r m (o ++ [n]) (fun x hx => h x (List.mem_cons_of_mem _ hx)) (by simp at hl ⊢; omega)]
    simp
theorem jn_head (n : Nat) (r : List Nat) (h : n < 65536) : ∃ c t, jn (n :: r) = c :: t ∧ c ≠ 58 := by
  obtain ⟨h1, h2, _⟩ := hx_ok n h
  rw [jn_cons]
  cases hq : hx n with
  | nil => rw [hq] at h1; simp at h1
  | cons c t => exact ⟨c, _, rfl, h2 c (by rw [hq]; simp)⟩
theorem nums_jn (ns : List Nat) (h : ∀ x ∈ ns, x < 65536) (hl : ns.length ≤ 8) : nums (jn ns) = (ns, true) := by
  cases ns with
  | nil => rfl
  | cons n r =>
    obtain ⟨c, t, e, _⟩ := jn_head n r (h n (by simp))
    unfold nums
    rw [if_neg (by rw [e]; simp), numsF_jn r n [] h (by simpa using hl)]
    simp
theorem gap_cons {c : Nat} (h : c ≠ 58) (r : List Nat) : gapL (c :: r) = (gapL r).map (· + 1) := by
  cases r with
  | nil => rfl
  | cons y r => rw [gapL, if_neg (fun z => h z.1)]
theorem gap_skip : ∀ (l r : List Nat), (∀ c ∈ l, c ≠ 58) → gapL (l ++ r) = (gapL r).map (· + l.length)
  | [], r, _ => by simp
  | c :: l, r, h => by
    rw [List.cons_append, gap_cons (h c (by simp)), gap_skip l r (fun x hx => h x (List.mem_cons_of_mem _ hx)), Option.map_map]
    congr 1
    all_goals (funext z; simp <;> omega)
theorem gap_colon {y : Nat} (h : y ≠ 58) (r : List Nat) : gapL (58 :: y :: r) = (gapL (y :: r)).map (· + 1) := by rw [gapL, if_neg (fun z => h z.2)]
/-- behind numbers stands what has its gap at g -/
theorem gap_jn : ∀ (ns : List Nat) (r : List Nat), (∀ x ∈ ns, x < 65536) → (r = [] ∨ ∃ t, r = 58 :: 58 :: t) → gapL (jn ns ++ r) = (gapL r).map (· + (jn ns).length)
  | [], r, _, _ => by simp [jn]
  | [n], r, h, _ => by
    obtain ⟨_, h2, _⟩ := hx_ok n (h n (by simp))
    rw [jn, gap_skip _ _ h2]
  | n :: m :: ns, r, h, hr => by
    obtain ⟨_, h2, _⟩ := hx_ok n (h n (by simp))
    obtain ⟨c, t, e, hc⟩ := jn_head m ns (h m (by simp))
    have ih := gap_jn (m :: ns) r (fun x hx => h x (List.mem_cons_of_mem _ hx)) hr
    rw [jn, List.append_assoc, gap_skip _ _ h2, List.cons_append]
    have : gapL (58 :: (jn (m :: ns) ++ r)) = (gapL (jn (m :: ns) ++ r)).map (· + 1) := by
      rw [e, List.cons_append, gap_colon hc]
    rw [this, ih, Option.map_map, Option.map_map]
    congr 1
    all_goals (funext z; simp <;> omega)
/-- the first k numbers -/
def fst (nm : Nat → Nat) (k : Nat) : List Nat := (List.range k).map nm
theorem fst_succ (nm : Nat → Nat) (k : Nat) : fst nm (k + 1) = fst nm k ++ [nm k] := by simp [fst, List.range_succ]
/-- the numbers from the i-th on, n of them -/
def seg (nm : Nat → Nat) (i n : Nat) : List Nat := (List.range n).map (fun j => nm (i + j))
theorem seg_succ (nm : Nat → Nat) (i n : Nat) : seg nm i (n + 1) = seg nm i n ++ [nm (i + n)] := by simp [seg, List.range_succ]
theorem fst_nil (nm : Nat → Nat) (k : Nat) : fst nm k = [] ↔ k = 0 := by simp [fst]
theorem seg_nil (nm : Nat → Nat) (i k : Nat) : seg nm i k = [] ↔ k = 0 := by simp [seg]
theorem t6_plain (nm : Nat → Nat) (at_ long : Nat) (h : ¬ 1 < long) : ∀ k, t6up nm at_ long k = jn (fst nm k)
  | 0 => by simp [t6up, fst, jn]
  | k + 1 => by
    rw [t6up, t6_plain nm at_ long h k, fst_succ, jn_snoc]
    unfold sep piece col
    rw [if_neg (fun z => h z.1), if_neg (fun z => h z.1), List.append_nil, List.append_assoc]
    congr 1
    congr 1
    by_cases hk : k = 0
    · rw [if_neg (by omega), if_pos ((fst_nil nm k).2 hk)]
    · rw [if_pos ⟨by omega, fun z => h z.1⟩, if_neg (fun z => hk ((fst_nil nm k).1 z))]
theorem t6_ahead (nm : Nat → Nat) (at_ long : Nat) (h : 1 < long) : ∀ k, k ≤ at_ → t6up nm at_ long k = jn (fst nm k)
  | 0, _ => by simp [t6up, fst, jn]
  | k + 1, hk => by
    rw [t6up, t6_ahead nm at_ long h k (by omega), fst_succ, jn_snoc]
    unfold sep piece col
    rw [if_neg (by omega), if_neg (by omega), List.append_nil, List.append_assoc]
    congr 1
    congr 1
    by_cases hk0 : k = 0
    · rw [if_neg (by omega), if_pos ((fst_nil nm k).2 hk0)]
    · rw [if_pos ⟨by omega, by omega⟩, if_neg (fun z => hk0 ((fst_nil nm k).1 z))]
theorem t6_within (nm : Nat → Nat) (at_ long : Nat) (h : 1 < long) : ∀ n, n < long → t6up nm at_ long (at_ + (n + 1)) = jn (fst nm at_) ++ [58, 58]
  | 0, _ => by
    rw [Nat.zero_add, t6up, t6_ahead nm at_ long h at_ (Nat.le_refl _)]
    unfold sep piece
    rw [if_pos ⟨h, rfl⟩, if_pos ⟨h, by omega, by omega⟩, List.append_nil]
  | n + 1, hn => by
    rw [← Nat.add_assoc, t6up, t6_within nm at_ long h n (by omega)]
    unfold sep piece
    rw [if_neg (by omega), if_pos ⟨h, by omega, by omega⟩, List.append_nil, List.append_nil]
theorem t6_behind (nm : Nat → Nat) (at_ long : Nat) (h : 1 < long) : ∀ n, t6up nm at_ long (at_ + long + n) = jn (fst nm at_) ++ [58, 58] ++ jn (seg nm (at_ + long) n)
  | 0 => by
    have := t6_within nm at_ long h (long - 1) (by omega)
    rw [show at_ + (long - 1 + 1) = at_ + long from by omega] at this
    rw [Nat.add_zero, this]; simp [seg, jn]
  | n + 1 => by
    rw [← Nat.add_assoc, t6up, t6_behind nm at_ long h n, seg_succ, jn_snoc]
    unfold sep piece col
    rw [if_neg (by omega), if_neg (by omega), List.append_nil]
    by_cases hn : n = 0
    · rw [if_neg (by omega), if_pos ((seg_nil nm _ n).2 hn)]; simp
    · rw [if_pos ⟨by omega, by omega⟩, if_neg (fun z => hn ((seg_nil nm _ n).1 z))]; simp
/-- the text of an address of IPv6: with a gap, or without one -/
theorem t6_form (nm : Nat → Nat) : (∃ at_ long, 1 < long ∧ at_ + long ≤ 8 ∧ (∀ j, j < long → nm (at_ + j) = 0) ∧ t6 nm = jn (fst nm at_) ++ 58 :: 58 :: jn (seg nm (at_ + long) (8 - (at_ + long)))) ∨ t6 nm = jn (fst nm 8) := by
  unfold t6
  have h1 := (rowUp_le nm 8 (by omega)).1
  have h2 := fun j => rowUp_zero nm 8 j
  generalize (rowUp nm 8).1 = at_ at *
  generalize (rowUp nm 8).2 = long at *
  by_cases h : 1 < long
  · left
    refine ⟨at_, long, h, h1, h2, ?_⟩
    have := t6_behind nm at_ long h (8 - (at_ + long))
    rw [show at_ + long + (8 - (at_ + long)) = 8 from by omega] at this
    rw [this]; simp
  · right; exact t6_plain nm at_ long h 8
end Go.Proofs.YtgcdhfpbmcfedaaGreatDoor.pf
end
section
set_option linter.unusedVariables false
set_option linter.unusedSimpArgs false
namespace Go.Proofs.YtgcdhfpbmcfedaaGreatDoor.pf
open Go.RowKit Go.Proofs.YtgcdhfpbmcfedaaGreatDoor.oc Go.Proofs.YtgcdhfpbmcfedaaGreatDoor.mz
theorem colon_jn (n m : Nat) (r : List Nat) : 58 ∈ jn (n :: m :: r) := by rw [jn]; simp
theorem fst_eight (nm : Nat → Nat) : fst nm 8 = [nm 0, nm 1, nm 2, nm 3, nm 4, nm 5, nm 6, nm 7] := rfl
theorem t6_colon (nm : Nat → Nat) : 58 ∈ t6 nm := by
  rcases t6_form nm with ⟨at_, long, _, _, _, e⟩ | e
  · rw [e]; simp
  · rw [e, fst_eight]; exact colon_jn _ _ _
theorem putN_len : ∀ (ns : List Nat) (B : List Nat) (k : Nat), (putN B k ns).length = B.length
  | [], B, k => rfl
  | n :: r, B, k => by rw [putN, putN_len r]; simp
theorem putN_lt : ∀ (ns : List Nat) (B : List Nat) (k : Nat), (∀ x ∈ B, x < 256) → (∀ n ∈ ns, n < 65536) → ∀ x ∈ putN B k ns, x < 256
  | [], B, k, h, _ => h
  | n :: r, B, k, h, hn => by
    rw [putN]
    refine putN_lt r _ _ (fun x hx => ?_) (fun m hm => hn m (List.mem_cons_of_mem _ hm))
    have := hn n (by simp)
    rcases List.mem_or_eq_of_mem_set hx with c | c
    · rcases List.mem_or_eq_of_mem_set c with d | d
      · exact h x d
      · omega
    · omega
theorem putN_get : ∀ (ns : List Nat) (B : List Nat) (k j : Nat), 2 * (k + ns.length) ≤ B.length → (putN B k ns)[j]?.getD 0 = if 2 * k ≤ j ∧ j < 2 * (k + ns.length) then (if j % 2 = 0 then ns[j / 2 - k]?.getD 0 / 256 else ns[j / 2 - k]?.getD 0 % 256) else B[j]?.getD 0
  | [], B, k, j, _ => by rw [putN, if_neg (by simp <;> omega)]
  | n :: r, B, k, j, h => by
    simp only [List.length_cons] at h
    rw [putN, putN_get r _ (k + 1) j (by simp; omega)]
    simp only [List.length_cons]
    by_cases h1 : 2 * (k + 1) ≤ j ∧ j < 2 * (k + 1 + r.length)
    · rw [if_pos h1, if_pos (show 2 * k ≤ j ∧ j < 2 * (k + (r.length + 1)) from by omega)]
      obtain ⟨d, hd⟩ : ∃ d, j / 2 - k = d + 1 := ⟨j / 2 - k - 1, by omega⟩
      rw [hd, show j / 2 - (k + 1) = d from by omega]; rfl
    · rw [if_neg h1]
      by_cases h2 : j = 2 * k
      · subst h2
        rw [if_pos (show 2 * k ≤ 2 * k ∧ 2 * k < 2 * (k + (r.length + 1)) from by omega), if_pos (by omega), show 2 * k / 2 - k = 0 from by omega, List.getElem?_set_ne (by omega), List.getElem?_set_self (by omega)]; rfl
      · by_cases h3 : j = 2 * k + 1
        · subst h3
          rw [if_pos (show 2 * k ≤ 2 * k + 1 ∧ 2 * k + 1 < 2 * (k + (r.length + 1)) from by omega), if_neg (by omega), show (2 * k + 1) / 2 - k = 0 from by omega, List.getElem?_set_self (by simp; omega)]; rfl
        · rw [if_neg (show ¬ (2 * k ≤ j ∧ j < 2 * (k + (r.length + 1))) from by omega), List.getElem?_set_ne (by omega), List.getElem?_set_ne (by omega)]
theorem fst_get (nm : Nat → Nat) (k i : Nat) (h : i < k) : (fst nm k)[i]?.getD 0 = nm i := by simp [fst, h]
theorem seg_get (nm : Nat → Nat) (p k i : Nat) (h : i < k) : (seg nm p k)[i]?.getD 0 = nm (p + i) := by simp [seg, h]
theorem fst_len (nm : Nat → Nat) (k : Nat) : (fst nm k).length = k := by simp [fst]
theorem seg_len (nm : Nat → Nat) (p k : Nat) : (seg nm p k).length = k := by simp [seg]
theorem num_byt {a : Ad} (h : a.Wf) (j : Nat) : (if j % 2 = 0 then num a (j / 2) / 256 else num a (j / 2) % 256) = byt a j := by
  have b1 := byt_lt h (2 * (j / 2))
  have b2 := byt_lt h (2 * (j / 2) + 1)
  unfold num
  split
  · rename_i e
    rw [show 2 * (j / 2) = j from by omega] at b1 ⊢
    rw [show 2 * (j / 2) + 1 = j + 1 from by omega] at b2
    omega
  · rename_i e
    rw [show 2 * (j / 2) + 1 = j from by omega] at b2 ⊢
    omega
theorem fst_mem {nm : Nat → Nat} (h : ∀ i, nm i < 65536) (k : Nat) : ∀ x ∈ fst nm k, x < 65536 := fun x hx => by
  simp only [fst, List.mem_map] at hx; obtain ⟨i, _, rfl⟩ := hx; exact h i
theorem seg_mem {nm : Nat → Nat} (h : ∀ i, nm i < 65536) (p k : Nat) : ∀ x ∈ seg nm p k, x < 65536 := fun x hx => by
  simp only [seg, List.mem_map] at hx; obtain ⟨i, _, rfl⟩ := hx; exact h _
theorem six_t6 {a : Ad} (h : a.Wf) (hv : a.v6 = true) : sixF (t6 (num a)) = (a.B, true) := by
  have hlt := num_lt h
  have fin : ∀ B : List Nat, B.length = 16 → (∀ x ∈ B, x < 256) → (∀ j, j < 16 → B[j]?.getD 0 = byt a j) → B = a.B := fun B h1 h2 h3 => by
    have : (⟨true, B⟩ : Ad) = a := Ad.ext_byt ⟨h1, h2⟩ h hv.symm (fun i hi => h3 i hi)
    rw [← this]
  have hz : ∀ x ∈ zero16, x < 256 := fun x hx => by have := (List.mem_replicate.1 hx).2; omega
  have hzl : zero16.length = 16 := rfl
  have hz0 : ∀ j, zero16[j]?.getD 0 = 0 := fun j => by
    unfold zero16
    rw [List.getElem?_replicate]; split <;> rfl
  rcases t6_form (num a) with ⟨p, n, h1, h2, h3, e⟩ | e
  · have hg : gapL (t6 (num a)) = some (jn (fst (num a) p)).length := by
      rw [e, gap_jn _ _ (fst_mem hlt p) (.inr ⟨_, rfl⟩), gapL, if_pos ⟨rfl, rfl⟩]; simp
    have hh : headL (t6 (num a)) = jn (fst (num a) p) := by rw [head_some hg, e, List.take_left]
    have ht : tailL (t6 (num a)) = jn (seg (num a) (p + n) (8 - (p + n))) := by
      rw [tail_some hg, e, show jn (fst (num a) p) ++ 58 :: 58 :: jn (seg (num a) (p + n) (8 - (p + n))) = (jn (fst (num a) p) ++ [58, 58]) ++ jn (seg (num a) (p + n) (8 - (p + n))) from by simp, show (jn (fst (num a) p)).length + 2 = (jn (fst (num a) p) ++ [58, 58]).length from by simp, List.drop_left]
    have n1 := nums_jn _ (fst_mem hlt p) (by rw [fst_len]; omega)
    have n2 := nums_jn _ (seg_mem hlt (p + n) (8 - (p + n))) (by rw [seg_len]; omega)
    unfold sixF
    rw [if_neg (by unfold badL; rw [hh, ht, n1, n2, fst_len, seg_len, hg]; simp; omega), hh, ht, n1, n2]
    simp only [seg_len]
    have l1 : (putN zero16 0 (fst (num a) p)).length = 16 := by rw [putN_len]; rfl
    refine Prod.ext (fin _ (by show (putN (putN _ _ _) _ _).length = 16; rw [putN_len, l1]) (putN_lt _ _ _ (putN_lt _ _ _ hz (fst_mem hlt p)) (seg_mem hlt _ _)) (fun j hj => ?_)) rfl
    simp only
    rw [putN_get _ _ _ _ (by rw [l1, seg_len]; omega), putN_get _ _ _ _ (by rw [fst_len, hzl]; omega), seg_len, fst_len, hz0, ← num_byt h j]
    by_cases c1 : 2 * (8 - (8 - (p + n))) ≤ j
    · rw [if_pos (by omega), seg_get _ _ _ _ (by omega), show p + n + (j / 2 - (8 - (8 - (p + n)))) = j / 2 from by omega]
    · rw [if_neg (by omega)]
      by_cases c2 : j < 2 * p
      · rw [if_pos (by omega), Nat.sub_zero, fst_get _ _ _ (by omega)]
      · rw [if_neg (by omega)]
        have := h3 (j / 2 - p) (by omega)
        rw [show p + (j / 2 - p) = j / 2 from by omega] at this
        rw [this]; simp
  · have hg : gapL (t6 (num a)) = none := by
      have := gap_jn (fst (num a) 8) [] (fst_mem hlt 8) (.inl rfl)
      rw [List.append_nil] at this
      rw [e, this]; rfl
    have hh : headL (t6 (num a)) = jn (fst (num a) 8) := by rw [head_none hg, e]
    have ht : tailL (t6 (num a)) = [] := tail_none hg
    have n1 := nums_jn _ (fst_mem hlt 8) (by rw [fst_len]; omega)
    have n2 : nums [] = ([], true) := rfl
    unfold sixF
    rw [if_neg (by unfold badL; rw [hh, ht, n1, n2, fst_len]; simp), hh, ht, n1, n2]
    refine Prod.ext (fin _ (by show (putN (putN _ _ _) _ _).length = 16; rw [putN_len, putN_len]; rfl) (putN_lt _ _ _ (putN_lt _ _ _ hz (fst_mem hlt 8)) (fun n hn => by simp at hn)) (fun j hj => ?_)) rfl
    simp only
    rw [putN, putN_get _ _ _ _ (by rw [fst_len, hzl]; omega), fst_len, if_pos (by omega), Nat.sub_zero, fst_get _ _ _ (by omega), num_byt h j]
theorem four_t4 {a : Ad} (h : a.Wf) (ho : okA a) (hv : a.v6 = false) : four4 (t4 a) 0 0 false (List.replicate 16 0) = (a.B, true) := by
  rw [four4_t4 h]
  congr 1
  have hw : wid a / 8 = 4 := by unfold wid; rw [hv]; rfl
  have b := byt_lt h
  have : (⟨false, (((List.replicate 16 0).set 0 (byt a 0)).set 1 (byt a 1)).set 2 (byt a 2) |>.set 3 (byt a 3)⟩ : Ad) = a := by
    refine Ad.ext_byt ⟨by simp, fun x hx => ?_⟩ h hv.symm (fun i hi => ?_)
    · rcases List.mem_or_eq_of_mem_set hx with c | c
      · rcases List.mem_or_eq_of_mem_set c with c | c
        · rcases List.mem_or_eq_of_mem_set c with c | c
          · rcases List.mem_or_eq_of_mem_set c with c | c
            · have := (List.mem_replicate.1 c).2; omega
            · rw [c]; exact b 0
          · rw [c]; exact b 1
        · rw [c]; exact b 2
      · rw [c]; exact b 3
    · rcases Nat.lt_or_ge i 4 with c | c
      · have : i = 0 ∨ i = 1 ∨ i = 2 ∨ i = 3 := by omega
        rcases this with rfl | rfl | rfl | rfl <;> rfl
      · rw [ho i (by omega) hi]
        unfold byt
        simp only
        rw [List.getElem?_set_ne (by omega), List.getElem?_set_ne (by omega), List.getElem?_set_ne (by omega), List.getElem?_set_ne (by omega), List.getElem?_replicate]
        split <;> rfl
  exact congrArg Ad.B this
theorem atext_inj {a b : Ad} (ha : a.Wf) (hb : b.Wf) (oa : okA a) (ob : okA b) (h : atext a = atext b) : a = b := by
  unfold atext at h
  cases va : a.v6 <;> cases vb : b.v6
  · rw [va, vb] at h
    simp only [Bool.false_eq_true, if_false] at h
    have e1 := four_t4 ha oa va
    rw [h, four_t4 hb ob vb] at e1
    exact Ad.eq_of (va.trans vb.symm) (Prod.mk.inj e1).1.symm
  · rw [va, vb] at h
    simp only [Bool.false_eq_true, if_false, if_true] at h
    have e1 := four_t4 ha oa va
    rw [h] at e1
    have e2 := four4_colon (t6 (num b)) 0 0 false (List.replicate 16 0) (t6_colon _)
    rw [e1] at e2; cases e2
  · rw [va, vb] at h
    simp only [Bool.false_eq_true, if_false, if_true] at h
    have e1 := four_t4 hb ob vb
    rw [← h] at e1
    have e2 := four4_colon (t6 (num a)) 0 0 false (List.replicate 16 0) (t6_colon _)
    rw [e1] at e2; cases e2
  · rw [va, vb] at h
    simp only [if_true] at h
    have e1 := six_t6 ha va
    rw [h, six_t6 hb vb] at e1
    exact Ad.eq_of (va.trans vb.symm) (Prod.mk.inj e1).1.symm
end Go.Proofs.YtgcdhfpbmcfedaaGreatDoor.pf
end
section
set_option linter.unusedVariables false
set_option linter.unusedSimpArgs false
namespace Go.Proofs.YtgcdhfpbmcfedaaGreatDoor.pf
open Go.RowKit Go.Proofs.YtgcdhfpbmcfedaaGreatDoor.oc Go.Proofs.YtgcdhfpbmcfedaaGreatDoor.mz Go.Proofs.YtgcdhfpbmcfedaaGreatDoor.wh
theorem set_lt {B : List Nat} {k x m : Nat} (h : ∀ y ∈ B, y < m) (hx : x < m) : ∀ y ∈ B.set k x, y < m := fun y hy => by
  rcases List.mem_or_eq_of_mem_set hy with c | c
  · exact h y c
  · omega
theorem four4_wf : ∀ (l : List Nat) (k n : Nat) (sm : Bool) (B : List Nat), B.length = 16 → (∀ x ∈ B, x < 256) → (four4 l k n sm B).1.length = 16 ∧ ∀ x ∈ (four4 l k n sm B).1, x < 256
  | [], k, n, sm, B, h1, h2 => by
    rw [four4]
    split
    · exact ⟨h1, h2⟩
    · exact ⟨by simp [h1], set_lt h2 (by omega)⟩
  | c :: r, k, n, sm, B, h1, h2 => by
    rw [four4]
    split
    · split
      · exact ⟨h1, h2⟩
      · exact four4_wf r _ _ _ _ (by simp [h1]) (set_lt h2 (by omega))
    · split
      · exact ⟨h1, h2⟩
      · exact four4_wf r _ _ _ _ h1 h2
theorem numsF_lt : ∀ (l : List Nat) (n c : Nat) (o : List Nat), n < 16 ^ c → (∀ x ∈ o, x < 65536) → ∀ x ∈ (numsF l n c o).1, x < 65536
  | [], n, c, o, hn, ho => by
    rw [numsF]
    split
    · intro x hx; simp at hx
    · rename_i hc
      have := pow16 (c := c) (by omega)
      intro x hx
      rcases List.mem_append.1 hx with z | z
      · exact ho x z
      · simp at z; omega
  | y :: r, n, c, o, hn, ho => by
    rw [numsF]
    split
    · split
      · intro x hx; simp at hx
      · rename_i hc
        have := pow16 (c := c) (by omega)
        exact numsF_lt r 0 0 _ (by simp) (fun x hx => by
          rcases List.mem_append.1 hx with z | z
          · exact ho x z
          · simp at z; omega)
    · split
      · intro x hx; simp at hx
      · exact numsF_lt r _ _ _ (by rw [Nat.pow_succ]; exact n2_lt rfl (hexv_lt y).1 hn) ho
theorem nums_lt (l : List Nat) : ∀ x ∈ (nums l).1, x < 65536 := by
  unfold nums
  split
  · intro x hx; simp at hx
  · exact numsF_lt l 0 0 [] (by simp) (fun x hx => by simp at hx)
theorem sixF_wf (l : List Nat) : (⟨true, (sixF l).1⟩ : Ad).Wf := by
  have hz : ∀ x ∈ zero16, x < 256 := fun x hx => by have := (List.mem_replicate.1 hx).2; omega
  unfold sixF
  split
  · exact ⟨rfl, hz⟩
  · exact ⟨by show (putN (putN _ _ _) _ _).length = 16; rw [putN_len, putN_len]; rfl, putN_lt _ _ _ (putN_lt _ _ _ hz (nums_lt _)) (nums_lt _)⟩
/-- what a text may be the text of -/
noncomputable def cand (l : List Nat) : Ad × Bool := if (four4 l 0 0 false (List.replicate 16 0)).2 = true then (⟨false, (four4 l 0 0 false (List.replicate 16 0)).1⟩, true) else (⟨true, (sixF l).1⟩, (sixF l).2)
theorem four4_wf0 (l : List Nat) : (⟨false, (four4 l 0 0 false (List.replicate 16 0)).1⟩ : Ad).Wf := by
  have := four4_wf l 0 0 false (List.replicate 16 0) rfl (fun x hx => by have := (List.mem_replicate.1 hx).2; omega)
  exact ⟨this.1, this.2⟩
theorem cand_of {a : Ad} (h : a.Wf) (ho : okA a) : cand (atext a) = (a, true) := by
  unfold cand atext
  cases hv : a.v6
  · simp only [Bool.false_eq_true, if_false]
    rw [four_t4 h ho hv, if_pos rfl]
    simp only
    rw [← hv]
  · simp only [if_true]
    rw [if_neg (by rw [four4_colon _ _ _ _ _ (t6_colon _)]; simp), six_t6 h hv]
    simp only
    rw [← hv]
/-- l is the text of a -/
def IsText (l : List Nat) (a : Ad) : Prop := a.Wf ∧ okA a ∧ atext a = l
theorem IsText.uniq {l : List Nat} {a b : Ad} (h : IsText l a) (k : IsText l b) : a = b := atext_inj h.1 k.1 h.2.1 k.2.1 (h.2.2.trans k.2.2.symm)
theorem IsText.cand {l : List Nat} {a : Ad} (h : IsText l a) : pf.cand l = (a, true) := by rw [← h.2.2]; exact cand_of h.1 h.2.1
/-- what ReadAddr answers -/
def RdA (l : List Nat) (e : Ending) : Prop := (∃ a, IsText l a ∧ e = .returned (.tuple #[av a, .int .i64 0])) ∨ ((∀ a, ¬ IsText l a) ∧ e = .returned (.tuple #[av zeroA, .int .i64 150]))
theorem str_inj {l m : List Nat} (hl : ∀ x ∈ l, x < 256) (hm : ∀ x ∈ m, x < 256) (h : str l = str m) : l = m := by
  have h1 : l.map (fun x => UInt8.ofNat x) = m.map (fun x => UInt8.ofNat x) := by
    have := congrArg (fun s : ByteArray => s.data.toList) h
    simpa [str] using this
  have h2 : ∀ l : List Nat, (∀ x ∈ l, x < 256) → (l.map (fun x => UInt8.ofNat x)).map UInt8.toNat = l := fun l hl => by
    rw [List.map_map]
    conv => rhs; rw [← List.map_id l]
    exact List.map_congr_left (fun x hx => by have := hl x hx; simp [UInt8.toNat_ofNat']; omega)
  rw [← h2 l hl, h1, h2 m hm]
theorem dec_lt (n : Nat) (h : n < 256) : ∀ x ∈ dec n, x < 256 := fun x hx => by
  rcases dec_form n h with ⟨_, e⟩ | ⟨_, _, e⟩ | ⟨_, e⟩ <;> rw [e] at hx <;> simp at hx <;> omega
theorem sign_lt {d : Nat} (h : d < 16) : sign d < 256 := by unfold sign; split <;> omega
theorem hx_lt (n : Nat) (h : n < 65536) : ∀ x ∈ hx n, x < 256 := fun x hx => by
  rcases hx_form n h with ⟨_, e⟩ | ⟨_, _, e⟩ | ⟨_, _, e⟩ | ⟨_, e⟩ <;> rw [e] at hx <;> simp at hx
  · subst hx; exact sign_lt (by omega)
  · rcases hx with hx | hx <;> subst hx <;> exact sign_lt (by omega)
  · rcases hx with hx | hx | hx <;> subst hx <;> exact sign_lt (by omega)
  · rcases hx with hx | hx | hx | hx <;> subst hx <;> exact sign_lt (by omega)
theorem jn_lt : ∀ (ns : List Nat), (∀ x ∈ ns, x < 65536) → ∀ x ∈ jn ns, x < 256
  | [], _ => by intro x hx; simp [jn] at hx
  | n :: r, h => by
    intro x hx
    rw [jn_cons] at hx
    rcases List.mem_append.1 hx with z | z
    · exact hx_lt n (h n (by simp)) x z
    · split at z
      · simp at z
      · rcases List.mem_cons.1 z with y | y
        · omega
        · exact jn_lt r (fun y hy => h y (List.mem_cons_of_mem _ hy)) x y
theorem atext_lt {a : Ad} (h : a.Wf) : ∀ x ∈ atext a, x < 256 := by
  have b := byt_lt h
  unfold atext
  split
  · have hl := num_lt h
    rcases t6_form (num a) with ⟨p, n, _, _, _, e⟩ | e
    · rw [e]
      intro x hx
      rcases List.mem_append.1 hx with z | z
      · exact jn_lt _ (fst_mem hl _) x z
      · rcases List.mem_cons.1 z with y | y
        · omega
        · rcases List.mem_cons.1 y with y | y
          · omega
          · exact jn_lt _ (seg_mem hl _ _) x y
    · rw [e]; exact jn_lt _ (fst_mem hl _)
  · unfold t4
    intro x hx
    simp only [List.mem_append, List.mem_singleton] at hx
    rcases hx with (((((hx | hx) | hx) | hx) | hx) | hx) | hx
    · exact dec_lt _ (b 0) x hx
    · omega
    · exact dec_lt _ (b 1) x hx
    · omega
    · exact dec_lt _ (b 2) x hx
    · omega
    · exact dec_lt _ (b 3) x hx
theorem str_ne {l m : List Nat} (hl : ∀ x ∈ l, x < 256) (hm : ∀ x ∈ m, x < 256) (h : ¬ l = m) : ¬ (str l).toList = (str m).toList := fun z => h (str_inj hl hm (by
  rw [ByteArray.toList_eq, ByteArray.toList_eq] at z
  exact ByteArray.ext (Array.toList_inj.1 z)))
/-- the whole block's value written over it -/
theorem over_ad {w : World} {Q : Nat} {cs : List Value} {c : Ad} (hc : c.Wf) (h : Blk w Q 24 cs) (hl : cs.length = 17) : w.there Q 0 (adc c).toArray.size ∧ (Tryz.prog.info? 24).map (·.size) = some (adc c).toArray.size ∧ (adc c).toArray.all (·.oneCell') = true ∧ Blk (w.setCells Q 0 (adc c)) Q 24 (adc c) ∧ Keeps (· = Q) w (w.setCells Q 0 (adc c)) := by
  obtain ⟨t0, b9, k9⟩ := over_all (vs := adc c) h (by rw [adc_len hc, hl])
  exact ⟨t0, by rw [List.size_toArray, adc_len hc]; exact addr_info, all_oneCell_toArray (ad_one c), b9, k9⟩
theorem new_zero (w : World) : ∃ w1, w1 = w.alloc (.cells #[.bool false, .int .u8 0, .int .u8 0, .int .u8 0, .int .u8 0, .int .u8 0, .int .u8 0, .int .u8 0, .int .u8 0, .int .u8 0, .int .u8 0, .int .u8 0, .int .u8 0, .int .u8 0, .int .u8 0, .int .u8 0, .int .u8 0] 24) ∧ Blk w1 w.heap.size 24 (adc zeroA) ∧ ∀ S, Keeps S w w1 := ⟨_, rfl, Blk.new w _ _, fun S => (Keeps.refl S w).alloc _⟩
theorem zeroA_wf : zeroA.Wf := ⟨rfl, fun x hx => by have := (List.mem_replicate.1 hx).2; omega⟩
section
variable (w : World)
set_option maxRecDepth 100000 in
set_option maxHeartbeats 4000000 in
theorem readaddr_ (l : List Nat) (hb : ∀ x ∈ l, x < 256) (hl : l.length < 140737488355328) : Calls Tryz.prog 34 #[.string (str l)] w fun e w' => RdA l e ∧ ∀ S, Keeps S w w' := by
  obtain ⟨w1, hw1, B1, K1⟩ := new_zero w
  have H4 := Lib.hid (four_ w1 l hb hl)
  have H6 := fun w => Lib.hid (six_ w l hb hl)
  have HAT := fun c hc w => Lib.hid (addrtext_ c w hc)
  have HCD := Lib.hid (show cand l = (if (four4 l 0 0 false (List.replicate 16 0)).2 = true then (⟨false, (four4 l 0 0 false (List.replicate 16 0)).1⟩, true) else (⟨true, (sixF l).1⟩, (sixF l).2)) from rfl)
  have HWF := Lib.hid (And.intro (four4_wf0 l) (sixF_wf l))
  have HB : Hid (∀ x ∈ l, x < 256) := Lib.hid hb
  obtain ⟨s, hs⟩ : ∃ s, s = str l := ⟨_, rfl⟩
  have HS := Lib.hid hs
  rw [← hs] at H4 H6 ⊢
  generalize four4 l 0 0 false (List.replicate 16 0) = R4 at *
  generalize sixF l = R6 at *
  obtain ⟨b4, o4⟩ := R4
  obtain ⟨b6, o6⟩ := R6
  simp only at H4 H6 HCD HWF
  have HW := Lib.hid hw1
  have BP1 := Lib.hid B1
  have KK1 : Hid (∀ S, Keeps S w w1) := Lib.hid K1
  have HLT := Lib.hid B1.lt
  clear hb hl hs hw1 B1 K1
  go_enter Tryz.func34, Tryz.ntmps34
  go_wp2_with fail
  rw [← HW.out]
  refine H4.out.mono ?_
  rintro e w2 ⟨rfl, k2⟩
  have BP2 := Lib.hid (Blk.keeps BP1.out (k2 (fun _ => False)) (fun z => z))
  have K2 : Hid (∀ S, Keeps S w w2) := Lib.hid (fun S => (KK1.out S).trans (k2 S))
  have HPQ := Lib.hid (show w.heap.size < w2.heap.size from BP2.out.lt)
  clear k2 HW H4
  obtain ⟨w3, hw3, B3, K3⟩ := new_zero w2
  obtain ⟨o1, o2, o3, o5, o6'⟩ := over_ad HWF.out.1 B3 rfl
  have BP3 := Lib.hid (Blk.keeps (Blk.keeps BP2.out (K3 (fun _ => False)) (fun z => z)) o6' (by have := HPQ.out; omega))
  have K4 : Hid (∀ S, Keeps S w (w3.setCells w2.heap.size 0 (adc ⟨false, b4⟩))) := Lib.hid (fun S => by
    have kk := (K2.out S).trans (K3 S)
    have := (K2.out S).size
    exact ⟨Nat.le_trans kk.size o6'.size, fun x hx hs => by rw [o6'.block x (Nat.lt_of_lt_of_le hx kk.size) (by omega), kk.block x hx hs], kk.same.trans o6'.same⟩)
  have HT := Lib.hid (And.intro o1 (And.intro o2 o3))
  have BQ := Lib.hid o5
  unfold av
  subst hw3
  clear o1 o2 o3 o5 o6' B3 K3
  cases o4
  · have hl4 : (adc ⟨false, b4⟩).length = 17 := adc_len HWF.out.1
    have H6X := Lib.hid ((H6 ((w2.alloc (.cells #[.bool false, .int .u8 0, .int .u8 0, .int .u8 0, .int .u8 0, .int .u8 0, .int .u8 0, .int .u8 0, .int .u8 0, .int .u8 0, .int .u8 0, .int .u8 0, .int .u8 0, .int .u8 0, .int .u8 0, .int .u8 0, .int .u8 0] 24)).setCells w2.heap.size 0 (adc ⟨false, b4⟩))).out)
    unfold av at H6X
    generalize hC4 : adc ⟨false, b4⟩ = C4 at *
    clear hC4
    have HL4 := Lib.hid hl4
    clear hl4
    go_wp2_with (refine wpList_store_mid rfl 24 _ _ rfl w2.heap.size 0 C4.toArray rfl rfl HT.out.1 HT.out.2.1 HT.out.2.2 ?_)
    refine H6X.out.mono ?_
    rintro e w4 ⟨rfl, k4⟩
    have BP4 := Lib.hid (Blk.keeps BP3.out (k4 (fun _ => False)) (fun z => z))
    have bq4 := Blk.keeps BQ.out (k4 (fun _ => False)) (fun z => z)
    have KX : Hid (∀ S, Keeps S w w4) := Lib.hid (fun S => (K4.out S).trans (k4 S))
    obtain ⟨o1, o2, o3, o5, o6'⟩ := over_ad HWF.out.2 bq4 HL4.out
    clear BP3 HT BQ K4 H6X k4
    have BP3 := Lib.hid (Blk.keeps BP4.out o6' (by have := HPQ.out; omega))
    have HT := Lib.hid (And.intro o1 (And.intro o2 o3))
    have BQ := Lib.hid o5
    have K4 : Hid (∀ S, Keeps S w (w4.setCells w2.heap.size 0 (adc ⟨true, b6⟩))) := Lib.hid (fun S => by
      have kk := KX.out S
      have := (K2.out S).size
      exact ⟨Nat.le_trans kk.size o6'.size, fun x hx hs => by rw [o6'.block x (Nat.lt_of_lt_of_le hx kk.size) (by omega), kk.block x hx hs], kk.same.trans o6'.same⟩)
    clear o1 o2 o3 o5 o6' bq4 KX BP4
    cases o6
    · have HLQ := Lib.hid (Blk.range BQ.out)
      have HAC := Lib.hid ((HAT ⟨true, b6⟩ HWF.out.2 ((w4.setCells w2.heap.size 0 (adc ⟨true, b6⟩)))).out)
      have HSX := Lib.hid (show (Tryz.prog.info? 24).map (·.size) = some (adc ⟨true, b6⟩).length from by rw [adc_len HWF.out.2]; exact addr_info)
      have HCN := Lib.hid (show cand l = (⟨true, b6⟩, false) from by rw [HCD.out]; rfl)
      unfold av at HAC
      generalize hC : adc ⟨true, b6⟩ = C at *
      have HC := Lib.hid hC
      clear hC
      go_wp2_with (first
        | (refine wpList_store_mid rfl 24 _ _ rfl w2.heap.size 0 C.toArray rfl rfl HT.out.1 HT.out.2.1 HT.out.2.2 ?_)
        | (refine wpList_load_mid rfl 24 _ rfl w2.heap.size 0 rfl C _ HLQ.out Tryz.underlying24 rfl HSX.out ?_))
      have K4' : Hid (∀ S, Keeps S w ((w4.setCells w2.heap.size 0 C))) := Lib.hid K4.out
      clear K4
      refine HAC.out.mono ?_
      rintro e w5 ⟨hans, k5⟩
      have K5 : Hid (∀ S, Keeps S w w5) := Lib.hid (fun S => (K4'.out S).trans (k5 S))
      have BP5 := Lib.hid (Blk.keeps BP3.out (k5 (fun _ => False)) (fun z => z))
      have BQ5 := Lib.hid (Blk.keeps BQ.out (k5 (fun _ => False)) (fun z => z))
      have KP : ∀ w6, Keeps (· = w.heap.size) w5 w6 → ∀ S, Keeps S w w6 := fun w6 k6 S => by
        have kk := K5.out S
        exact ⟨Nat.le_trans kk.size k6.size, fun x hx hs => by rw [k6.block x (Nat.lt_of_lt_of_le hx kk.size) (by omega), kk.block x hx hs], kk.same.trans k6.same⟩
      have HKP := Lib.hid KP
      clear k5 HLQ HT BQ BP3 K4' HAC KP
      rcases hans with ⟨ho, rfl⟩ | ⟨ho, rfl⟩
      · generalize str (atext ⟨true, b6⟩) = t at *
        clear ho
        have HNO : Hid (∀ a, ¬ IsText l a) := Lib.hid (fun a ha => by have e := ha.cand; rw [HCN.out] at e; injection e with e1 e2; cases e2)
        have hz := over_ad zeroA_wf BP5.out rfl
        rw [zeroA_cells] at hz
        have HZ := Lib.hid hz
        have KZ := Lib.hid (HKP.out _ hz.2.2.2.2)
        clear hz
        go_wp2_with (refine wpList_store_mid rfl 24 _ _ rfl w.heap.size 0 #[.bool false, .int .u8 0, .int .u8 0, .int .u8 0, .int .u8 0, .int .u8 0, .int .u8 0, .int .u8 0, .int .u8 0, .int .u8 0, .int .u8 0, .int .u8 0, .int .u8 0, .int .u8 0, .int .u8 0, .int .u8 0, .int .u8 0] rfl rfl HZ.out.1 HZ.out.2.1 HZ.out.2.2.1 ?_)
        try rw [Exit.noGoto_ret]
        refine bodyPost_ret (wh.ret_cell (p := 2) (u := 3) (ty := 24) (by kernel_rfl) _ _ _ w.heap.size _ _ _ (by rfl) HZ.out.2.2.2.1 Tryz.underlying24 rfl addr_info) rfl ?_
        exact ⟨.inr ⟨HNO.out, rfl⟩, KZ.out⟩
      · have HNK := Lib.hid ho
        clear ho
        have HNO : Hid (∀ a, ¬ IsText l a) := Lib.hid (fun a ha => by have e := ha.cand; rw [HCN.out] at e; injection e with e1 e2; exact HNK.out (by rw [e1]; exact ha.2.1))
        have hz := over_ad zeroA_wf BP5.out rfl
        rw [zeroA_cells] at hz
        have HZ := Lib.hid hz
        have KZ := Lib.hid (HKP.out _ hz.2.2.2.2)
        clear hz
        go_wp2_with (refine wpList_store_mid rfl 24 _ _ rfl w.heap.size 0 #[.bool false, .int .u8 0, .int .u8 0, .int .u8 0, .int .u8 0, .int .u8 0, .int .u8 0, .int .u8 0, .int .u8 0, .int .u8 0, .int .u8 0, .int .u8 0, .int .u8 0, .int .u8 0, .int .u8 0, .int .u8 0, .int .u8 0] rfl rfl HZ.out.1 HZ.out.2.1 HZ.out.2.2.1 ?_)
        try rw [Exit.noGoto_ret]
        refine bodyPost_ret (wh.ret_cell (p := 2) (u := 3) (ty := 24) (by kernel_rfl) _ _ _ w.heap.size _ _ _ (by rfl) HZ.out.2.2.2.1 Tryz.underlying24 rfl addr_info) rfl ?_
        exact ⟨.inr ⟨HNO.out, rfl⟩, KZ.out⟩
    · have HLQ := Lib.hid (Blk.range BQ.out)
      have HAC := Lib.hid ((HAT ⟨true, b6⟩ HWF.out.2 ((w4.setCells w2.heap.size 0 (adc ⟨true, b6⟩)))).out)
      have HSX := Lib.hid (show (Tryz.prog.info? 24).map (·.size) = some (adc ⟨true, b6⟩).length from by rw [adc_len HWF.out.2]; exact addr_info)
      have HCN := Lib.hid (show cand l = (⟨true, b6⟩, true) from by rw [HCD.out]; rfl)
      unfold av at HAC
      generalize hC : adc ⟨true, b6⟩ = C at *
      have HC := Lib.hid hC
      clear hC
      go_wp2_with (first
        | (refine wpList_store_mid rfl 24 _ _ rfl w2.heap.size 0 C.toArray rfl rfl HT.out.1 HT.out.2.1 HT.out.2.2 ?_)
        | (refine wpList_load_mid rfl 24 _ rfl w2.heap.size 0 rfl C _ HLQ.out Tryz.underlying24 rfl HSX.out ?_))
      have K4' : Hid (∀ S, Keeps S w ((w4.setCells w2.heap.size 0 C))) := Lib.hid K4.out
      clear K4
      refine HAC.out.mono ?_
      rintro e w5 ⟨hans, k5⟩
      have K5 : Hid (∀ S, Keeps S w w5) := Lib.hid (fun S => (K4'.out S).trans (k5 S))
      have BP5 := Lib.hid (Blk.keeps BP3.out (k5 (fun _ => False)) (fun z => z))
      have BQ5 := Lib.hid (Blk.keeps BQ.out (k5 (fun _ => False)) (fun z => z))
      have KP : ∀ w6, Keeps (· = w.heap.size) w5 w6 → ∀ S, Keeps S w w6 := fun w6 k6 S => by
        have kk := K5.out S
        exact ⟨Nat.le_trans kk.size k6.size, fun x hx hs => by rw [k6.block x (Nat.lt_of_lt_of_le hx kk.size) (by omega), kk.block x hx hs], kk.same.trans k6.same⟩
      have HKP := Lib.hid KP
      clear k5 HLQ HT BQ BP3 K4' HAC KP
      rcases hans with ⟨ho, rfl⟩ | ⟨ho, rfl⟩
      · by_cases ht : atext ⟨true, b6⟩ = l
        · have HY := Lib.hid (show IsText l ⟨true, b6⟩ from ⟨HWF.out.2, ho, ht⟩)
          have hts : str (atext ⟨true, b6⟩) = s := by rw [ht, HS.out]
          rw [hts]
          have ho2 := over_ad HWF.out.2 BP5.out rfl
          simp only [HC.out] at ho2
          have HO := Lib.hid ho2
          have KO := Lib.hid (HKP.out _ ho2.2.2.2.2)
          have HL5 := Lib.hid (Blk.range BQ5.out)
          clear ho ht hts ho2
          go_wp2_with (first
            | (refine wpList_load_mid rfl 24 _ rfl w2.heap.size 0 rfl C _ HL5.out Tryz.underlying24 rfl HSX.out ?_)
            | (refine wpList_store_mid rfl 24 _ _ rfl w.heap.size 0 C.toArray rfl rfl HO.out.1 HO.out.2.1 HO.out.2.2.1 ?_))
          try rw [Exit.noGoto_ret]
          refine bodyPost_ret (wh.ret_cell (p := 2) (u := 3) (ty := 24) (by kernel_rfl) _ _ _ w.heap.size _ _ _ (by rfl) HO.out.2.2.2.1 Tryz.underlying24 rfl HSX.out) rfl ?_
          exact ⟨.inl ⟨_, HY.out, by unfold av; rw [HC.out]; rfl⟩, KO.out⟩
        · have hne : ¬ (str (atext ⟨true, b6⟩)).toList = s.toList := by rw [HS.out]; exact str_ne (atext_lt HWF.out.2) HB.out ht
          have HNT := Lib.hid ht
          generalize str (atext ⟨true, b6⟩) = t at *
          have hnb : (t.toList == s.toList) = false := by rw [beq_eq_false_iff_ne]; exact hne
          clear ht ho hne
          have HNO : Hid (∀ a, ¬ IsText l a) := Lib.hid (fun a ha => by have e := ha.cand; rw [HCN.out] at e; injection e with e1 e2; exact HNT.out (by rw [e1]; exact ha.2.2))
          have hz := over_ad zeroA_wf BP5.out rfl
          rw [zeroA_cells] at hz
          have HZ := Lib.hid hz
          have KZ := Lib.hid (HKP.out _ hz.2.2.2.2)
          clear hz
          go_wp2_with (refine wpList_store_mid rfl 24 _ _ rfl w.heap.size 0 #[.bool false, .int .u8 0, .int .u8 0, .int .u8 0, .int .u8 0, .int .u8 0, .int .u8 0, .int .u8 0, .int .u8 0, .int .u8 0, .int .u8 0, .int .u8 0, .int .u8 0, .int .u8 0, .int .u8 0, .int .u8 0, .int .u8 0] rfl rfl HZ.out.1 HZ.out.2.1 HZ.out.2.2.1 ?_)
          try rw [Exit.noGoto_ret]
          refine bodyPost_ret (wh.ret_cell (p := 2) (u := 3) (ty := 24) (by kernel_rfl) _ _ _ w.heap.size _ _ _ (by rfl) HZ.out.2.2.2.1 Tryz.underlying24 rfl addr_info) rfl ?_
          exact ⟨.inr ⟨HNO.out, rfl⟩, KZ.out⟩
      · have HNK := Lib.hid ho
        clear ho
        have HNO : Hid (∀ a, ¬ IsText l a) := Lib.hid (fun a ha => by have e := ha.cand; rw [HCN.out] at e; injection e with e1 e2; exact HNK.out (by rw [e1]; exact ha.2.1))
        have hz := over_ad zeroA_wf BP5.out rfl
        rw [zeroA_cells] at hz
        have HZ := Lib.hid hz
        have KZ := Lib.hid (HKP.out _ hz.2.2.2.2)
        clear hz
        go_wp2_with (refine wpList_store_mid rfl 24 _ _ rfl w.heap.size 0 #[.bool false, .int .u8 0, .int .u8 0, .int .u8 0, .int .u8 0, .int .u8 0, .int .u8 0, .int .u8 0, .int .u8 0, .int .u8 0, .int .u8 0, .int .u8 0, .int .u8 0, .int .u8 0, .int .u8 0, .int .u8 0, .int .u8 0] rfl rfl HZ.out.1 HZ.out.2.1 HZ.out.2.2.1 ?_)
        try rw [Exit.noGoto_ret]
        refine bodyPost_ret (wh.ret_cell (p := 2) (u := 3) (ty := 24) (by kernel_rfl) _ _ _ w.heap.size _ _ _ (by rfl) HZ.out.2.2.2.1 Tryz.underlying24 rfl addr_info) rfl ?_
        exact ⟨.inr ⟨HNO.out, rfl⟩, KZ.out⟩
  · have HLQ := Lib.hid (Blk.range BQ.out)
    have HAC := Lib.hid ((HAT ⟨false, b4⟩ HWF.out.1 ((w2.alloc (.cells #[.bool false, .int .u8 0, .int .u8 0, .int .u8 0, .int .u8 0, .int .u8 0, .int .u8 0, .int .u8 0, .int .u8 0, .int .u8 0, .int .u8 0, .int .u8 0, .int .u8 0, .int .u8 0, .int .u8 0, .int .u8 0, .int .u8 0] 24)).setCells w2.heap.size 0 (adc ⟨false, b4⟩))).out)
    have HSX := Lib.hid (show (Tryz.prog.info? 24).map (·.size) = some (adc ⟨false, b4⟩).length from by rw [adc_len HWF.out.1]; exact addr_info)
    have HCN := Lib.hid (show cand l = (⟨false, b4⟩, true) from by rw [HCD.out]; rfl)
    unfold av at HAC
    generalize hC : adc ⟨false, b4⟩ = C at *
    have HC := Lib.hid hC
    clear hC
    go_wp2_with (first
      | (refine wpList_store_mid rfl 24 _ _ rfl w2.heap.size 0 C.toArray rfl rfl HT.out.1 HT.out.2.1 HT.out.2.2 ?_)
      | (refine wpList_load_mid rfl 24 _ rfl w2.heap.size 0 rfl C _ HLQ.out Tryz.underlying24 rfl HSX.out ?_))
    have K4' : Hid (∀ S, Keeps S w ((w2.alloc (.cells #[.bool false, .int .u8 0, .int .u8 0, .int .u8 0, .int .u8 0, .int .u8 0, .int .u8 0, .int .u8 0, .int .u8 0, .int .u8 0, .int .u8 0, .int .u8 0, .int .u8 0, .int .u8 0, .int .u8 0, .int .u8 0, .int .u8 0] 24)).setCells w2.heap.size 0 C)) := Lib.hid K4.out
    clear K4
    refine HAC.out.mono ?_
    rintro e w5 ⟨hans, k5⟩
    have K5 : Hid (∀ S, Keeps S w w5) := Lib.hid (fun S => (K4'.out S).trans (k5 S))
    have BP5 := Lib.hid (Blk.keeps BP3.out (k5 (fun _ => False)) (fun z => z))
    have BQ5 := Lib.hid (Blk.keeps BQ.out (k5 (fun _ => False)) (fun z => z))
    have KP : ∀ w6, Keeps (· = w.heap.size) w5 w6 → ∀ S, Keeps S w w6 := fun w6 k6 S => by
      have kk := K5.out S
      exact ⟨Nat.le_trans kk.size k6.size, fun x hx hs => by rw [k6.block x (Nat.lt_of_lt_of_le hx kk.size) (by omega), kk.block x hx hs], kk.same.trans k6.same⟩
    have HKP := Lib.hid KP
    clear k5 HLQ HT BQ BP3 K4' HAC KP
    rcases hans with ⟨ho, rfl⟩ | ⟨ho, rfl⟩
    · by_cases ht : atext ⟨false, b4⟩ = l
      · have HY := Lib.hid (show IsText l ⟨false, b4⟩ from ⟨HWF.out.1, ho, ht⟩)
        have hts : str (atext ⟨false, b4⟩) = s := by rw [ht, HS.out]
        rw [hts]
        have ho2 := over_ad HWF.out.1 BP5.out rfl
        simp only [HC.out] at ho2
        have HO := Lib.hid ho2
        have KO := Lib.hid (HKP.out _ ho2.2.2.2.2)
        have HL5 := Lib.hid (Blk.range BQ5.out)
        clear ho ht hts ho2
        go_wp2_with (first
          | (refine wpList_load_mid rfl 24 _ rfl w2.heap.size 0 rfl C _ HL5.out Tryz.underlying24 rfl HSX.out ?_)
          | (refine wpList_store_mid rfl 24 _ _ rfl w.heap.size 0 C.toArray rfl rfl HO.out.1 HO.out.2.1 HO.out.2.2.1 ?_))
        try rw [Exit.noGoto_ret]
        refine bodyPost_ret (wh.ret_cell (p := 2) (u := 3) (ty := 24) (by kernel_rfl) _ _ _ w.heap.size _ _ _ (by rfl) HO.out.2.2.2.1 Tryz.underlying24 rfl HSX.out) rfl ?_
        exact ⟨.inl ⟨_, HY.out, by unfold av; rw [HC.out]; rfl⟩, KO.out⟩
      · have hne : ¬ (str (atext ⟨false, b4⟩)).toList = s.toList := by rw [HS.out]; exact str_ne (atext_lt HWF.out.1) HB.out ht
        have HNT := Lib.hid ht
        generalize str (atext ⟨false, b4⟩) = t at *
        have hnb : (t.toList == s.toList) = false := by rw [beq_eq_false_iff_ne]; exact hne
        clear ht ho hne
        have HNO : Hid (∀ a, ¬ IsText l a) := Lib.hid (fun a ha => by have e := ha.cand; rw [HCN.out] at e; injection e with e1 e2; exact HNT.out (by rw [e1]; exact ha.2.2))
        have hz := over_ad zeroA_wf BP5.out rfl
        rw [zeroA_cells] at hz
        have HZ := Lib.hid hz
        have KZ := Lib.hid (HKP.out _ hz.2.2.2.2)
        clear hz
        go_wp2_with (refine wpList_store_mid rfl 24 _ _ rfl w.heap.size 0 #[.bool false, .int .u8 0, .int .u8 0, .int .u8 0, .int .u8 0, .int .u8 0, .int .u8 0, .int .u8 0, .int .u8 0, .int .u8 0, .int .u8 0, .int .u8 0, .int .u8 0, .int .u8 0, .int .u8 0, .int .u8 0, .int .u8 0] rfl rfl HZ.out.1 HZ.out.2.1 HZ.out.2.2.1 ?_)
        try rw [Exit.noGoto_ret]
        refine bodyPost_ret (wh.ret_cell (p := 2) (u := 3) (ty := 24) (by kernel_rfl) _ _ _ w.heap.size _ _ _ (by rfl) HZ.out.2.2.2.1 Tryz.underlying24 rfl addr_info) rfl ?_
        exact ⟨.inr ⟨HNO.out, rfl⟩, KZ.out⟩
    · have HNK := Lib.hid ho
      clear ho
      have HNO : Hid (∀ a, ¬ IsText l a) := Lib.hid (fun a ha => by have e := ha.cand; rw [HCN.out] at e; injection e with e1 e2; exact HNK.out (by rw [e1]; exact ha.2.1))
      have hz := over_ad zeroA_wf BP5.out rfl
      rw [zeroA_cells] at hz
      have HZ := Lib.hid hz
      have KZ := Lib.hid (HKP.out _ hz.2.2.2.2)
      clear hz
      go_wp2_with (refine wpList_store_mid rfl 24 _ _ rfl w.heap.size 0 #[.bool false, .int .u8 0, .int .u8 0, .int .u8 0, .int .u8 0, .int .u8 0, .int .u8 0, .int .u8 0, .int .u8 0, .int .u8 0, .int .u8 0, .int .u8 0, .int .u8 0, .int .u8 0, .int .u8 0, .int .u8 0, .int .u8 0] rfl rfl HZ.out.1 HZ.out.2.1 HZ.out.2.2.1 ?_)
      try rw [Exit.noGoto_ret]
      refine bodyPost_ret (wh.ret_cell (p := 2) (u := 3) (ty := 24) (by kernel_rfl) _ _ _ w.heap.size _ _ _ (by rfl) HZ.out.2.2.2.1 Tryz.underlying24 rfl addr_info) rfl ?_
      exact ⟨.inr ⟨HNO.out, rfl⟩, KZ.out⟩
end
end Go.Proofs.YtgcdhfpbmcfedaaGreatDoor.pf
end
section
set_option linter.unusedVariables false
set_option linter.unusedSimpArgs false
namespace Go.Proofs.YtgcdhfpbmcfedaaGreatDoor.pf
open Go.RowKit Go.Proofs.YtgcdhfpbmcfedaaGreatDoor.oc Go.Proofs.YtgcdhfpbmcfedaaGreatDoor.mz Go.Proofs.YtgcdhfpbmcfedaaGreatDoor.wh
/-- the text of a prefix -/
def ptext (p : Px) : List Nat := atext p.a ++ 47 :: dec p.bits.toNat
section
variable (p : Px) (w : World)
set_option maxRecDepth 100000 in
set_option maxHeartbeats 4000000 in
theorem text_no (hp : p.a.Wf) (ho : ¬ okP p) : Calls Tryz.prog 30 #[pv p] w fun e w' => e = .returned (.tuple #[.string (str []), .int .i64 151]) ∧ ∀ S, Keeps S w w' := by
  have b0 := Blk.new w 28 (pxc p).toArray
  have HLD := Lib.hid (Blk.range b0)
  have HSX := Lib.hid (show (Tryz.prog.info? 28).map (·.size) = some (pxc p).length from by rw [pxc_len hp]; exact prefix_info)
  have hc := fun w => check_ w p hp
  rw [errP_no ho] at hc
  have HC := Lib.hid (hc (w.alloc (.cells (pxc p).toArray 28)))
  have HE : Hid ((⟨#[]⟩ : ByteArray) = str []) := Lib.hid rfl
  unfold pv at HC ⊢
  clear b0 hp ho hc
  generalize pxc p = C at *
  go_enter Tryz.func30, Tryz.ntmps30
  go_wp2_with (refine wpList_load_mid rfl 28 _ rfl w.heap.size 0 rfl C _ HLD.out Tryz.underlying28 rfl HSX.out ?_)
  refine HC.out.mono ?_
  rintro e w1 ⟨rfl, k1⟩
  have K1 : Hid (∀ S, Keeps S w w1) := Lib.hid (fun S => ((Keeps.refl S w).alloc _).trans (k1 S))
  clear k1
  go_wp2
  try rw [Exit.noGoto_ret]
  go_ret2
  exact ⟨rfl, K1.out⟩
set_option maxRecDepth 100000 in
set_option maxHeartbeats 4000000 in
theorem text_ok (hp : p.a.Wf) (ho : okP p) : Calls Tryz.prog 30 #[pv p] w fun e w' => e = .returned (.tuple #[.string (str (ptext p)), .int .i64 0]) ∧ ∀ S, Keeps S w w' := by
  have b0 := Blk.new w 28 (pxc p).toArray
  have HLD := Lib.hid (Blk.range b0)
  have HSX := Lib.hid (show (Tryz.prog.info? 28).map (·.size) = some (pxc p).length from by rw [pxc_len hp]; exact prefix_info)
  have HSA := Lib.hid (show (Tryz.prog.info? 24).map (·.size) = some (adc p.a).length from by rw [adc_len hp]; exact addr_info)
  have hc := fun w => check_ w p hp
  rw [errP_ok ho] at hc
  have HC := Lib.hid (hc (w.alloc (.cells (pxc p).toArray 28)))
  have hat := fun w => addrtext_ p.a w hp
  have HAT := fun w => Lib.hid (show Calls Tryz.prog 28 #[av p.a] w fun e w' => e = .returned (.tuple #[.string (str (atext p.a)), .int .i64 0]) ∧ ∀ S, Keeps S w w' from (hat w).mono fun e w' h => ⟨by rcases h.1 with q | q; exact q.2; exact absurd ho.1 q.1, h.2⟩)
  obtain ⟨n, hn⟩ : ∃ n : Nat, p.bits = (n : Int) := ⟨p.bits.toNat, by have := ho.2.1; omega⟩
  have hn128 : n ≤ 128 := by have := ho.2.1; have := wid_le p.a; omega
  have hT : ptext p = atext p.a ++ [47] ++ dec n := by unfold ptext; rw [hn]; simp
  have HD := fun w => Lib.hid (dec_ n w (by omega))
  have hl1 := atext_len p.a
  have hl2 := dec_len n
  have HPB := Lib.hid (show ∀ w', Blk w' w.heap.size 28 (pxc p) → w'.rangeAt w.heap.size 0 (adc p.a) ∧ w'.cell? ⟨w.heap.size, 17, none⟩ = some (.int .i64 (n : Int)) from fun w' b => ⟨px_addr hp b, by rw [← hn]; exact px_bits hp b⟩)
  rw [hT]
  have HB0 : Hid (Blk (w.alloc (.cells (pxc p).toArray 28)) w.heap.size 28 (pxc p)) := Lib.hid b0
  unfold pv at HC ⊢
  unfold av at HAT
  clear b0 hp ho hc hat hn hT
  generalize pxc p = C at *
  generalize adc p.a = D at *
  generalize atext p.a = X at *
  generalize dec n = Y at *
  have z1 : ¬ 9223372036854775807 < (str X).size + 1 := by rw [str_size]; omega
  have z2 : ¬ 9223372036854775807 < (str X).size + 1 + (str Y).size := by rw [str_size, str_size]; omega
  clear hl1 hl2
  go_enter Tryz.func30, Tryz.ntmps30
  go_wp2_with (refine wpList_load_mid rfl 28 _ rfl w.heap.size 0 rfl C _ HLD.out Tryz.underlying28 rfl HSX.out ?_)
  refine HC.out.mono ?_
  rintro e w1 ⟨rfl, k1⟩
  have K1 : Hid (∀ S, Keeps S w w1) := Lib.hid (fun S => ((Keeps.refl S w).alloc _).trans (k1 S))
  have B1 := Lib.hid (Blk.keeps HB0.out (k1 (fun _ => False)) (fun z => z))
  have HL1 := Lib.hid (HPB.out w1 B1.out).1
  clear k1 HC HLD
  go_wp2_with (refine wpList_load_mid rfl 24 _ rfl w.heap.size 0 rfl D _ HL1.out Tryz.underlying24 rfl HSA.out ?_)
  refine (HAT w1).out.mono ?_
  rintro e w2 ⟨rfl, k2⟩
  have K2 : Hid (∀ S, Keeps S w w2) := Lib.hid (fun S => (K1.out S).trans (k2 S))
  have x17 := (HPB.out w2 (Blk.keeps B1.out (k2 (fun _ => False)) (fun z => z))).2
  clear k2 HL1
  go_wp2_with fail
  refine (HD w2).out.mono ?_
  rintro e w3 ⟨rfl, d, rfl⟩
  go_wp2
  try rw [Exit.noGoto_ret]
  go_ret2
  exact ⟨by simp only [← str_append]; rfl, fun S => (K2.out S).trans (Keeps.of_drew _ _)⟩
end
end Go.Proofs.YtgcdhfpbmcfedaaGreatDoor.pf
end
section
set_option linter.unusedVariables false
set_option linter.unusedSimpArgs false
namespace Go.Proofs.YtgcdhfpbmcfedaaGreatDoor.pf
open Go.RowKit Go.Proofs.YtgcdhfpbmcfedaaGreatDoor.oc Go.Proofs.YtgcdhfpbmcfedaaGreatDoor.mz
theorem dec_slash (n : Nat) (h : n < 256) : ∀ x ∈ dec n, x ≠ 47 := fun x hx => by
  rcases dec_form n h with ⟨_, e⟩ | ⟨_, _, e⟩ | ⟨_, e⟩ <;> rw [e] at hx <;> simp at hx <;> omega
theorem sign_slash {d : Nat} : sign d ≠ 47 := by unfold sign; split <;> omega
theorem hx_slash (n : Nat) (h : n < 65536) : ∀ x ∈ hx n, x ≠ 47 := fun x hx => by
  rcases hx_form n h with ⟨_, e⟩ | ⟨_, _, e⟩ | ⟨_, _, e⟩ | ⟨_, e⟩ <;> rw [e] at hx <;> simp at hx
  · subst hx; exact sign_slash
  · rcases hx with hx | hx <;> subst hx <;> exact sign_slash
  · rcases hx with hx | hx | hx <;> subst hx <;> exact sign_slash
  · rcases hx with hx | hx | hx | hx <;> subst hx <;> exact sign_slash
theorem jn_slash : ∀ (ns : List Nat), (∀ x ∈ ns, x < 65536) → ∀ x ∈ jn ns, x ≠ 47
  | [], _ => by intro x hx; simp [jn] at hx
  | n :: r, h => by
    intro x hx
    rw [jn_cons] at hx
    rcases List.mem_append.1 hx with z | z
    · exact hx_slash n (h n (by simp)) x z
    · split at z
      · simp at z
      · rcases List.mem_cons.1 z with y | y
        · omega
        · exact jn_slash r (fun y hy => h y (List.mem_cons_of_mem _ hy)) x y
theorem atext_slash {a : Ad} (h : a.Wf) : ∀ x ∈ atext a, x ≠ 47 := by
  have b := byt_lt h
  unfold atext
  split
  · have hl := num_lt h
    rcases t6_form (num a) with ⟨p, n, _, _, _, e⟩ | e
    · rw [e]
      intro x hx
      rcases List.mem_append.1 hx with z | z
      · exact jn_slash _ (fst_mem hl _) x z
      · rcases List.mem_cons.1 z with y | y
        · omega
        · rcases List.mem_cons.1 y with y | y
          · omega
          · exact jn_slash _ (seg_mem hl _ _) x y
    · rw [e]; exact jn_slash _ (fst_mem hl _)
  · unfold t4
    intro x hx
    simp only [List.mem_append, List.mem_singleton] at hx
    rcases hx with (((((hx | hx) | hx) | hx) | hx) | hx) | hx
    · exact dec_slash _ (b 0) x hx
    · omega
    · exact dec_slash _ (b 1) x hx
    · omega
    · exact dec_slash _ (b 2) x hx
    · omega
    · exact dec_slash _ (b 3) x hx
theorem dec_inj {n m : Nat} (hn : n < 256) (hm : m < 256) (h : dec n = dec m) : n = m := by
  rcases dec_form n hn with ⟨a1, e⟩ | ⟨a1, a2, e⟩ | ⟨a1, e⟩ <;> rcases dec_form m hm with ⟨b1, f⟩ | ⟨b1, b2, f⟩ | ⟨b1, f⟩ <;> rw [e, f] at h <;> simp at h <;> omega
/-- the last stroke ahead of i, or the text's end -/
def SL (l : List Nat) (i p : Nat) : Prop := (∃ j, j < i ∧ l[j]? = some 47 ∧ (∀ t, j < t → t < i → l[t]? ≠ some 47) ∧ p = j) ∨ ((∀ t, t < i → l[t]? ≠ some 47) ∧ p = l.length)
theorem SL.le {l : List Nat} {i p : Nat} (h : SL l i p) : p ≤ l.length := by
  rcases h with ⟨j, _, h2, _, rfl⟩ | ⟨_, rfl⟩
  · have := (List.getElem?_eq_some_iff.1 h2).1; omega
  · omega
theorem SL.yes {l : List Nat} {i p : Nat} (h : SL l i p) (hi : l[i]? = some 47) : SL l (i + 1) i := .inl ⟨i, by omega, hi, fun t h1 h2 => by omega, rfl⟩
theorem SL.no {l : List Nat} {i p : Nat} (h : SL l i p) (hi : l[i]? ≠ some 47) : SL l (i + 1) p := by
  rcases h with ⟨j, h1, h2, h3, h4⟩ | ⟨h1, h2⟩
  · refine .inl ⟨j, by omega, h2, fun t a b => ?_, h4⟩
    by_cases e : t = i
    · rw [e]; exact hi
    · exact h3 t a (by omega)
  · refine .inr ⟨fun t a => ?_, h2⟩
    by_cases e : t = i
    · rw [e]; exact hi
    · exact h1 t (by omega)
theorem SL.at_ {X D : List Nat} {p : Nat} (hX : ∀ x ∈ X, x ≠ 47) (hD : ∀ x ∈ D, x ≠ 47) (h : SL (X ++ 47 :: D) (X ++ 47 :: D).length p) : p = X.length := by
  have at47 : (X ++ 47 :: D)[X.length]? = some 47 := by simp
  have hl : X.length < (X ++ 47 :: D).length := by simp
  rcases h with ⟨j, h1, h2, h3, rfl⟩ | ⟨h1, _⟩
  · rcases Nat.lt_trichotomy p X.length with c | c | c
    · exact absurd at47 (h3 _ c hl)
    · exact c
    · rw [List.getElem?_append_right (by omega)] at h2
      obtain ⟨d, hd⟩ : ∃ d, p - X.length = d + 1 := ⟨p - X.length - 1, by omega⟩
      rw [hd, List.getElem?_cons_succ] at h2
      exact absurd rfl (hD 47 (List.mem_of_getElem? h2))
  · exact absurd at47 (h1 _ hl)
/-- l is the text of p -/
def IsPText (l : List Nat) (p : Px) : Prop := p.a.Wf ∧ okP p ∧ ptext p = l
theorem okP_nat {p : Px} (h : okP p) : ∃ n : Nat, p.bits = (n : Int) ∧ p.bits.toNat = n ∧ n ≤ wid p.a ∧ n < 256 := by
  have := h.2.1
  have := wid_le p.a
  exact ⟨p.bits.toNat, by omega, rfl, by omega, by omega⟩
theorem IsPText.at_ {l : List Nat} {p : Px} {q : Nat} (h : IsPText l p) (hs : SL l l.length q) : q = (atext p.a).length ∧ IsText (l.take q) p.a := by
  obtain ⟨h1, h2, h3⟩ := h
  obtain ⟨n, e1, e2, e3, e4⟩ := okP_nat h2
  unfold ptext at h3
  rw [← h3] at hs
  have hq := hs.at_ (atext_slash h1) (by rw [e2]; exact dec_slash n e4)
  refine ⟨hq, h1, h2.1, ?_⟩
  rw [← h3, hq, List.take_left]
theorem IsPText.uniq {l : List Nat} {p q : Px} (h : IsPText l p) (k : IsPText l q) (ha : p.a = q.a) : p = q := by
  obtain ⟨h1, h2, h3⟩ := h
  obtain ⟨k1, k2, k3⟩ := k
  obtain ⟨n, e1, e2, e3, e4⟩ := okP_nat h2
  obtain ⟨m, f1, f2, f3, f4⟩ := okP_nat k2
  unfold ptext at h3 k3
  rw [← k3, ha, e2, f2] at h3
  have := List.append_cancel_left h3
  injection this with _ hd
  have := dec_inj e4 f4 hd
  cases p; cases q
  simp only at ha e1 f1
  subst ha
  rw [e1, f1, this]
/-- what Read answers -/
def RdP (l : List Nat) (e : Ending) : Prop := (∃ p, IsPText l p ∧ e = .returned (.tuple #[pv p, .int .i64 0])) ∨ ((∀ p, ¬ IsPText l p) ∧ e = .returned (.tuple #[pv zeroP, .int .i64 151]))
theorem ptext_lt {p : Px} (h : p.a.Wf) (ho : okP p) : ∀ x ∈ ptext p, x < 256 := by
  obtain ⟨n, e1, e2, e3, e4⟩ := okP_nat ho
  unfold ptext
  intro x hx
  rcases List.mem_append.1 hx with z | z
  · exact atext_lt h x z
  · rcases List.mem_cons.1 z with y | y
    · omega
    · rw [e2] at y; exact dec_lt n e4 x y
end Go.Proofs.YtgcdhfpbmcfedaaGreatDoor.pf
end
section
set_option linter.unusedVariables false
set_option linter.unusedSimpArgs false
namespace Go.Proofs.YtgcdhfpbmcfedaaGreatDoor.pf
open Go.RowKit Go.Proofs.YtgcdhfpbmcfedaaGreatDoor.oc Go.Proofs.YtgcdhfpbmcfedaaGreatDoor.mz Go.Proofs.YtgcdhfpbmcfedaaGreatDoor.wh
theorem new_zp (w : World) : ∃ w1, w1 = w.alloc (.cells #[.bool false, .int .u8 0, .int .u8 0, .int .u8 0, .int .u8 0, .int .u8 0, .int .u8 0, .int .u8 0, .int .u8 0, .int .u8 0, .int .u8 0, .int .u8 0, .int .u8 0, .int .u8 0, .int .u8 0, .int .u8 0, .int .u8 0, .int .i64 0] 28) ∧ Blk w1 w.heap.size 28 (pxc zeroP) ∧ ∀ S, Keeps S w w1 := ⟨_, rfl, Blk.new w _ _, fun S => (Keeps.refl S w).alloc _⟩
/-- the whole block's value written over it -/
theorem over_px {w : World} {Q : Nat} {cs : List Value} {c : Px} (hc : c.a.Wf) (h : Blk w Q 28 cs) (hl : cs.length = 18) : w.there Q 0 (pxc c).toArray.size ∧ (Tryz.prog.info? 28).map (·.size) = some (pxc c).toArray.size ∧ (pxc c).toArray.all (·.oneCell') = true ∧ Blk (w.setCells Q 0 (pxc c)) Q 28 (pxc c) ∧ Keeps (· = Q) w (w.setCells Q 0 (pxc c)) := by
  obtain ⟨t0, b9, k9⟩ := over_all (vs := pxc c) h (by rw [pxc_len hc, hl])
  exact ⟨t0, by rw [List.size_toArray, pxc_len hc]; exact prefix_info, all_oneCell_toArray (px_one c), b9, k9⟩
theorem zeroP_wf : zeroP.a.Wf := zeroA_wf
theorem text_ (p : Px) (w : World) (hp : p.a.Wf) : Calls Tryz.prog 30 #[pv p] w fun e w' => ((okP p ∧ e = .returned (.tuple #[.string (str (ptext p)), .int .i64 0])) ∨ (¬ okP p ∧ e = .returned (.tuple #[.string (str []), .int .i64 151]))) ∧ ∀ S, Keeps S w w' := by
  by_cases ho : okP p
  · exact (text_ok p w hp ho).mono fun e w' h => ⟨.inl ⟨ho, h.1⟩, h.2⟩
  · exact (text_no p w hp ho).mono fun e w' h => ⟨.inr ⟨ho, h.1⟩, h.2⟩
section
variable (w : World)
set_option maxRecDepth 100000 in
set_option maxHeartbeats 4000000 in
theorem read_ (l : List Nat) (hb : ∀ x ∈ l, x < 256) (hl : l.length < 140737488355328) : Calls Tryz.prog 35 #[.string (str l)] w fun e w' => RdP l e ∧ ∀ S, Keeps S w w' := by
  obtain ⟨w1, hw1, B1, K1⟩ := new_zp w
  obtain ⟨m, hm⟩ : ∃ m, m = l.length := ⟨_, rfl⟩
  obtain ⟨s, hs⟩ : ∃ s, s = str l := ⟨_, rfl⟩
  have hsz : (s.size : Int) = (m : Int) := by rw [hs, str_size, hm]
  have HS := Lib.hid (show (∀ x ∈ l, x < 256) ∧ m = l.length ∧ s = str l ∧ m < 140737488355328 from ⟨hb, hm, hs, by omega⟩)
  have HRA := fun q w => Lib.hid (readaddr_ w (l.take q) (fun x hx => hb x (List.mem_of_mem_take hx)) (by simp; omega))
  have hm9 : m < 140737488355328 := by omega
  rw [← hs]
  have HW := Lib.hid hw1
  have BP1 := Lib.hid B1
  have KK1 : Hid (∀ S, Keeps S w w1) := Lib.hid K1
  have HSL := Lib.hid (show SL l 0 m from .inr ⟨fun t h => by omega, hm⟩)
  clear hb hl hs hm hw1 B1 K1
  go_enter Tryz.func35, Tryz.ntmps35
  go_wp2_with fail
  rw [← HW.out]
  go_loopw [4, 5] (fun pv iv wr => w1 = wr ∧ ∃ i p : Nat, i ≤ m ∧ iv = .int .i64 (i : Int) ∧ pv = .int .i64 (p : Int) ∧ SL l i p) (fun _ i _ => m - (intOf i).toNat)
  case atStart => exact ⟨rfl, 0, m, by omega, rfl, rfl, HSL.out⟩
  case round =>
    clear HSL HW
    obtain ⟨rfl, i, p, hi, rfl, rfl, hp⟩ := hrel
    have HP := Lib.hid hp
    have h0 : (0 : Int) ≤ (i : Int) := by omega
    clear hp
    by_cases hlt : i < m
    · have hlt' : (i : Int) < (m : Int) := by omega
      have hsn : i < s.size := by omega
      obtain ⟨c, hc⟩ : ∃ c, l[i]? = some c := ⟨_, List.getElem?_eq_getElem (by have := HS.out.2.1; omega)⟩
      have hc256 := HS.out.1 c (List.mem_of_getElem? hc)
      have hch := fun h => str_get hc hc256 s HS.out.2.2.1 h
      have HLI := Lib.hid hlt
      by_cases h47 : c = 47
      · subst h47
        have NX := Lib.hid (HP.out.yes hc)
        clear hc hlt
        go_wp2_with fail
        go_roundw
        case rel => exact ⟨by first | trivial | rfl, i + 1, i, by have := HLI.out; omega, by first | rfl | (have := HLI.out; go_num), rfl, NX.out⟩
        case measure => simp [intOf] <;> (have := HLI.out; omega)
      · have h47' : ((c : Int) == 47) = false := by rw [beq_eq_false_iff_ne]; omega
        have NX := Lib.hid (HP.out.no (by rw [hc]; simp; exact h47))
        clear hc hlt
        go_wp2_with fail
        go_roundw
        case rel => exact ⟨by first | trivial | rfl, i + 1, p, by have := HLI.out; omega, by first | rfl | (have := HLI.out; go_num), rfl, NX.out⟩
        case measure => simp [intOf] <;> (have := HLI.out; omega)
    · have hlt' : ¬ (i : Int) < (m : Int) := by omega
      have hsl : SL l l.length p := by have := HP.out; rwa [show i = l.length from by have := HS.out.2.1; omega] at this
      have HSLL := Lib.hid hsl
      have hpm : p ≤ m := by have := hsl.le; have := HS.out.2.1; omega
      have hp0 : (0 : Int) ≤ (p : Int) := by omega
      have hp1 : (p : Int) ≤ (m : Int) := by omega
      have hst : str (l.take p) = s.extract 0 p := by rw [HS.out.2.2.1, str_extract]; simp
      have HR := Lib.hid ((HRA p w1).out)
      rw [hst] at HR
      clear hst hsl hlt
      go_wp2_with fail
      refine HR.out.mono ?_
      rintro e w2 ⟨hans, k2⟩
      have BP2 := Lib.hid (Blk.keeps BP1.out (k2 (fun _ => False)) (fun z => z))
      have K2 : Hid (∀ S, Keeps S w w2) := Lib.hid (fun S => (KK1.out S).trans (k2 S))
      clear k2 HR HRA
      obtain ⟨w3, hw3, B3, K3⟩ := new_zero w2
      rcases hans with ⟨a, hta, rfl⟩ | ⟨hno, rfl⟩
      · have HTA := Lib.hid hta
        obtain ⟨o1, o2, o3, o5, o6⟩ := over_ad hta.1 B3 rfl
        have BP3 := Lib.hid (Blk.keeps (Blk.keeps BP2.out (K3 (fun _ => False)) (fun z => z)) o6 (by have := BP2.out.lt; omega))
        have K4 : Hid (∀ S, Keeps S w (w3.setCells w2.heap.size 0 (adc a))) := Lib.hid (fun S => by
          have kk := (K2.out S).trans (K3 S)
          have := (K2.out S).size
          exact ⟨Nat.le_trans kk.size o6.size, fun x hx hs => by rw [o6.block x (Nat.lt_of_lt_of_le hx kk.size) (by omega), kk.block x hx hs], kk.same.trans o6.same⟩)
        have HT := Lib.hid (And.intro o1 (And.intro o2 o3))
        have BQ := Lib.hid o5
        have HPQ := Lib.hid (show w.heap.size < w2.heap.size from BP2.out.lt)
        unfold av
        subst hw3
        clear o1 o2 o3 o5 o6 B3 K3 hta
        generalize hC : adc a = C at *
        have HCC := Lib.hid hC
        clear hC
        go_wp2_with (refine wpList_store_mid rfl 24 _ _ rfl w2.heap.size 0 C.toArray rfl rfl HT.out.1 HT.out.2.1 HT.out.2.2 ?_)
        obtain ⟨v, Bl⟩ := a
        obtain ⟨q0, q1, q2, q3, q4, q5, q6, q7, q8, q9, q10, q11, q12, q13, q14, q15, hq⟩ := sixteen HTA.out.1.len
        simp only at hq
        subst hq
        obtain rfl : C = [.bool v, .int .u8 (q0 : Int), .int .u8 (q1 : Int), .int .u8 (q2 : Int), .int .u8 (q3 : Int), .int .u8 (q4 : Int), .int .u8 (q5 : Int), .int .u8 (q6 : Int), .int .u8 (q7 : Int), .int .u8 (q8 : Int), .int .u8 (q9 : Int), .int .u8 (q10 : Int), .int .u8 (q11 : Int), .int .u8 (q12 : Int), .int .u8 (q13 : Int), .int .u8 (q14 : Int), .int .u8 (q15 : Int)] := HCC.out.symm
        have hwz := wid_le ⟨v, [q0, q1, q2, q3, q4, q5, q6, q7, q8, q9, q10, q11, q12, q13, q14, q15]⟩
        have HAV := Lib.hid (show ∀ (q : Px), IsPText l q → q.a = ⟨v, [q0, q1, q2, q3, q4, q5, q6, q7, q8, q9, q10, q11, q12, q13, q14, q15]⟩ from fun q hq => (hq.at_ HSLL.out).2.uniq HTA.out)
        have HWD := fun w => Lib.hid (width_ ⟨v, [q0, q1, q2, q3, q4, q5, q6, q7, q8, q9, q10, q11, q12, q13, q14, q15]⟩ w)
        have HTX := fun k w => Lib.hid (text_ ⟨⟨v, [q0, q1, q2, q3, q4, q5, q6, q7, q8, q9, q10, q11, q12, q13, q14, q15]⟩, k⟩ w HTA.out.1)
        have HSA := Lib.hid (show (Tryz.prog.info? 24).map (·.size) = some ([.bool v, .int .u8 (q0 : Int), .int .u8 (q1 : Int), .int .u8 (q2 : Int), .int .u8 (q3 : Int), .int .u8 (q4 : Int), .int .u8 (q5 : Int), .int .u8 (q6 : Int), .int .u8 (q7 : Int), .int .u8 (q8 : Int), .int .u8 (q9 : Int), .int .u8 (q10 : Int), .int .u8 (q11 : Int), .int .u8 (q12 : Int), .int .u8 (q13 : Int), .int .u8 (q14 : Int), .int .u8 (q15 : Int)] : List Value).length from addr_info)
        obtain ⟨W, hW⟩ : ∃ W, W = wid ⟨v, [q0, q1, q2, q3, q4, q5, q6, q7, q8, q9, q10, q11, q12, q13, q14, q15]⟩ := ⟨_, rfl⟩
        rw [← hW] at HWD hwz
        have HWW := Lib.hid hW
        unfold av at HWD
        rw [show adc ⟨v, [q0, q1, q2, q3, q4, q5, q6, q7, q8, q9, q10, q11, q12, q13, q14, q15]⟩ = [.bool v, .int .u8 (q0 : Int), .int .u8 (q1 : Int), .int .u8 (q2 : Int), .int .u8 (q3 : Int), .int .u8 (q4 : Int), .int .u8 (q5 : Int), .int .u8 (q6 : Int), .int .u8 (q7 : Int), .int .u8 (q8 : Int), .int .u8 (q9 : Int), .int .u8 (q10 : Int), .int .u8 (q11 : Int), .int .u8 (q12 : Int), .int .u8 (q13 : Int), .int .u8 (q14 : Int), .int .u8 (q15 : Int)] from rfl] at HWD
        clear hW HCC
        have HBEG := Lib.hid (And.intro BQ.out (And.intro BP3.out K4.out))
        clear HT BQ BP3 K4
        go_loopw [8] (fun kv wr => ∃ k : Nat, k ≤ W + 1 ∧ kv = .int .i64 (k : Int) ∧ (Blk wr w2.heap.size 24 [.bool v, .int .u8 (q0 : Int), .int .u8 (q1 : Int), .int .u8 (q2 : Int), .int .u8 (q3 : Int), .int .u8 (q4 : Int), .int .u8 (q5 : Int), .int .u8 (q6 : Int), .int .u8 (q7 : Int), .int .u8 (q8 : Int), .int .u8 (q9 : Int), .int .u8 (q10 : Int), .int .u8 (q11 : Int), .int .u8 (q12 : Int), .int .u8 (q13 : Int), .int .u8 (q14 : Int), .int .u8 (q15 : Int)] ∧ Blk wr w.heap.size 28 (pxc zeroP) ∧ ∀ S, Keeps S w wr) ∧ ∀ b : Nat, b < k → ¬ IsPText l ⟨⟨v, [q0, q1, q2, q3, q4, q5, q6, q7, q8, q9, q10, q11, q12, q13, q14, q15]⟩, (b : Int)⟩) (fun kv _ => W + 1 - (intOf kv).toNat)
        case atStart => exact ⟨0, by omega, rfl, HBEG.out, fun b hb => by omega⟩
        case round =>
          clear HBEG
          obtain ⟨k, hk, rfl, hbb, hnot⟩ := hrel
          have HBB := Lib.hid hbb
          have HNOT := Lib.hid hnot
          have HLQ := Lib.hid (Blk.range hbb.1)
          have k0 : (0 : Int) ≤ (k : Int) := by omega
          clear hbb hnot
          go_wp2_with (refine wpList_load_mid rfl 24 _ rfl w2.heap.size 0 rfl [.bool v, .int .u8 (q0 : Int), .int .u8 (q1 : Int), .int .u8 (q2 : Int), .int .u8 (q3 : Int), .int .u8 (q4 : Int), .int .u8 (q5 : Int), .int .u8 (q6 : Int), .int .u8 (q7 : Int), .int .u8 (q8 : Int), .int .u8 (q9 : Int), .int .u8 (q10 : Int), .int .u8 (q11 : Int), .int .u8 (q12 : Int), .int .u8 (q13 : Int), .int .u8 (q14 : Int), .int .u8 (q15 : Int)] _ HLQ.out Tryz.underlying24 rfl HSA.out ?_)
          refine (HWD _).out.mono ?_
          rintro e w5 ⟨rfl, k5⟩
          have BQ5 := Lib.hid (Blk.keeps HBB.out.1 (k5 (fun _ => False)) (fun z => z))
          have BP5 := Lib.hid (Blk.keeps HBB.out.2.1 (k5 (fun _ => False)) (fun z => z))
          have K5 : Hid (∀ S, Keeps S w w5) := Lib.hid (fun S => (HBB.out.2.2 S).trans (k5 S))
          have HL5 := Lib.hid (Blk.range BQ5.out)
          clear k5 HLQ HBB
          by_cases hlt : k ≤ W
          · have hlt' : (k : Int) ≤ (W : Int) := by omega
            have HLP := Lib.hid (Blk.range (Blk.new w5 28 #[.bool v, .int .u8 (q0 : Int), .int .u8 (q1 : Int), .int .u8 (q2 : Int), .int .u8 (q3 : Int), .int .u8 (q4 : Int), .int .u8 (q5 : Int), .int .u8 (q6 : Int), .int .u8 (q7 : Int), .int .u8 (q8 : Int), .int .u8 (q9 : Int), .int .u8 (q10 : Int), .int .u8 (q11 : Int), .int .u8 (q12 : Int), .int .u8 (q13 : Int), .int .u8 (q14 : Int), .int .u8 (q15 : Int), .int .i64 (k : Int)]))
            have HSP := Lib.hid (show (Tryz.prog.info? 28).map (·.size) = some ([.bool v, .int .u8 (q0 : Int), .int .u8 (q1 : Int), .int .u8 (q2 : Int), .int .u8 (q3 : Int), .int .u8 (q4 : Int), .int .u8 (q5 : Int), .int .u8 (q6 : Int), .int .u8 (q7 : Int), .int .u8 (q8 : Int), .int .u8 (q9 : Int), .int .u8 (q10 : Int), .int .u8 (q11 : Int), .int .u8 (q12 : Int), .int .u8 (q13 : Int), .int .u8 (q14 : Int), .int .u8 (q15 : Int), .int .i64 (k : Int)] : List Value).length from prefix_info)
            have HTK := Lib.hid ((HTX (k : Int) (w5.alloc (.cells #[.bool v, .int .u8 (q0 : Int), .int .u8 (q1 : Int), .int .u8 (q2 : Int), .int .u8 (q3 : Int), .int .u8 (q4 : Int), .int .u8 (q5 : Int), .int .u8 (q6 : Int), .int .u8 (q7 : Int), .int .u8 (q8 : Int), .int .u8 (q9 : Int), .int .u8 (q10 : Int), .int .u8 (q11 : Int), .int .u8 (q12 : Int), .int .u8 (q13 : Int), .int .u8 (q14 : Int), .int .u8 (q15 : Int), .int .i64 (k : Int)] 28))).out)
            rw [show pv ⟨⟨v, [q0, q1, q2, q3, q4, q5, q6, q7, q8, q9, q10, q11, q12, q13, q14, q15]⟩, (k : Int)⟩ = .agg #[.bool v, .int .u8 (q0 : Int), .int .u8 (q1 : Int), .int .u8 (q2 : Int), .int .u8 (q3 : Int), .int .u8 (q4 : Int), .int .u8 (q5 : Int), .int .u8 (q6 : Int), .int .u8 (q7 : Int), .int .u8 (q8 : Int), .int .u8 (q9 : Int), .int .u8 (q10 : Int), .int .u8 (q11 : Int), .int .u8 (q12 : Int), .int .u8 (q13 : Int), .int .u8 (q14 : Int), .int .u8 (q15 : Int), .int .i64 (k : Int)] from rfl] at HTK
            go_wp2_with (first
              | ((with_reducible show wpList _ _ _ (⟨some 41, _, _, _, _, _⟩ :: _) _ _); refine wpList_load_mid rfl 24 _ rfl w2.heap.size 0 rfl [.bool v, .int .u8 (q0 : Int), .int .u8 (q1 : Int), .int .u8 (q2 : Int), .int .u8 (q3 : Int), .int .u8 (q4 : Int), .int .u8 (q5 : Int), .int .u8 (q6 : Int), .int .u8 (q7 : Int), .int .u8 (q8 : Int), .int .u8 (q9 : Int), .int .u8 (q10 : Int), .int .u8 (q11 : Int), .int .u8 (q12 : Int), .int .u8 (q13 : Int), .int .u8 (q14 : Int), .int .u8 (q15 : Int)] _ HL5.out Tryz.underlying24 rfl HSA.out ?_)
              | ((with_reducible show wpList _ _ _ (⟨some 45, _, _, _, _, _⟩ :: _) _ _); refine wpList_load_mid rfl 28 _ rfl w5.heap.size 0 rfl [.bool v, .int .u8 (q0 : Int), .int .u8 (q1 : Int), .int .u8 (q2 : Int), .int .u8 (q3 : Int), .int .u8 (q4 : Int), .int .u8 (q5 : Int), .int .u8 (q6 : Int), .int .u8 (q7 : Int), .int .u8 (q8 : Int), .int .u8 (q9 : Int), .int .u8 (q10 : Int), .int .u8 (q11 : Int), .int .u8 (q12 : Int), .int .u8 (q13 : Int), .int .u8 (q14 : Int), .int .u8 (q15 : Int), .int .i64 (k : Int)] _ HLP.out Tryz.underlying28 rfl HSP.out ?_))
            refine HTK.out.mono ?_
            rintro e w6 ⟨hans, k6⟩
            have BP6 := Lib.hid (Blk.keeps (Blk.keeps BP5.out ((Keeps.refl (fun _ => False) w5).alloc _) (fun z => z)) (k6 (fun _ => False)) (fun z => z))
            have BQ6 := Lib.hid (Blk.keeps (Blk.keeps BQ5.out ((Keeps.refl (fun _ => False) w5).alloc _) (fun z => z)) (k6 (fun _ => False)) (fun z => z))
            have BN6 := Lib.hid (Blk.keeps (Blk.new w5 28 #[.bool v, .int .u8 (q0 : Int), .int .u8 (q1 : Int), .int .u8 (q2 : Int), .int .u8 (q3 : Int), .int .u8 (q4 : Int), .int .u8 (q5 : Int), .int .u8 (q6 : Int), .int .u8 (q7 : Int), .int .u8 (q8 : Int), .int .u8 (q9 : Int), .int .u8 (q10 : Int), .int .u8 (q11 : Int), .int .u8 (q12 : Int), .int .u8 (q13 : Int), .int .u8 (q14 : Int), .int .u8 (q15 : Int), .int .i64 (k : Int)]) (k6 (fun _ => False)) (fun z => z))
            have K6 : Hid (∀ S, Keeps S w w6) := Lib.hid (fun S => ((K5.out S).alloc _).trans (k6 S))
            clear k6 HTK HLP HL5 K5 BP5 BQ5
            have HLT := Lib.hid hlt
            have next : ¬ IsPText l ⟨⟨v, [q0, q1, q2, q3, q4, q5, q6, q7, q8, q9, q10, q11, q12, q13, q14, q15]⟩, (k : Int)⟩ → ∀ b : Nat, b < k + 1 → ¬ IsPText l ⟨⟨v, [q0, q1, q2, q3, q4, q5, q6, q7, q8, q9, q10, q11, q12, q13, q14, q15]⟩, (b : Int)⟩ := fun h b hb => by
              by_cases e : b = k
              · rw [e]; exact h
              · exact HNOT.out b (by omega)
            have HNX := Lib.hid next
            clear next hlt
            rcases hans with ⟨ho, rfl⟩ | ⟨ho, rfl⟩
            · by_cases ht : ptext ⟨⟨v, [q0, q1, q2, q3, q4, q5, q6, q7, q8, q9, q10, q11, q12, q13, q14, q15]⟩, (k : Int)⟩ = l
              · have HY := Lib.hid (show IsPText l ⟨⟨v, [q0, q1, q2, q3, q4, q5, q6, q7, q8, q9, q10, q11, q12, q13, q14, q15]⟩, (k : Int)⟩ from ⟨HTA.out.1, ho, ht⟩)
                have hts : str (ptext ⟨⟨v, [q0, q1, q2, q3, q4, q5, q6, q7, q8, q9, q10, q11, q12, q13, q14, q15]⟩, (k : Int)⟩) = s := by rw [ht, HS.out.2.2.1]
                rw [hts]
                have hz := over_px (c := ⟨⟨v, [q0, q1, q2, q3, q4, q5, q6, q7, q8, q9, q10, q11, q12, q13, q14, q15]⟩, (k : Int)⟩) HTA.out.1 BP6.out rfl
                rw [show pxc ⟨⟨v, [q0, q1, q2, q3, q4, q5, q6, q7, q8, q9, q10, q11, q12, q13, q14, q15]⟩, (k : Int)⟩ = [.bool v, .int .u8 (q0 : Int), .int .u8 (q1 : Int), .int .u8 (q2 : Int), .int .u8 (q3 : Int), .int .u8 (q4 : Int), .int .u8 (q5 : Int), .int .u8 (q6 : Int), .int .u8 (q7 : Int), .int .u8 (q8 : Int), .int .u8 (q9 : Int), .int .u8 (q10 : Int), .int .u8 (q11 : Int), .int .u8 (q12 : Int), .int .u8 (q13 : Int), .int .u8 (q14 : Int), .int .u8 (q15 : Int), .int .i64 (k : Int)] from rfl] at hz
                have HZ := Lib.hid hz
                have KZ := Lib.hid (show ∀ S, Keeps S w _ from fun S => by
                  have kk := K6.out S
                  have k9 := hz.2.2.2.2
                  exact ⟨Nat.le_trans kk.size k9.size, fun x hx hs => by rw [k9.block x (Nat.lt_of_lt_of_le hx kk.size) (by omega), kk.block x hx hs], kk.same.trans k9.same⟩)
                have HL6 := Lib.hid (Blk.range BN6.out)
                clear hz ho ht hts
                go_wp2_with (first
                  | ((with_reducible show wpList _ _ _ (⟨some 56, _, _, _, _, _⟩ :: _) _ _); refine wpList_load_mid rfl 28 _ rfl w5.heap.size 0 rfl [.bool v, .int .u8 (q0 : Int), .int .u8 (q1 : Int), .int .u8 (q2 : Int), .int .u8 (q3 : Int), .int .u8 (q4 : Int), .int .u8 (q5 : Int), .int .u8 (q6 : Int), .int .u8 (q7 : Int), .int .u8 (q8 : Int), .int .u8 (q9 : Int), .int .u8 (q10 : Int), .int .u8 (q11 : Int), .int .u8 (q12 : Int), .int .u8 (q13 : Int), .int .u8 (q14 : Int), .int .u8 (q15 : Int), .int .i64 (k : Int)] _ HL6.out Tryz.underlying28 rfl HSP.out ?_)
                  | (refine wpList_store_mid rfl 28 _ _ rfl w.heap.size 0 #[.bool v, .int .u8 (q0 : Int), .int .u8 (q1 : Int), .int .u8 (q2 : Int), .int .u8 (q3 : Int), .int .u8 (q4 : Int), .int .u8 (q5 : Int), .int .u8 (q6 : Int), .int .u8 (q7 : Int), .int .u8 (q8 : Int), .int .u8 (q9 : Int), .int .u8 (q10 : Int), .int .u8 (q11 : Int), .int .u8 (q12 : Int), .int .u8 (q13 : Int), .int .u8 (q14 : Int), .int .u8 (q15 : Int), .int .i64 (k : Int)] rfl rfl HZ.out.1 HZ.out.2.1 HZ.out.2.2.1 ?_))
                try rw [Exit.noGoto_ret]
                refine bodyPost_ret (wh.ret_cell (p := 2) (u := 3) (ty := 28) (by kernel_rfl) _ _ _ w.heap.size _ _ _ (by rfl) HZ.out.2.2.2.1 Tryz.underlying28 rfl prefix_info) rfl ?_
                exact ⟨.inl ⟨_, HY.out, rfl⟩, KZ.out⟩
              · have hne : ¬ (str (ptext ⟨⟨v, [q0, q1, q2, q3, q4, q5, q6, q7, q8, q9, q10, q11, q12, q13, q14, q15]⟩, (k : Int)⟩)).toList = s.toList := by rw [HS.out.2.2.1]; exact str_ne (ptext_lt HTA.out.1 ho) HS.out.1 ht
                have HN2 := Lib.hid (HNX.out (fun h => ht h.2.2))
                generalize str (ptext ⟨⟨v, [q0, q1, q2, q3, q4, q5, q6, q7, q8, q9, q10, q11, q12, q13, q14, q15]⟩, (k : Int)⟩) = t at *
                have hnb : (t.toList == s.toList) = false := by rw [beq_eq_false_iff_ne]; exact hne
                clear ho ht hne
                go_wp2_with fail
                go_roundw
                case rel => exact ⟨k + 1, by have := HLT.out; omega, by first | rfl | go_num, ⟨BQ6.out, BP6.out, K6.out⟩, HN2.out⟩
                case measure => simp [intOf] <;> (have := HLT.out; omega)
            · have HN2 := Lib.hid (HNX.out (fun h => ho h.2.1))
              clear ho
              go_wp2_with fail
              go_roundw
              case rel => exact ⟨k + 1, by have := HLT.out; omega, by first | rfl | go_num, ⟨BQ6.out, BP6.out, K6.out⟩, HN2.out⟩
              case measure => simp [intOf] <;> (have := HLT.out; omega)
          · have hlt' : ¬ (k : Int) ≤ (W : Int) := by omega
            have HNO : Hid (∀ p, ¬ IsPText l p) := Lib.hid (fun q hq => by
              have e := HAV.out q hq
              obtain ⟨n, e1, e2, e3, e4⟩ := okP_nat hq.2.1
              rw [e, ← HWW.out] at e3
              have : q = ⟨⟨v, [q0, q1, q2, q3, q4, q5, q6, q7, q8, q9, q10, q11, q12, q13, q14, q15]⟩, (n : Int)⟩ := by cases q; simp only at e e1; rw [e, e1]
              rw [this] at hq
              exact HNOT.out n (by omega) hq)
            have hz := over_px zeroP_wf BP5.out rfl
            rw [zeroP_cells] at hz
            have HZ := Lib.hid hz
            have KZ := Lib.hid (show ∀ S, Keeps S w _ from fun S => by
              have kk := K5.out S
              have k9 := hz.2.2.2.2
              exact ⟨Nat.le_trans kk.size k9.size, fun x hx hs => by rw [k9.block x (Nat.lt_of_lt_of_le hx kk.size) (by omega), kk.block x hx hs], kk.same.trans k9.same⟩)
            clear hz
            go_wp2_with (refine wpList_store_mid rfl 28 _ _ rfl w.heap.size 0 #[.bool false, .int .u8 0, .int .u8 0, .int .u8 0, .int .u8 0, .int .u8 0, .int .u8 0, .int .u8 0, .int .u8 0, .int .u8 0, .int .u8 0, .int .u8 0, .int .u8 0, .int .u8 0, .int .u8 0, .int .u8 0, .int .u8 0, .int .i64 0] rfl rfl HZ.out.1 HZ.out.2.1 HZ.out.2.2.1 ?_)
            try rw [Exit.noGoto_ret]
            refine bodyPost_ret (wh.ret_cell (p := 2) (u := 3) (ty := 28) (by kernel_rfl) _ _ _ w.heap.size _ _ _ (by rfl) HZ.out.2.2.2.1 Tryz.underlying28 rfl prefix_info) rfl ?_
            exact ⟨.inr ⟨HNO.out, rfl⟩, KZ.out⟩
      · have HNO : Hid (∀ p, ¬ IsPText l p) := Lib.hid (fun q hq => hno _ (hq.at_ HSLL.out).2)
        clear hno
        obtain ⟨o1, o2, o3, o5, o6⟩ := over_ad zeroA_wf B3 rfl
        have bp3 := Blk.keeps (Blk.keeps BP2.out (K3 (fun _ => False)) (fun z => z)) o6 (by have := BP2.out.lt; omega)
        have hz := over_px zeroP_wf bp3 rfl
        have K4 : Hid (∀ S, Keeps S w (w3.setCells w2.heap.size 0 (adc zeroA))) := Lib.hid (fun S => by
          have kk := (K2.out S).trans (K3 S)
          have := (K2.out S).size
          exact ⟨Nat.le_trans kk.size o6.size, fun x hx hs => by rw [o6.block x (Nat.lt_of_lt_of_le hx kk.size) (by omega), kk.block x hx hs], kk.same.trans o6.same⟩)
        have HT := Lib.hid (And.intro o1 (And.intro o2 o3))
        unfold av
        rw [zeroP_cells] at hz
        have HZ := Lib.hid hz
        have KZ := Lib.hid (show ∀ S, Keeps S w _ from fun S => by
          have kk := K4.out S
          have k9 := hz.2.2.2.2
          exact ⟨Nat.le_trans kk.size k9.size, fun x hx hs => by rw [k9.block x (Nat.lt_of_lt_of_le hx kk.size) (by omega), kk.block x hx hs], kk.same.trans k9.same⟩)
        subst hw3
        clear o1 o2 o3 o5 o6 B3 K3 hz bp3 K4
        generalize adc zeroA = C at *
        go_wp2_with (first
          | (refine wpList_store_mid rfl 24 _ _ rfl w2.heap.size 0 C.toArray rfl rfl HT.out.1 HT.out.2.1 HT.out.2.2 ?_)
          | (refine wpList_store_mid rfl 28 _ _ rfl w.heap.size 0 #[.bool false, .int .u8 0, .int .u8 0, .int .u8 0, .int .u8 0, .int .u8 0, .int .u8 0, .int .u8 0, .int .u8 0, .int .u8 0, .int .u8 0, .int .u8 0, .int .u8 0, .int .u8 0, .int .u8 0, .int .u8 0, .int .u8 0, .int .i64 0] rfl rfl HZ.out.1 HZ.out.2.1 HZ.out.2.2.1 ?_))
        try rw [Exit.noGoto_ret]
        refine bodyPost_ret (wh.ret_cell (p := 2) (u := 3) (ty := 28) (by kernel_rfl) _ _ _ w.heap.size _ _ _ (by rfl) HZ.out.2.2.2.1 Tryz.underlying28 rfl prefix_info) rfl ?_
        exact ⟨.inr ⟨HNO.out, rfl⟩, KZ.out⟩
end
end Go.Proofs.YtgcdhfpbmcfedaaGreatDoor.pf
end
section
set_option linter.unusedVariables false
set_option linter.unusedSimpArgs false
namespace Go.Proofs.YtgcdhfpbmcfedaaGreatDoor.qk
open Go.RowKit Go.Proofs.YtgcdhfpbmcfedaaGreatDoor.oc Go.Proofs.YtgcdhfpbmcfedaaGreatDoor.mz
/-- all that was is as it was -/
def Old (w w' : World) : Prop := Keeps (fun _ => False) w w'
theorem Old.refl (w : World) : Old w w := Keeps.refl _ w
theorem Old.trans {a b c : World} (h : Old a b) (k : Old b c) : Old a c := Keeps.trans h k
theorem Old.all {a b : World} (h : Old a b) : ∀ S, Keeps S a b := fun S => Keeps.mono h (fun _ _ z => z.elim)
theorem Old.of {a b : World} (h : ∀ S, Keeps S a b) : Old a b := h _
theorem Old.drew {a b : World} (h : Old a b) : Old a b.drew := Keeps.drew h
theorem Old.blk {w w' : World} {g : Nat} {t : TypeId} {cs : List Value} (h : Old w w') (b : Blk w g t cs) : Blk w' g t cs := Blk.keeps b h (fun z => z)
/-- the walk in the order of the text, shut (an open one is reckoned out wherever a word is fitted to it) -/
@[irreducible] def WQ (P : Program) (ops : Array Oper) (C : World → Prop) (Q : Act → Prop) (l : List Oper) (a : Act) : Prop := wpQuiet P ops C Q l a
section
variable {P : Program} {ops : Array Oper} {C : World → Prop} {Q : Act → Prop} {rest : List Oper} {o : Oper} {a : Act}
theorem q_nil (h : Q a) : WQ P ops C Q [] a := by unfold WQ; exact h
theorem q_skip (hw : Region.wanted o (yielded ops a.tmps) = false) (h : WQ P ops C Q rest (a.put o.dst undef)) : WQ P ops C Q (o :: rest) a := by
  unfold WQ at h ⊢
  unfold wpQuiet
  rw [if_neg (by rw [hw]; simp)]
  exact h
theorem q_any (hw : Region.wanted o (yielded ops a.tmps) = true) (v : Value) (hr : ∀ w, C w → (execOp a.eval o).run P w = .ok (.value v) w) (h : WQ P ops C Q rest (a.put o.dst v)) : WQ P ops C Q (o :: rest) a := by
  unfold WQ at h ⊢
  unfold wpQuiet
  rw [if_pos hw]
  refine ⟨v, fun w hC => ?_, h⟩
  unfold Oper.quietAt
  rw [hr w hC]
  exact ⟨rfl, rfl⟩
theorem q_call {f : FuncId} {args : Array Value} {v : Value} (hw : Region.wanted o (yielded ops a.tmps) = true) (hc : ∀ w, C w → Calls P f args w fun e w' => e = .returned v ∧ C w') (hr : ∀ w, (execOp a.eval o).run P w = .ok (.enter f args) w)
    (h : WQ P ops C Q rest (a.put o.dst v)) : WQ P ops C Q (o :: rest) a := by
  unfold WQ at h ⊢
  unfold wpQuiet
  rw [if_pos hw]
  refine ⟨v, fun w hC => ?_, h⟩
  unfold Oper.quietAt
  rw [hr w]
  exact ⟨rfl, hc w hC⟩
theorem q_load (hw : Region.wanted o (yielded ops a.tmps) = true) (ty : TypeId) (x : Operand) (ho : o.op = .load ty x)
    (b off : Nat) (hx : a.eval x = .pointer (some ⟨b, off, none⟩)) (cs : List Value) (d : TypeDesc) (hc : ∀ w, C w → w.rangeAt b off cs)
    (hu : P.underlying ty = some d) (hd : d.isRow = true) (hi : (P.info? ty).map (·.size) = some cs.length)
    (h : WQ P ops C Q rest (a.put o.dst (.agg cs.toArray))) : WQ P ops C Q (o :: rest) a := by
  unfold WQ at h ⊢
  exact wh.quiet_load hw ty x ho b off hx cs d hc hu hd hi h
theorem q_region {id : Nat} {Q : Exit → Act → World → Prop} {a : Act} {w w0 : World} {l : List Oper} (hm : P.follows .mixedOrders = true) (hB : Region.lexB .any l.toArray = true) (hC : Old w0 w)
    (h : WQ P l.toArray (Old w0) (fun a' => ∀ w', Old w0 w' → Q .normal a' w') l a) : (Code.region id l.toArray true).wp P Q a w := by
  unfold WQ at h
  exact wp_region_quiet (C := Old w0) hm hB (Old.drew hC) (by simpa using h)
/-- the same of a region that goes in the order of the text; it may stop ahead of what writes -/
@[irreducible] def WX (P : Program) (ops : Array Oper) (C : World → Prop) (Q : Exit → Act → World → Prop) (l : List Oper) (a : Act) : Prop := ∀ w, C w → wpList P ops Q l a w
section
variable {Q : Exit → Act → World → Prop}
theorem x_nil (h : ∀ w, C w → Q .normal a w) : WX P ops C Q [] a := by unfold WX; exact h
theorem x_stop {l : List Oper} (h : ∀ w, C w → wpList P ops Q l a w) : WX P ops C Q l a := by unfold WX; exact h
theorem x_skip (hw : Region.wanted o (yielded ops a.tmps) = false) (h : WX P ops C Q rest (a.put o.dst undef)) : WX P ops C Q (o :: rest) a := by
  unfold WX at h ⊢
  intro w hC
  unfold wpList
  rw [if_neg (by rw [hw]; simp)]
  exact h w hC
theorem x_any (hw : Region.wanted o (yielded ops a.tmps) = true) (v : Value) (hr : ∀ w, C w → (execOp a.eval o).run P w = .ok (.value v) w) (h : WX P ops C Q rest (a.put o.dst v)) : WX P ops C Q (o :: rest) a := by
  unfold WX at h ⊢
  intro w hC
  unfold wpList
  rw [if_pos hw]
  left
  have hq : o.quiet P a C (fun a' => a' = a.put o.dst v) := ⟨v, fun w hC => by unfold Oper.quietAt; rw [hr w hC]; exact ⟨rfl, rfl⟩, rfl⟩
  exact Oper.wp_of_quiet hC (fun a' w' hC' e => by rw [e]; exact h w' hC') hq
theorem x_call {f : FuncId} {args : Array Value} {v : Value} (hw : Region.wanted o (yielded ops a.tmps) = true) (hc : ∀ w, C w → Calls P f args w fun e w' => e = .returned v ∧ C w') (hr : ∀ w, (execOp a.eval o).run P w = .ok (.enter f args) w)
    (h : WX P ops C Q rest (a.put o.dst v)) : WX P ops C Q (o :: rest) a := by
  unfold WX at h ⊢
  intro w hC
  unfold wpList
  rw [if_pos hw]
  left
  have hq : o.quiet P a C (fun a' => a' = a.put o.dst v) := ⟨v, fun w hC => by unfold Oper.quietAt; rw [hr w]; exact ⟨rfl, hc w hC⟩, rfl⟩
  exact Oper.wp_of_quiet hC (fun a' w' hC' e => by rw [e]; exact h w' hC') hq
theorem x_load (hw : Region.wanted o (yielded ops a.tmps) = true) (ty : TypeId) (x : Operand) (ho : o.op = .load ty x)
    (b off : Nat) (hx : a.eval x = .pointer (some ⟨b, off, none⟩)) (cs : List Value) (d : TypeDesc) (hc : ∀ w, C w → w.rangeAt b off cs)
    (hu : P.underlying ty = some d) (hd : d.isRow = true) (hi : (P.info? ty).map (·.size) = some cs.length)
    (h : WX P ops C Q rest (a.put o.dst (.agg cs.toArray))) : WX P ops C Q (o :: rest) a := by
  unfold WX at h ⊢
  intro w hC
  unfold wpList
  rw [if_pos hw]
  left
  exact wp_load_mid ty x ho b off hx cs d (hc w hC) hu hd hi (h w hC)
theorem x_list {l : List Oper} {w w0 : World} (hC : Old w0 w) (h : WX P ops (Old w0) Q l a) : wpList P ops Q l a w := by
  unfold WX at h
  exact h w hC
theorem x_region {id : Nat} {a : Act} {w w0 : World} {l : List Oper} (hC : Old w0 w) (h : WX P l.toArray (Old w0) Q l a) : (Code.region id l.toArray false).wp P Q a w := by
  unfold WX at h
  exact wp_region_lit (h w hC)
end
theorem old_call {f : FuncId} {args : Array Value} {v : Value} {w0 w : World} (hC : Old w0 w) (h : Calls P f args w fun e w' => e = .returned v ∧ ∀ S, Keeps S w w') : Calls P f args w fun e w' => e = .returned v ∧ Old w0 w' :=
  h.mono fun _ _ ⟨he, k⟩ => ⟨he, hC.trans (k _)⟩
theorem old_call_d {f : FuncId} {args : Array Value} {v : Value} {w0 w : World} (hC : Old w0 w) (h : Calls P f args w fun e w' => e = .returned v ∧ ∃ d, w' = w.drewN d) : Calls P f args w fun e w' => e = .returned v ∧ Old w0 w' :=
  h.mono fun _ _ ⟨he, d, k⟩ => ⟨he, hC.trans (by rw [k]; exact Keeps.of_drew w d)⟩
theorem old_call_s {f : FuncId} {args : Array Value} {v : Value} {w0 w : World} (hC : Old w0 w) (h : Calls P f args w fun e w' => e = .returned v ∧ w = w') : Calls P f args w fun e w' => e = .returned v ∧ Old w0 w' :=
  h.mono fun _ _ ⟨he, k⟩ => ⟨he, by rw [← k]; exact hC⟩
end
end Go.Proofs.YtgcdhfpbmcfedaaGreatDoor.qk
end
section
set_option linter.unusedVariables false
set_option linter.unusedSimpArgs false
namespace Go.Proofs.YtgcdhfpbmcfedaaGreatDoor.pf
open Go.RowKit Go.Proofs.YtgcdhfpbmcfedaaGreatDoor.oc Go.Proofs.YtgcdhfpbmcfedaaGreatDoor.mz Go.Proofs.YtgcdhfpbmcfedaaGreatDoor.wh Go.Proofs.YtgcdhfpbmcfedaaGreatDoor.qk
def cut (B : List Nat) (k : Nat) : List Nat := B.mapIdx fun j x => x / 2 ^ (8 * j + 8 - k) * 2 ^ (8 * j + 8 - k)
theorem clr_cut (a : Ad) (k : Nat) : (clr a k).B = cut a.B k := rfl
theorem b8_len (l : List Nat) : (b8s l).length = l.length := by simp [b8s]
theorem b8_set (B : List Nat) (k x : Nat) : b8s (B.set k x) = (b8s B).set k (.int .u8 (x : Int)) := by simp [b8s, List.map_set]
theorem b8_get {w : World} {P : Nat} {T : TypeId} {B : List Nat} (hl : B.length = 16) (h : Blk w P T (b8s B)) {i : Nat} (hi : i < 16) : w.cell? ⟨P, i, none⟩ = some (.int .u8 ((B[i]?.getD 0 : Nat) : Int)) := by
  rw [h.cell, b8s, List.getElem?_map, List.getElem?_eq_getElem (by rw [hl]; exact hi)]; rfl
theorem arr_info : (Tryz.prog.info? 22).map (·.size) = some 16 := by kernel_rfl
theorem mask_form : ∀ x : Fin 256, ∀ s : Fin 9, bits .and .u8 ((x.val : Nat) : Int) ((255 : Int) * 2 ^ s.val % 256) = ((x.val / 2 ^ s.val * 2 ^ s.val : Nat) : Int) := by decide +kernel
theorem big_div {x s : Nat} (hx : x < 256) (hs : 8 ≤ s) : x / 2 ^ s * 2 ^ s = 0 := by
  have h8 : (256 : Nat) ≤ 2 ^ s := Nat.pow_le_pow_right (n := 2) (by omega) hs
  rw [Nat.div_eq_of_lt (by omega), Nat.zero_mul]
section
variable (w : World)
set_option maxRecDepth 100000 in
set_option maxHeartbeats 1000000 in
theorem pwidth_ (a : Ad) : Calls Tryz.prog 42 #[av a] w fun e w' => e = .returned (.int .i64 (wid a : Int)) ∧ ∀ S, Keeps S w w' := by
  have b1 := Blk.new w 24 (adc a).toArray
  have x0 := ad_v6 b1
  have hc := wid_cases a
  unfold av
  generalize (adc a).toArray = C at *
  clear b1
  rcases hc with ⟨h, e⟩ | ⟨h, e⟩
  all_goals
    rw [h] at x0
    rw [e]
    clear h e
    go_enter Tryz.func42, Tryz.ntmps42
    go_wp2
    try rw [Exit.noGoto_ret]
    go_ret
    exact ⟨rfl, fun S => (Keeps.refl S w).alloc _⟩
structure FB (w wr : World) (B : List Nat) (k i : Nat) (L : List Nat) : Prop where
  b0 : Blk wr w.heap.size 22 (b8s L)
  b1 : Blk wr (w.heap.size + 1) 22 (b8s (List.replicate 16 0))
  kp : ∀ S, Keeps S w wr
  len : L.length = 16
  lt : ∀ x ∈ L, x < 256
  at_ : ∀ j, j < 16 → L[j]?.getD 0 = if j < i then B[j]?.getD 0 / 2 ^ (8 * j + 8 - k) * 2 ^ (8 * j + 8 - k) else B[j]?.getD 0
theorem getD_lt {L : List Nat} (h : ∀ x ∈ L, x < 256) (j : Nat) : L[j]?.getD 0 < 256 := by
  rcases Nat.lt_or_ge j L.length with q | q
  · rw [List.getElem?_eq_getElem q]; exact h _ (List.getElem_mem q)
  · rw [List.getElem?_eq_none q]; simp
theorem FB.next {w wr : World} {B L : List Nat} {k i y : Nat} (h : FB w wr B k i L) (hi : i < 16) (hy : y = L[i]?.getD 0 / 2 ^ (8 * i + 8 - k) * 2 ^ (8 * i + 8 - k)) : FB w (wr.setCell ⟨w.heap.size, i, none⟩ (.int .u8 (y : Int))) B k (i + 1) (L.set i y) := by
  have hx := getD_lt h.lt i
  have hy2 : y < 256 := by subst hy; exact Nat.lt_of_le_of_lt (Nat.div_mul_le_self _ _) hx
  refine ⟨by rw [b8_set]; exact h.b0.put i _, h.b1.far (by simp) _, fun S => (h.kp S).setCell (.inr (Nat.le_refl _)) _, by simp [h.len], fun x hx => ?_, fun j hj => ?_⟩
  · rcases List.mem_or_eq_of_mem_set hx with q | q
    · exact h.lt x q
    · rw [q]; exact hy2
  · rw [List.getElem?_set]
    by_cases e : i = j
    · subst e
      rw [if_pos rfl, if_pos (by rw [h.len]; exact hi), if_pos (by omega), Option.getD_some, hy, h.at_ i hi, if_neg (by omega)]
    · rw [if_neg e, h.at_ j hj]
      by_cases c : j < i
      · rw [if_pos c, if_pos (by omega)]
      · rw [if_neg c, if_neg (by omega)]
theorem FB.drew {w wr : World} {B L : List Nat} {k i : Nat} (h : FB w wr B k i L) : FB w wr.drew B k i L := ⟨h.b0, h.b1, fun S => (h.kp S).drew, h.len, h.lt, h.at_⟩
theorem FB.done {w wr : World} {B L : List Nat} {k : Nat} (h : FB w wr B k 16 L) (hB : B.length = 16) : L = cut B k := by
  refine List.ext_getElem? fun j => ?_
  rcases Nat.lt_or_ge j 16 with q | q
  · have e1 := h.at_ j q
    rw [if_pos q] at e1
    rw [List.getElem?_eq_getElem (by rw [h.len]; exact q), List.getElem?_eq_getElem (by rw [hB]; exact q)] at e1
    simp only [Option.getD_some] at e1
    simp only [cut, List.getElem?_mapIdx]
    rw [List.getElem?_eq_getElem (by rw [h.len]; exact q), List.getElem?_eq_getElem (by rw [hB]; exact q), e1]; rfl
  · rw [List.getElem?_eq_none (by rw [h.len]; exact q), List.getElem?_eq_none (by simp [cut, hB]; exact q)]
set_option maxRecDepth 100000 in
set_option maxHeartbeats 4000000 in
theorem first_ (B : List Nat) (k : Nat) (hB : B.length = 16) (hb : ∀ x ∈ B, x < 256) (hk : k ≤ 128) : Calls Tryz.prog 43 #[.agg (b8s B).toArray, .int .i64 (k : Int)] w fun e w' => e = .returned (.agg (b8s (cut B k)).toArray) ∧ ∀ S, Keeps S w w' := by
  have b0 := (Blk.new w 22 (b8s B).toArray).alloc (.cells #[.int .u8 0, .int .u8 0, .int .u8 0, .int .u8 0, .int .u8 0, .int .u8 0, .int .u8 0, .int .u8 0, .int .u8 0, .int .u8 0, .int .u8 0, .int .u8 0, .int .u8 0, .int .u8 0, .int .u8 0, .int .u8 0] 22)
  have b1 := Blk.new (w.alloc (.cells (b8s B).toArray 22)) 22 #[.int .u8 0, .int .u8 0, .int .u8 0, .int .u8 0, .int .u8 0, .int .u8 0, .int .u8 0, .int .u8 0, .int .u8 0, .int .u8 0, .int .u8 0, .int .u8 0, .int .u8 0, .int .u8 0, .int .u8 0, .int .u8 0]
  rw [World.size_alloc] at b1
  obtain ⟨w1, hw1⟩ : ∃ w1, w1 = (w.alloc (.cells (b8s B).toArray 22)).alloc (.cells #[.int .u8 0, .int .u8 0, .int .u8 0, .int .u8 0, .int .u8 0, .int .u8 0, .int .u8 0, .int .u8 0, .int .u8 0, .int .u8 0, .int .u8 0, .int .u8 0, .int .u8 0, .int .u8 0, .int .u8 0, .int .u8 0] 22) := ⟨_, rfl⟩
  rw [← hw1] at b0 b1
  have k1 : ∀ S, Keeps S w w1 := fun S => by rw [hw1]; exact ((Keeps.refl S w).alloc _).alloc _
  have HI := Lib.hid (show FB w w1 B k 0 B from ⟨b0, b1, k1, hB, hb, fun j hj => by rw [if_neg (by omega)]⟩)
  have HW := Lib.hid hw1
  have HBL := Lib.hid hB
  have k0 : (0 : Int) ≤ (k : Int) := by omega
  have k9 : (k : Int) ≤ 128 := by omega
  clear b0 b1 k1 hw1 hB hb
  go_enter Tryz.func43, Tryz.ntmps43
  go_wp2_with fail
  rw [← HW.out]
  go_loopw [7] (fun i wr => ∃ (m : Nat) (L : List Nat), m ≤ 16 ∧ i = .int .i64 (m : Int) ∧ FB w wr B k m L) (fun i _ => 16 - (intOf i).toNat)
  case atStart => exact ⟨0, B, by omega, rfl, HI.out⟩
  case round =>
    obtain ⟨m, L, h1, rfl, hf⟩ := hrel
    by_cases hlt : m < 16
    · have hlt' : (m : Int) < 16 := by omega
      have m0 : (0 : Int) ≤ (m : Int) := by omega
      have hx := getD_lt hf.lt m
      have xc := b8_get hf.len hf.b0 hlt
      have xf := hf.b0.frozen m
      have HF := Lib.hid hf
      clear hf HI HW hlt
      obtain ⟨kp, hkp, hs⟩ : ∃ kp : Nat, kp = min (k - 8 * m) 8 ∧ kp ≤ 8 := ⟨_, rfl, by omega⟩
      have hmax : (if (k : Int) - 8 * (m : Int) < 0 then 0 else (k : Int) - 8 * (m : Int)) = ((k - 8 * m : Nat) : Int) := by split <;> omega
      have hmin : (if (8 : Int) < ((k - 8 * m : Nat) : Int) then 8 else ((k - 8 * m : Nat) : Int)) = (kp : Int) := by split <;> omega
      have HKP := Lib.hid hkp
      obtain ⟨s, hs8⟩ : ∃ s : Nat, (8 : Int) - (kp : Int) = (s : Int) := ⟨8 - kp, by omega⟩
      have s8 : s ≤ 8 := by omega
      have s0 : (0 : Int) ≤ (s : Int) := by omega
      obtain ⟨y, hy⟩ : ∃ y, y = L[m]?.getD 0 / 2 ^ (8 * m + 8 - k) * 2 ^ (8 * m + 8 - k) := ⟨_, rfl⟩
      have hmk := mask_form ⟨L[m]?.getD 0, hx⟩ ⟨s, by omega⟩
      simp only at hmk
      have hys : L[m]?.getD 0 / 2 ^ s * 2 ^ s = y := by
        rw [hy]
        by_cases c : 8 * m < k
        · rw [show 8 * m + 8 - k = s from by omega]
        · rw [big_div hx (s := 8 * m + 8 - k) (by omega), show s = 8 from by omega, big_div hx (by omega)]
      rw [hys] at hmk
      have HY := Lib.hid hy
      clear hkp hy hys
      generalize hxe : L[m]?.getD 0 = x at *
      have HXE := Lib.hid hxe
      clear hxe
      go_wp2_with fail
      go_region
      have hn := (HF.out.next (by omega) (HXE.out ▸ HY.out)).drew
      clear hmk xc xf hs8 hmax hmin
      generalize (wr.setCell ⟨w.heap.size, m, none⟩ (.int .u8 (y : Int))).drew = w9 at *
      go_wp2_with fail
      go_roundw
      case rel => exact ⟨m + 1, L.set m y, by omega, by go_num, hn⟩
      case measure => simp [intOf]; omega
    · obtain rfl : m = 16 := by omega
      have hL := hf.done HBL.out
      subst hL
      have HR := Lib.hid (wh.Blk.range hf.b0)
      obtain ⟨t0, b9, k9'⟩ := over_all (vs := b8s (cut B k)) hf.b1 (by rw [b8_len, hf.len]; rfl)
      have HSZ := Lib.hid (show (Tryz.prog.info? 22).map (·.size) = some (b8s (cut B k)).length from by rw [b8_len, hf.len]; exact arr_info)
      have HSY := Lib.hid (show (Tryz.prog.info? 22).map (·.size) = some (b8s (cut B k)).toArray.size from by rw [List.size_toArray, b8_len, hf.len]; exact arr_info)
      have HON := Lib.hid (all_oneCell_toArray (b8_one (cut B k)))
      have HT := Lib.hid t0
      have B9 := Lib.hid b9
      have K9 : Hid (∀ S, Keeps S w (wr.setCells (w.heap.size + 1) 0 (b8s (cut B k)))) := Lib.hid (fun S => by
        have kk := hf.kp S
        exact ⟨Nat.le_trans kk.size k9'.size, fun x hx hs => by rw [k9'.block x (Nat.lt_of_lt_of_le hx kk.size) (by omega), kk.block x hx hs], kk.same.trans k9'.same⟩)
      clear t0 b9 k9' hf HI HW hlt
      generalize hD : b8s (cut B k) = D at *
      have HD := Lib.hid hD
      clear hD
      go_wp2_with (first
        | (refine wpList_load_mid rfl 22 _ rfl w.heap.size 0 rfl D _ HR.out Tryz.underlying22 rfl HSZ.out ?_)
        | (refine wpList_store_mid rfl 22 _ _ rfl (w.heap.size + 1) 0 D.toArray rfl rfl HT.out HSY.out HON.out ?_))
      try rw [Exit.noGoto_ret]
      refine bodyPost_ret (results_cell_row (p := 4) (ty := 22) (by kernel_rfl) _ _ (w.heap.size + 1) _ _ _ _ (by rfl) B9.out Tryz.underlying22 rfl HSY.out) rfl ?_
      exact ⟨by rw [HD.out], K9.out⟩
end
end Go.Proofs.YtgcdhfpbmcfedaaGreatDoor.pf
end
section
set_option linter.unusedVariables false
set_option linter.unusedSimpArgs false
namespace Go.Proofs.YtgcdhfpbmcfedaaGreatDoor.pf
open Go.RowKit Go.Proofs.YtgcdhfpbmcfedaaGreatDoor.oc Go.Proofs.YtgcdhfpbmcfedaaGreatDoor.mz Go.Proofs.YtgcdhfpbmcfedaaGreatDoor.wh
theorem part_u8 (l : List Nat) (i : Nat) (h : i < l.length) (w : World) : (part 5 (b8s l).toArray i).run Tryz.prog w = .ok (.int .u8 ((l[i]'h : Nat) : Int)) w := by
  have hg : (b8s l)[i]? = some (.int .u8 ((l[i]'h : Nat) : Int)) := by simp [b8s, List.getElem?_eq_getElem h]
  simp [part, Tryz.isAgg5, Sem.run_bind, hg, go_sem]
theorem beq_drop {xs ys : List Nat} {a : Nat} (hx : a < xs.length) (hy : a < ys.length) : (xs.drop a == ys.drop a) = ((xs[a] == ys[a]) && (xs.drop (a + 1) == ys.drop (a + 1))) := by
  rw [List.drop_eq_getElem_cons hx, List.drop_eq_getElem_cons hy]
  rfl
theorem loop_eq (d : Nat) (xs ys : List Nat) (m : Nat) (hx : xs.length = m) (hy : ys.length = m) (w : World) : ∀ (n a : Nat), a + n = m →
    (Sem.run Tryz.prog (forIn (List.range' a n) ((none : Option Bool), ()) fun i __s => do
      let __do_lift ← part 5 (b8s xs).toArray (i * 1)
      let __do_lift_1 ← part 5 (b8s ys).toArray (i * 1)
      let __do_lift ← Op.equalIn (d + 1) 5 __do_lift __do_lift_1
      if (!__do_lift) = true then pure (ForInStep.done (some false, ())) else pure (ForInStep.yield (none, ()))) w) = .ok (if xs.drop a == ys.drop a then (none, ()) else (some false, ())) w
  | 0, a, h => by
    have e1 : xs.drop a = [] := List.drop_eq_nil_of_le (by omega)
    have e2 : ys.drop a = [] := List.drop_eq_nil_of_le (by omega)
    rw [e1, e2]
    simp [Sem.run_pure]
  | n + 1, a, h => by
    have ih := loop_eq d xs ys m hx hy w n (a + 1) (by omega)
    have p1 := part_u8 xs a (by omega) w
    have p2 := part_u8 ys a (by omega) w
    rw [List.range'_succ, List.forIn_cons, beq_drop (by omega) (by omega)]
    have he := run_equalIn_int (P := Tryz.prog) (w := w) d 5 .u8 .u8 ((xs[a]'(by omega) : Nat) : Int) ((ys[a]'(by omega) : Nat) : Int) Tryz.underlying5
    rw [Nat.mul_one]
    simp only [Sem.run_bind, p1, p2, Result.andThen_ok, he]
    by_cases hq : xs[a]'(by omega) = ys[a]'(by omega)
    · have hqi : ((xs[a]'(by omega) : Nat) : Int) == ((ys[a]'(by omega) : Nat) : Int) := by rw [hq]; simp
      rw [hqi]
      simp only [Bool.not_true, Bool.false_eq_true, if_false, Sem.run_pure, Result.andThen_ok]
      rw [ih]
      simp [hq]
    · have hqi : (((xs[a]'(by omega) : Nat) : Int) == ((ys[a]'(by omega) : Nat) : Int)) = false := by simpa using fun e => hq (by omega)
      rw [hqi]
      simp [hq, Sem.run_pure]
theorem arr_eq (d : Nat) (xs ys : List Nat) (hx : xs.length = 16) (hy : ys.length = 16) (w : World) : (Op.equalIn (d + 2) 22 (.agg (b8s xs).toArray) (.agg (b8s ys).toArray)).run Tryz.prog w = .ok (xs == ys) w := by
  unfold Op.equalIn
  have h2 := run_underlying (P := Tryz.prog) Tryz.underlying22 w
  rw [Sem.run_bind, h2]
  simp only [Result.andThen_ok, Std.Legacy.Range.forIn_eq_forIn_range', Std.Legacy.Range.size, Sem.run_bind, Tryz.sizeOf5]
  have hl := loop_eq d xs ys 16 hx hy w 16 0 rfl
  simp only [Nat.sub_zero, Nat.add_sub_cancel, Nat.div_one]
  rw [hl]
  simp only [List.drop_zero, Result.andThen_ok]
  by_cases hq : xs = ys
  · subst hq; simp [Sem.run_pure]
  · simp [hq, Sem.run_pure]
theorem agg_of {t : TypeId} (h : (Tryz.prog.underlying t).map (·.isRow) = some true) (w : World) : (isAgg t).run Tryz.prog w = .ok true w := by
  cases hu : Tryz.prog.underlying t with
  | none => simp [hu] at h
  | some d =>
    unfold isAgg
    rw [Sem.run_bind, run_underlying hu w]
    cases d <;> simp_all [TypeDesc.isRow]
theorem size_of {t : TypeId} {n : Nat} (h : (Tryz.prog.info? t).map (·.size) = some n) (w : World) : (sizeOf t).run Tryz.prog w = .ok n w := by
  cases hq : Tryz.prog.info? t with
  | none => simp [hq] at h
  | some i => simp [hq] at h; simp [sizeOf, typeInfo, hq, h]
theorem part_row {t : TypeId} {n : Nat} (hr : (Tryz.prog.underlying t).map (·.isRow) = some true) (hn : (Tryz.prog.info? t).map (·.size) = some n) (l : List Value) (o : Nat) (w : World) : (part t l.toArray o).run Tryz.prog w = .ok (.agg ((l.drop o).take n).toArray) w := by
  have he : l.toArray.extract o (o + n) = ((l.drop o).take n).toArray := by simp [List.extract]
  simp only [part, Sem.run_bind, agg_of hr w, Result.andThen_ok, size_of hn w, if_true, Sem.run_pure, he]
theorem eqF (P : Program) (w : World) (d : Nat) (xs ys : Array Value) (f : Field) (fs : List Field) (t : TypeId) (o : Nat) (x y : Value) (b : Bool) (hn : (f.name == "_") = false) (ht : f.type = t) (ho : f.offset = o)
    (hx : (part t xs o).run P w = .ok x w) (hy : (part t ys o).run P w = .ok y w) (he : (Op.equalIn d t x y).run P w = .ok b w) :
    (Op.eqFields d xs ys (f :: fs)).run P w = if b then (Op.eqFields d xs ys fs).run P w else .ok false w := by
  subst ht
  subst ho
  have hn' : f.name ≠ "_" := by intro e; rw [e] at hn; simp at hn
  rw [Op.eqFields, if_pos hn', Sem.run_bind, hx, Result.andThen_ok, Sem.run_bind, hy, Result.andThen_ok, Sem.run_bind, he, Result.andThen_ok]
  cases b
  · rfl
  · rfl
instance : DecidableEq Ad := fun a b => decidable_of_iff (a.v6 = b.v6 ∧ a.B = b.B) ⟨fun h => Ad.eq_of h.1 h.2, fun h => by rw [h]; exact ⟨rfl, rfl⟩⟩
instance : DecidableEq Px := fun p q => decidable_of_iff (p.a = q.a ∧ p.bits = q.bits) ⟨fun h => by cases p; cases q; simp at h; simp [h.1, h.2], fun h => by rw [h]; exact ⟨rfl, rfl⟩⟩
theorem beq_ad (a b : Ad) : (a.v6 == b.v6 && a.B == b.B) = decide (a = b) := by
  cases a; cases b
  rw [Bool.eq_iff_iff]
  simp
theorem addr_fields : ((Tryz.prog.fieldsOf 24).toList.map (fun f => (f.name == "_", f.type, f.offset))) = [(false, 4, 0), (false, 22, 1)] := by kernel_rfl
theorem prefix_fields : ((Tryz.prog.fieldsOf 28).toList.map (fun f => (f.name == "_", f.type, f.offset))) = [(false, 24, 0), (false, 3, 17)] := by kernel_rfl
theorem part_one {t : TypeId} (ha : ∀ w, (isAgg t).run Tryz.prog w = .ok false w) (l : List Value) (o : Nat) (x : Value) (h : l[o]? = some x) (w : World) : (part t l.toArray o).run Tryz.prog w = .ok x w := by
  simp [part, ha w, Sem.run_bind, h, go_sem]
theorem addr_eqd (d : Nat) (a b : Ad) (ha : a.Wf) (hb : b.Wf) (w : World) : (Op.equalIn (d + 3) 24 (av a) (av b)).run Tryz.prog w = .ok (decide (a = b)) w := by
  unfold av
  have h := run_equalIn_struct (P := Tryz.prog) (w := w) (d + 2) 24 (adc a).toArray (adc b).toArray (by kernel_rfl) (by kernel_rfl)
  rw [h]
  have hf := addr_fields
  generalize (Tryz.prog.fieldsOf 24).toList = fs at hf
  obtain ⟨f1, fs, rfl⟩ : ∃ f r, fs = f :: r := by cases fs with | nil => simp at hf | cons a b => exact ⟨_, _, rfl⟩
  obtain ⟨f2, fs, rfl⟩ : ∃ f r, fs = f :: r := by cases fs with | nil => simp at hf | cons a b => exact ⟨_, _, rfl⟩
  simp only [List.map_cons, List.cons.injEq, Prod.mk.injEq, List.map_eq_nil_iff] at hf
  obtain ⟨⟨n1, t1, o1⟩, ⟨n2, t2, o2⟩, rfl⟩ := hf
  have a1 := part_one (t := 4) Tryz.isAgg4 (adc a) 0 (.bool a.v6) rfl w
  have a2 := part_one (t := 4) Tryz.isAgg4 (adc b) 0 (.bool b.v6) rfl w
  have b1 := part_row (t := 22) (n := 16) (by kernel_rfl) arr_info (adc a) 1 w
  have b2 := part_row (t := 22) (n := 16) (by kernel_rfl) arr_info (adc b) 1 w
  have e1 : ((adc a).drop 1).take 16 = b8s a.B := by rw [show (adc a).drop 1 = b8s a.B from rfl, List.take_of_length_le (by rw [b8_len, ha.len]; omega)]
  have e2 : ((adc b).drop 1).take 16 = b8s b.B := by rw [show (adc b).drop 1 = b8s b.B from rfl, List.take_of_length_le (by rw [b8_len, hb.len]; omega)]
  rw [e1] at b1
  rw [e2] at b2
  have h1 := run_equalIn_bool (P := Tryz.prog) w (d + 1) 4 a.v6 b.v6 Tryz.underlying4
  have h2 := arr_eq d a.B b.B ha.len hb.len w
  rw [eqF _ w _ _ _ f1 _ _ _ _ _ _ n1 t1 o1 a1 a2 h1, eqF _ w _ _ _ f2 _ _ _ _ _ _ n2 t2 o2 b1 b2 h2, ← beq_ad]
  cases (a.v6 == b.v6) <;> cases (a.B == b.B) <;> rfl
theorem prefix_eqd (d : Nat) (p q : Px) (hp : p.a.Wf) (hq : q.a.Wf) (w : World) : (Op.equalIn (d + 4) 28 (pv p) (pv q)).run Tryz.prog w = .ok (decide (p = q)) w := by
  unfold pv
  have h := run_equalIn_struct (P := Tryz.prog) (w := w) (d + 3) 28 (pxc p).toArray (pxc q).toArray (by kernel_rfl) (by kernel_rfl)
  rw [h]
  have hf := prefix_fields
  generalize (Tryz.prog.fieldsOf 28).toList = fs at hf
  obtain ⟨f1, fs, rfl⟩ : ∃ f r, fs = f :: r := by cases fs with | nil => simp at hf | cons a b => exact ⟨_, _, rfl⟩
  obtain ⟨f2, fs, rfl⟩ : ∃ f r, fs = f :: r := by cases fs with | nil => simp at hf | cons a b => exact ⟨_, _, rfl⟩
  simp only [List.map_cons, List.cons.injEq, Prod.mk.injEq, List.map_eq_nil_iff] at hf
  obtain ⟨⟨n1, t1, o1⟩, ⟨n2, t2, o2⟩, rfl⟩ := hf
  have b1 := part_row (t := 24) (n := 17) (by kernel_rfl) addr_info (pxc p) 0 w
  have b2 := part_row (t := 24) (n := 17) (by kernel_rfl) addr_info (pxc q) 0 w
  have e1 : ((pxc p).drop 0).take 17 = adc p.a := by rw [List.drop_zero, pxc, List.take_append_of_le_length (by rw [adc_len hp]; omega), List.take_of_length_le (by rw [adc_len hp]; omega)]
  have e2 : ((pxc q).drop 0).take 17 = adc q.a := by rw [List.drop_zero, pxc, List.take_append_of_le_length (by rw [adc_len hq]; omega), List.take_of_length_le (by rw [adc_len hq]; omega)]
  rw [e1] at b1
  rw [e2] at b2
  have g1 : (pxc p)[17]? = some (.int .i64 p.bits) := by rw [pxc, List.getElem?_append_right (by rw [adc_len hp]; omega), adc_len hp]; rfl
  have g2 : (pxc q)[17]? = some (.int .i64 q.bits) := by rw [pxc, List.getElem?_append_right (by rw [adc_len hq]; omega), adc_len hq]; rfl
  have a1 := part_one (t := 3) Tryz.isAgg3 (pxc p) 17 _ g1 w
  have a2 := part_one (t := 3) Tryz.isAgg3 (pxc q) 17 _ g2 w
  have h1 := addr_eqd d p.a q.a hp hq w
  unfold av at h1
  have h2 := run_equalIn_int (P := Tryz.prog) (w := w) (d + 2) 3 .i64 .i64 p.bits q.bits Tryz.underlying3
  have hd : (decide (p.a = q.a) && (p.bits == q.bits)) = decide (p = q) := by
    cases p; cases q
    rw [Bool.eq_iff_iff]
    simp
  rw [eqF _ w _ _ _ f1 _ _ _ _ _ _ n1 t1 o1 b1 b2 h1, eqF _ w _ _ _ f2 _ _ _ _ _ _ n2 t2 o2 a1 a2 h2, ← hd]
  cases decide (p.a = q.a) <;> cases (p.bits == q.bits) <;> rfl
theorem b8_equ (xs ys : List Nat) (hx : xs.length = 16) (hy : ys.length = 16) (w : World) : (Op.equalIn 10000 22 (.agg (b8s xs).toArray) (.agg (b8s ys).toArray)).run Tryz.prog w = .ok (xs == ys) w := by
  have h := arr_eq 9998 xs ys hx hy w
  simp only [Nat.reduceAdd] at h
  exact h
theorem addr_eql (a b : Ad) (ha : a.Wf) (hb : b.Wf) (w : World) : (binOp .eql 24 (av a) (av b)).run Tryz.prog w = .ok (.bool (decide (a = b))) w := by
  have h := addr_eqd 9997 a b ha hb w
  simp only [Nat.reduceAdd] at h
  unfold av at h ⊢
  rw [run_eql_struct, h]; rfl
theorem addr_neq (a b : Ad) (ha : a.Wf) (hb : b.Wf) (w : World) : (binOp .neq 24 (av a) (av b)).run Tryz.prog w = .ok (.bool (!decide (a = b))) w := by
  have h := addr_eqd 9997 a b ha hb w
  simp only [Nat.reduceAdd] at h
  unfold av at h ⊢
  rw [run_neq_struct, h]; rfl
theorem px_eql (p q : Px) (hp : p.a.Wf) (hq : q.a.Wf) (w : World) : (binOp .eql 28 (pv p) (pv q)).run Tryz.prog w = .ok (.bool (decide (p = q))) w := by
  have h := prefix_eqd 9996 p q hp hq w
  simp only [Nat.reduceAdd] at h
  unfold pv at h ⊢
  rw [run_eql_struct, h]; rfl
theorem px_neq (p q : Px) (hp : p.a.Wf) (hq : q.a.Wf) (w : World) : (binOp .neq 28 (pv p) (pv q)).run Tryz.prog w = .ok (.bool (!decide (p = q))) w := by
  have h := prefix_eqd 9996 p q hp hq w
  simp only [Nat.reduceAdd] at h
  unfold pv at h ⊢
  rw [run_neq_struct, h]; rfl
end Go.Proofs.YtgcdhfpbmcfedaaGreatDoor.pf
end
section
set_option linter.unusedVariables false
set_option linter.unusedSimpArgs false
namespace Go.Proofs.YtgcdhfpbmcfedaaGreatDoor.pf
open Go.RowKit Go.Proofs.YtgcdhfpbmcfedaaGreatDoor.oc Go.Proofs.YtgcdhfpbmcfedaaGreatDoor.mz Go.Proofs.YtgcdhfpbmcfedaaGreatDoor.wh Go.Proofs.YtgcdhfpbmcfedaaGreatDoor.qk
theorem cut_len (B : List Nat) (k : Nat) : (cut B k).length = B.length := by simp [cut]
/-- an address may be just if its bits behind its width are 0 -/
theorem okA_cut {a : Ad} (ha : a.Wf) : (a.B = cut a.B (wid a)) ↔ okA a := by
  have hw := (wid_le a).1
  rw [okA_bits ha, ← clr_cut]
  constructor
  · intro h i h1 h2
    have e : bit a i = bit (clr a (wid a)) i := by rw [← Ad.eq_of (a := a) (b := clr a (wid a)) rfl h]
    rw [e, clr_bit ha _ _ h2, decide_eq_false (by omega)]; rfl
  · intro h
    have e : a = clr a (wid a) := Ad.ext_bit ha (clr_wf ha _) rfl fun i hi => by
      rw [clr_bit ha _ _ hi]
      by_cases c : i < wid a
      · rw [decide_eq_true c]; rfl
      · rw [decide_eq_false c, h i (by omega) hi]; rfl
    exact congrArg Ad.B e
/-- an address's bytes, within it -/
theorem ad_bytes {w : World} {P : Nat} {T : TypeId} {a : Ad} (h : Blk w P T (adc a)) : w.rangeAt P 1 (b8s a.B) := fun j v hv => by
  rw [h.cell, Nat.add_comm 1 j, adc, List.getElem?_cons_succ]; exact hv
theorem px_bytes {w : World} {P : Nat} {T : TypeId} {p : Px} (hp : p.a.Wf) (h : Blk w P T (pxc p)) : w.rangeAt P 1 (b8s p.a.B) := fun j v hv => by
  have hj : j < 16 := by
    rcases Nat.lt_or_ge j 16 with q | q
    · exact q
    · rw [List.getElem?_eq_none (by rw [b8_len, hp.len]; exact q)] at hv; cases hv
  rw [h.cell, pxc, List.getElem?_append_left (by rw [adc_len hp]; omega), Nat.add_comm 1 j, adc, List.getElem?_cons_succ]; exact hv
theorem b8_info {B : List Nat} (h : B.length = 16) : (Tryz.prog.info? 22).map (·.size) = some (b8s B).length := by rw [b8_len, h]; exact arr_info
section
variable (w : World)
set_option maxRecDepth 100000 in
set_option maxHeartbeats 2000000 in
theorem pcheckaddr_ (a : Ad) (ha : a.Wf) : Calls Tryz.prog 19 #[av a] w fun e w' => e = .returned (.int .i64 (errA a)) ∧ ∀ S, Keeps S w w' := by
  obtain ⟨w1, hw1, k1, b1⟩ := enter_blk w (adc a).toArray 24
  have HCW := fun w => Lib.hid (pwidth_ w a)
  have HCF := fun w => Lib.hid (first_ w a.B (wid a) ha.len ha.sm (wid_le a).1)
  have HSA := Lib.hid (show (Tryz.prog.info? 24).map (·.size) = some (adc a).length from by rw [adc_len ha]; exact addr_info)
  have HSB := Lib.hid (b8_info ha.len)
  have HF : ∀ w', Old w1 w' → w'.rangeAt w.heap.size 0 (adc a) ∧ w'.rangeAt w.heap.size 1 (b8s a.B) := fun w' h => ⟨Blk.range (h.blk b1), ad_bytes (h.blk b1)⟩
  have HN := fun w => Lib.hid (b8_equ a.B (cut a.B (wid a)) ha.len ((cut_len _ _).trans ha.len) w)
  obtain ⟨E, hE⟩ : ∃ E, E = errA a := ⟨_, rfl⟩
  obtain ⟨r, hr⟩ : ∃ r : Bool, r = (a.B == cut a.B (wid a)) := ⟨_, rfl⟩
  have HE : Hid (E = if r = true then 0 else 150) := Lib.hid (by
    have hk := okA_cut ha
    rw [hr, hE]
    by_cases h : a.B = cut a.B (wid a)
    · rw [errA_ok (hk.1 h), if_pos (by simpa using h)]
    · rw [errA_no (fun z => h (hk.2 z)), if_neg (by simpa using h)])
  rw [← hr] at HN
  rw [← hE]
  have HW := Lib.hid hw1
  have K1 : Hid (∀ S, Keeps S w w1) := Lib.hid k1
  unfold av at HCW ⊢
  clear hE hr hw1 k1 b1 ha
  generalize b8s (cut a.B (wid a)) = D2 at *
  generalize b8s a.B = D1 at *
  generalize adc a = C at *
  generalize wid a = W at *
  go_enter Tryz.func19, Tryz.ntmps19
  go_wp2_with fail
  rw [← HW.out]

  refine q_region (by kernel_rfl) (by kernel_rfl) (Old.refl w1) ?_
  --@0
  refine q_any (by kernel_rfl) ?_ (fun wq hC => ?_) ?_
  rotate_left
  · (go_simp) <;> (try (with_reducible rfl))
  try simp only [Act.put, Array.getInternal_eq_getElem, List.getElem_toArray, List.getElem_cons_zero, List.getElem_cons_succ, List.setIfInBounds_toArray, List.set_cons_zero, List.set_cons_succ]
  --@1
  refine q_load (by kernel_rfl) 22 _ rfl w.heap.size 1 rfl D1 _ (fun wq hC => (HF wq hC).2) Tryz.underlying22 rfl HSB.out ?_
  try simp only [Act.put, Array.getInternal_eq_getElem, List.getElem_toArray, List.getElem_cons_zero, List.getElem_cons_succ, List.setIfInBounds_toArray, List.set_cons_zero, List.set_cons_succ]
  --@2
  refine q_any (by kernel_rfl) ?_ (fun wq hC => ?_) ?_
  rotate_left
  · (go_simp) <;> (try (with_reducible rfl))
  try simp only [Act.put, Array.getInternal_eq_getElem, List.getElem_toArray, List.getElem_cons_zero, List.getElem_cons_succ, List.setIfInBounds_toArray, List.set_cons_zero, List.set_cons_succ]
  --@3
  refine q_load (by kernel_rfl) 22 _ rfl w.heap.size 1 rfl D1 _ (fun wq hC => (HF wq hC).2) Tryz.underlying22 rfl HSB.out ?_
  try simp only [Act.put, Array.getInternal_eq_getElem, List.getElem_toArray, List.getElem_cons_zero, List.getElem_cons_succ, List.setIfInBounds_toArray, List.set_cons_zero, List.set_cons_succ]
  --@4
  refine q_load (by kernel_rfl) 24 _ rfl w.heap.size 0 rfl C _ (fun wq hC => (HF wq hC).1) Tryz.underlying24 rfl HSA.out ?_
  try simp only [Act.put, Array.getInternal_eq_getElem, List.getElem_toArray, List.getElem_cons_zero, List.getElem_cons_succ, List.setIfInBounds_toArray, List.set_cons_zero, List.set_cons_succ]
  --@5
  refine q_call (by kernel_rfl) (fun wq hC => old_call hC (HCW wq).out) (fun wq => ?_) ?_
  · go_simp <;> (try (with_reducible rfl))
  try simp only [Act.put, Array.getInternal_eq_getElem, List.getElem_toArray, List.getElem_cons_zero, List.getElem_cons_succ, List.setIfInBounds_toArray, List.set_cons_zero, List.set_cons_succ]
  --@6
  refine q_call (by kernel_rfl) (fun wq hC => old_call hC (HCF wq).out) (fun wq => ?_) ?_
  · go_simp <;> (try (with_reducible rfl))
  try simp only [Act.put, Array.getInternal_eq_getElem, List.getElem_toArray, List.getElem_cons_zero, List.getElem_cons_succ, List.setIfInBounds_toArray, List.set_cons_zero, List.set_cons_succ]
  --@7
  refine q_any (by kernel_rfl) ?_ (fun wq hC => ?_) ?_
  rotate_left
  · (have hN := (HN wq).out; go_simp) <;> (try (with_reducible rfl))
  try simp only [Act.put, Array.getInternal_eq_getElem, List.getElem_toArray, List.getElem_cons_zero, List.getElem_cons_succ, List.setIfInBounds_toArray, List.set_cons_zero, List.set_cons_succ]
  refine q_nil ?_
  intro wz kwz
  clear HCW HCF HN HF
  have KZ : Hid (∀ S, Keeps S w wz) := Lib.hid (fun S => (K1.out S).trans (kwz.all S))
  clear kwz
  cases r with
  | true =>
    go_wp2
    try rw [Exit.noGoto_ret]
    go_ret
    exact ⟨by rw [HE.out]; rfl, KZ.out⟩
  | false =>
    go_wp2
    try rw [Exit.noGoto_ret]
    go_ret
    exact ⟨by rw [HE.out]; rfl, KZ.out⟩
end
end Go.Proofs.YtgcdhfpbmcfedaaGreatDoor.pf
end
