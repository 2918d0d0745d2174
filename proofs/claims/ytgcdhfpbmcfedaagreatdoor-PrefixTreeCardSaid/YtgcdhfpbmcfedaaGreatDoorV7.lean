/-
  strings.Cut at one sign, a text of any length. prefix: Read. prefix: whole. A slice literal of aggregates of many cells. Nothing of the program's functions. prefix: add. prefix: Merge. What prefix's calls answer, as plain functions; the program's and the document's answers are both these. Boxes of addresses and prefixes that a call lays and writes. The law package's works. The document's answers of prefix are the same plain functions. How arguments that came in (slices of unsigned numbers, slices of slices of bytes) are told in this proof's words for memory. Arguments of flat types (integers, bools, strings, arrays and structs of such), and slices of them, told in this proof's words for memory. The frame of a row that lists variables with what they hold: the world's shape is handed on, too; what a list gives a walk. Nothing of the program's functions. What the rows of layer 15 list gives the walks; arguments that are addresses, prefixes, texts.
-/
import Derived.BigRegion
import Derived.Great.BuildSlice
import Derived.ProofKit
import Derived.OpenShut
import Derived.SizedLaws
import Derived.Deep.Matrix
import Derived.Deep.Slices
import Derived.Deep.SlicePairs
import Derived.ChangeArms
import Derived.Handed
import Derived.Lay
import Derived.Lib.LaidTab
import Derived.Stop.LaidErr
import Derived.Shelf.Vars
import Derived.LaidLaws
import Derived.LaidMore
import Derived.Stop.Joined
import Derived.Test.YtgcdhfpbmcfedaaGreatDoorRows
import Derived.Test.YtgcdhfpbmcfedaaGreatDoorTie
import Derived.Test.YtgcdhfpbmcfedaaGreatDoorCards
import Derived.SevenTiedAt
import Derived.Test.YtgcdhfpbmcfedaaGreatDoorV6
section
set_option linter.unusedVariables false
set_option linter.unusedSimpArgs false
namespace Go.Proofs.YtgcdhfpbmcfedaaGreatDoor.pf
open Go.RowKit Go.Shelf Go.Proofs.YtgcdhfpbmcfedaaGreatDoor.oc Go.Proofs.YtgcdhfpbmcfedaaGreatDoor.mz Go.Proofs.YtgcdhfpbmcfedaaGreatDoor.wh Go.Proofs.YtgcdhfpbmcfedaaGreatDoor.qk
/-- ahead of a sign, and behind it -/
def cutH (c : Nat) (l : List Nat) : List Nat := match ix c l with | some i => l.take i | none => l
def cutT (c : Nat) (l : List Nat) : List Nat := match ix c l with | some i => l.drop (i + 1) | none => []
section
variable (w : World)
theorem index1_ (l : List Nat) (h : ∀ x ∈ l, x < 256) : Calls Tryz.prog 89 #[.string (str l), .string ⟨#[47]⟩] w fun e w' => e = .returned (.int .i64 (match ix 47 l with | some i => (i : Int) | none => -1)) ∧ w' = w := by
  have := Tryz.stringslite_Index_one (str l) 47 w
  rw [str_list8, show (47 : UInt8) = UInt8.ofNat 47 from rfl, ix_lib 47 (by omega) l h] at this
  exact this
set_option maxRecDepth 100000 in
set_option maxHeartbeats 4000000 in
theorem lcut_none (l : List Nat) (h : ∀ x ∈ l, x < 256) (hi : ix 47 l = none) : Calls Tryz.prog 74 #[.string (str l), .string ⟨#[47]⟩] w fun e w' => e = .returned (.tuple #[.string (str l), .string (str []), .bool false]) ∧ ∀ S, Keeps S w w' := by
  have HI := Lib.hid (index1_ w l h)
  rw [hi] at HI
  have h0 : (⟨#[]⟩ : ByteArray) = str [] := rfl
  generalize str l = s at *
  clear h hi
  go_enter Tryz.func74, Tryz.ntmps74
  go_wp2_with fail
  refine HI.out.mono ?_
  rintro e w2 ⟨rfl, rfl⟩
  go_wp2
  go_ret3
  exact ⟨rfl, fun S => Keeps.refl S _⟩
set_option maxRecDepth 100000 in
set_option maxHeartbeats 4000000 in
theorem lcut_some (l : List Nat) (h : ∀ x ∈ l, x < 256) (hn : l.length < 140737488355328) (i : Nat) (hi : ix 47 l = some i) : Calls Tryz.prog 74 #[.string (str l), .string ⟨#[47]⟩] w fun e w' => e = .returned (.tuple #[.string (str (l.take i)), .string (str (l.drop (i + 1))), .bool true]) ∧ ∀ S, Keeps S w w' := by
  have HI := Lib.hid (index1_ w l h)
  rw [hi] at HI
  obtain ⟨hsp, hil⟩ := spl_some 47 l i hi
  have hst : (str l).extract 0 i = str (l.take i) := by rw [str_extract]; simp
  have hst2 : (str l).extract (i + 1) (str l).size = str (l.drop (i + 1)) := by rw [str_extract, str_size]; congr 1; rw [List.take_of_length_le (by simp)]
  have hil' : (i : Int) ≤ ((str l).size : Int) := by rw [str_size]; omega
  have i0 : (0 : Int) ≤ (i : Int) := by omega
  have i1 : ¬ (i : Int) < 0 := by omega
  have hw0 : wrap64 (i : Int) = (i : Int) := w64s (by omega) (by omega)
  have hw1 : wrap64 ((i : Int) + 1) = (i : Int) + 1 := w64s (by omega) (by omega)
  have hil2 : (i : Int) + 1 ≤ ((str l).size : Int) := by rw [str_size]; omega
  have i2 : (0 : Int) ≤ (i : Int) + 1 := by omega
  have HST := Lib.hid (And.intro hst hst2)
  have h0 : (⟨#[]⟩ : ByteArray) = str [] := rfl
  clear h hi hsp hst hst2 hil hn
  go_enter Tryz.func74, Tryz.ntmps74
  go_wp2_with fail
  refine HI.out.mono ?_
  rintro e w2 ⟨rfl, rfl⟩
  go_wp2
  go_region
  go_wp2
  go_ret3
  exact ⟨by rw [HST.out.1, HST.out.2]; rfl, fun S => by exact Keeps.drew (Keeps.refl S _)⟩
theorem lcut_ (l : List Nat) (h : ∀ x ∈ l, x < 256) (hn : l.length < 140737488355328) : Calls Tryz.prog 74 #[.string (str l), .string ⟨#[47]⟩] w fun e w' => (∃ b, e = .returned (.tuple #[.string (str (cutH 47 l)), .string (str (cutT 47 l)), .bool b])) ∧ ∀ S, Keeps S w w' := by
  unfold cutH cutT
  cases hi : ix 47 l with
  | none => exact (lcut_none w l h hi).mono fun e w' q => ⟨⟨_, q.1⟩, q.2⟩
  | some i => exact (lcut_some w l h hn i hi).mono fun e w' q => ⟨⟨_, q.1⟩, q.2⟩
set_option maxRecDepth 100000 in
set_option maxHeartbeats 4000000 in
theorem cut1_ (l : List Nat) (h : ∀ x ∈ l, x < 256) (hn : l.length < 140737488355328) : Calls Tryz.prog 56 #[.string (str l), .string ⟨#[47]⟩] w fun e w' => (∃ b, e = .returned (.tuple #[.string (str (cutH 47 l)), .string (str (cutT 47 l)), .bool b])) ∧ ∀ S, Keeps S w w' := by
  have HI := Lib.hid (lcut_ w l h hn)
  clear h hn
  go_enter Tryz.func56, Tryz.ntmps56
  go_wp2_with fail
  refine HI.out.mono ?_
  rintro e w2 ⟨⟨b, rfl⟩, k⟩
  have K := Lib.hid k
  clear k
  go_wp2
  go_ret3
  exact ⟨⟨b, rfl⟩, K.out⟩
/-- what Atoi answers -/
def AtAns (l : List Nat) (e : Ending) : Prop := (∃ n : Int, Lib.atoiAll (l.map (fun x => UInt8.ofNat x)) = .ok n ∧ e = .returned (.tuple #[.int .i64 n, .nilIface])) ∨ ((∀ n : Int, Lib.atoiAll (l.map (fun x => UInt8.ofNat x)) ≠ .ok n) ∧ ∃ z T q, e = .returned (.tuple #[.int .i64 z, .iface T (.pointer q)]))
theorem atoi_ (l : List Nat) (hn : l.length < 140737488355328) (henv : Env w) : Calls Tryz.prog 57 #[.string (str l)] w fun e w' => AtAns l e ∧ ∀ S, Keeps S w w' := by
  have hl := str_list8 l
  have hsz := str_size l
  cases h : Lib.atoiAll (l.map (fun x => UInt8.ofNat x))
  case ok v =>
    refine (Tryz.strconv_Atoi_ok (str l) (by omega) v (by rw [hl]; exact h) w).mono ?_
    rintro e w' ⟨rfl, hw⟩
    refine ⟨.inl ⟨v, h, rfl⟩, ?_⟩
    rcases hw with rfl | ⟨t, rfl⟩
    · exact fun S => Keeps.refl S _
    · exact of_below (Lib.bytesWorld_below w 5 t)
  case range =>
    obtain ⟨ev, h1, h2⟩ := henv.rg
    refine (Tryz.strconv_Atoi_range (str l) (by omega) (by rw [hl]; exact h) ev w h1 h2).mono ?_
    rintro e w' ⟨N, rfl, _, _, hb⟩
    exact ⟨.inr ⟨(fun n q => by rw [h] at q; cases q), _, _, _, rfl⟩, of_below hb⟩
  · obtain ⟨ev, h1, h2⟩ := henv.sy
    refine (Tryz.strconv_Atoi_syntax (str l) (by omega) (by rw [hl]; exact h) ev w h1 h2).mono ?_
    rintro e w' ⟨N, rfl, _, _, hb⟩
    exact ⟨.inr ⟨(fun n q => by rw [h] at q; cases q), _, _, _, rfl⟩, of_below hb⟩
end
theorem atoi_dec (n : Nat) (h : n < 256) : Lib.atoiAll ((dec n).map (fun x => UInt8.ofNat x)) = .ok (n : Int) := by
  have : ∀ m : Fin 256, (match Lib.atoiAll ((dec m.val).map (fun x => UInt8.ofNat x)) with | .ok v => v == (m.val : Int) | _ => false) = true := by decide +kernel
  have h1 := this ⟨n, h⟩
  simp only at h1
  cases hc : Lib.atoiAll ((dec n).map (fun x => UInt8.ofNat x))
  case ok v => rw [hc] at h1; simp at h1; rw [h1]
  all_goals (rw [hc] at h1; cases h1)
theorem ix_at {X D : List Nat} (h : ∀ x ∈ X, x ≠ 47) : ix 47 (X ++ 47 :: D) = some X.length := by
  induction X with
  | nil => rfl
  | cons x r ih => rw [List.cons_append, ix, if_neg (h x (by simp)), ih (fun y hy => h y (List.mem_cons_of_mem _ hy))]; rfl
/-- a prefix's text, cut at its stroke -/
theorem IsPText.cut {l : List Nat} {p : Px} (h : IsPText l p) : IsText (cutH 47 l) p.a ∧ Lib.atoiAll ((cutT 47 l).map (fun x => UInt8.ofNat x)) = .ok p.bits := by
  obtain ⟨n, hn, hn2, hn3, hn4⟩ := okP_nat h.2.1
  have hl : l = atext p.a ++ 47 :: dec n := by rw [← h.2.2, ptext, hn2]
  have hi : ix 47 l = some (atext p.a).length := by rw [hl]; exact ix_at (atext_slash h.1)
  unfold cutH cutT
  rw [hi]
  simp only
  constructor
  · rw [hl, List.take_left]; exact ⟨h.1, h.2.1.1, rfl⟩
  · rw [hl, show (atext p.a ++ 47 :: dec n).drop ((atext p.a).length + 1) = dec n from by
      rw [show atext p.a ++ 47 :: dec n = (atext p.a ++ [47]) ++ dec n from by simp, show (atext p.a).length + 1 = (atext p.a ++ [47]).length from by simp, List.drop_left], hn]
    exact atoi_dec n hn4
end Go.Proofs.YtgcdhfpbmcfedaaGreatDoor.pf
end
section
set_option linter.unusedVariables false
set_option linter.unusedSimpArgs false
namespace Go.Proofs.YtgcdhfpbmcfedaaGreatDoor.pf
open Go.RowKit Go.Shelf Go.Proofs.YtgcdhfpbmcfedaaGreatDoor.oc Go.Proofs.YtgcdhfpbmcfedaaGreatDoor.mz Go.Proofs.YtgcdhfpbmcfedaaGreatDoor.wh Go.Proofs.YtgcdhfpbmcfedaaGreatDoor.qk
theorem cutH_mem {c : Nat} {l : List Nat} {x : Nat} (h : x ∈ cutH c l) : x ∈ l := by
  unfold cutH at h
  cases hg : ix c l with
  | none => rw [hg] at h; exact h
  | some j => rw [hg] at h; exact List.mem_of_mem_take h
theorem cutH_le (c : Nat) (l : List Nat) : (cutH c l).length ≤ l.length := by
  unfold cutH
  cases ix c l with
  | none => exact Nat.le_refl _
  | some j => simp only [List.length_take]; omega
theorem cutT_le (c : Nat) (l : List Nat) : (cutT c l).length ≤ l.length := by
  unfold cutT
  cases ix c l with
  | none => simp
  | some j => simp only [List.length_drop]; omega
section
variable (w : World)
set_option maxRecDepth 100000 in
set_option maxHeartbeats 8000000 in
theorem pread_ (l : List Nat) (hl : ∀ x ∈ l, x < 256) (hn : l.length < 140737488355328) (henv : Env w) : Calls Tryz.prog 33 #[.string (str l)] w fun e w' => RdP l e ∧ ∀ S, Keeps S w w' := by
  obtain ⟨w1, hw1, B1, K1⟩ := new_zp w
  have HC := Lib.hid (cut1_ w1 l hl hn)
  have HRA := fun w (h : Env w) => Lib.hid (preadaddr_ w (cutH 47 l) (fun x hx => hl x (cutH_mem hx)) (by have := cutH_le 47 l; omega) h)
  have HAT := fun w (h : Env w) => Lib.hid (atoi_ w (cutT 47 l) (by have := cutT_le 47 l; omega) h)
  obtain ⟨s, hs⟩ : ∃ s, s = str l := ⟨_, rfl⟩
  have HS := Lib.hid (show (∀ x ∈ l, x < 256) ∧ s = str l from ⟨hl, hs⟩)
  rw [← hs] at HC ⊢
  have HE := Lib.hid henv
  have HW := Lib.hid hw1
  have KK1 : Hid (∀ S, Keeps S w w1) := Lib.hid K1
  have BP1 := Lib.hid B1
  generalize str (cutH 47 l) = s1 at *
  generalize str (cutT 47 l) = s2 at *
  clear hw1 K1 B1 hl hn henv hs
  go_enter Tryz.func33, Tryz.ntmps33
  go_wp2_with fail
  rw [← HW.out]
  refine HC.out.mono ?_
  rintro e w2 ⟨⟨bb, rfl⟩, k2⟩
  have K2 : Hid (∀ S, Keeps S w w2) := Lib.hid (fun S => (KK1.out S).trans (k2 S))
  have BP2 := Lib.hid (Blk.keeps BP1.out (k2 (fun _ => False)) (fun z => z))
  have HRA2 := Lib.hid (HRA w2 (HE.out.keeps K2.out)).out
  clear k2 HC HRA
  go_wp2_with fail
  refine HRA2.out.mono ?_
  rintro e w3 ⟨hra, k3⟩
  have K3 : Hid (∀ S, Keeps S w w3) := Lib.hid (fun S => (K2.out S).trans (k3 S))
  have BP3 := Lib.hid (Blk.keeps BP2.out (k3 (fun _ => False)) (fun z => z))
  clear k3 HRA2
  rcases hra with ⟨a, hta, rfl⟩ | ⟨hno, rfl⟩
  · have HTA := Lib.hid hta
    clear hta
    obtain ⟨w4, hw4, B4, K4⟩ := new_zero w3
    obtain ⟨o1, o2, o3, o5, o6⟩ := over_ad HTA.out.1 B4 rfl
    obtain ⟨w5, hw5⟩ : ∃ w5, w5 = w4.setCells w3.heap.size 0 (adc a) := ⟨_, rfl⟩
    rw [← hw5] at o5 o6
    have BP5 := Lib.hid (Blk.keeps (Blk.keeps BP3.out (K4 (fun _ => False)) (fun z => z)) o6 (by have := BP3.out.lt; omega))
    have K5 : Hid (∀ S, Keeps S w w5) := Lib.hid (glue_all (K3.out (fun _ => False)).size (fun S => (K3.out S).trans (K4 S)) o6)
    have HT := Lib.hid (And.intro o1 (And.intro o2 o3))
    have BQ5 := Lib.hid o5
    have HW5 := Lib.hid hw5
    have HAT5 := Lib.hid (HAT w5 (HE.out.keeps K5.out)).out
    unfold av
    subst hw4
    clear o1 o2 o3 o5 o6 B4 K4 hw5 HAT
    generalize hC : adc a = C at *
    have HCC := Lib.hid hC
    clear hC
    go_wp2_with (refine wpList_store_mid rfl 24 _ _ rfl w3.heap.size 0 C.toArray rfl rfl HT.out.1 HT.out.2.1 HT.out.2.2 ?_; rw [← HW5.out])
    refine HAT5.out.mono ?_
    rintro e w6 ⟨hans, k6⟩
    have K6 : Hid (∀ S, Keeps S w w6) := Lib.hid (fun S => (K5.out S).trans (k6 S))
    have BP6 := Lib.hid (Blk.keeps BP5.out (k6 (fun _ => False)) (fun z => z))
    have BQ6 := Lib.hid (Blk.keeps BQ5.out (k6 (fun _ => False)) (fun z => z))
    clear k6 HT HW5 HAT5

    rcases hans with ⟨k, hk, rfl⟩ | ⟨hk, z, T9, q9, rfl⟩
    · have HK := Lib.hid hk
      obtain ⟨v, Bl⟩ := a
      obtain ⟨q0, q1, q2, q3, q4, q5, q6, q7, q8, q9, q10, q11, q12, q13, q14, q15, hq⟩ := sixteen HTA.out.1.len
      simp only at hq
      subst hq
      obtain rfl : C = [.bool v, .int .u8 (q0 : Int), .int .u8 (q1 : Int), .int .u8 (q2 : Int), .int .u8 (q3 : Int), .int .u8 (q4 : Int), .int .u8 (q5 : Int), .int .u8 (q6 : Int), .int .u8 (q7 : Int), .int .u8 (q8 : Int), .int .u8 (q9 : Int), .int .u8 (q10 : Int), .int .u8 (q11 : Int), .int .u8 (q12 : Int), .int .u8 (q13 : Int), .int .u8 (q14 : Int), .int .u8 (q15 : Int)] := HCC.out.symm
      have HLQ := Lib.hid (Blk.range BQ6.out)
      have HUN := Lib.hid (show ∀ (q : Px), IsPText l q → q = ⟨⟨v, [q0, q1, q2, q3, q4, q5, q6, q7, q8, q9, q10, q11, q12, q13, q14, q15]⟩, k⟩ from fun q hq => by
        have e1 := hq.cut.1.uniq HTA.out
        have e2 := hq.cut.2
        rw [HK.out] at e2
        injection e2 with e2
        cases q
        simp only at e1 e2
        rw [e1, ← e2])
      have HSA := Lib.hid (show (Tryz.prog.info? 24).map (·.size) = some ([.bool v, .int .u8 (q0 : Int), .int .u8 (q1 : Int), .int .u8 (q2 : Int), .int .u8 (q3 : Int), .int .u8 (q4 : Int), .int .u8 (q5 : Int), .int .u8 (q6 : Int), .int .u8 (q7 : Int), .int .u8 (q8 : Int), .int .u8 (q9 : Int), .int .u8 (q10 : Int), .int .u8 (q11 : Int), .int .u8 (q12 : Int), .int .u8 (q13 : Int), .int .u8 (q14 : Int), .int .u8 (q15 : Int)] : List Value).length from addr_info)
      have HLP := Lib.hid (Blk.range (Blk.new w6 28 #[.bool v, .int .u8 (q0 : Int), .int .u8 (q1 : Int), .int .u8 (q2 : Int), .int .u8 (q3 : Int), .int .u8 (q4 : Int), .int .u8 (q5 : Int), .int .u8 (q6 : Int), .int .u8 (q7 : Int), .int .u8 (q8 : Int), .int .u8 (q9 : Int), .int .u8 (q10 : Int), .int .u8 (q11 : Int), .int .u8 (q12 : Int), .int .u8 (q13 : Int), .int .u8 (q14 : Int), .int .u8 (q15 : Int), .int .i64 k]))
      have HSP := Lib.hid (show (Tryz.prog.info? 28).map (·.size) = some ([.bool v, .int .u8 (q0 : Int), .int .u8 (q1 : Int), .int .u8 (q2 : Int), .int .u8 (q3 : Int), .int .u8 (q4 : Int), .int .u8 (q5 : Int), .int .u8 (q6 : Int), .int .u8 (q7 : Int), .int .u8 (q8 : Int), .int .u8 (q9 : Int), .int .u8 (q10 : Int), .int .u8 (q11 : Int), .int .u8 (q12 : Int), .int .u8 (q13 : Int), .int .u8 (q14 : Int), .int .u8 (q15 : Int), .int .i64 k] : List Value).length from prefix_info)
      have HTK := Lib.hid (ptext_ (w6.alloc (.cells #[.bool v, .int .u8 (q0 : Int), .int .u8 (q1 : Int), .int .u8 (q2 : Int), .int .u8 (q3 : Int), .int .u8 (q4 : Int), .int .u8 (q5 : Int), .int .u8 (q6 : Int), .int .u8 (q7 : Int), .int .u8 (q8 : Int), .int .u8 (q9 : Int), .int .u8 (q10 : Int), .int .u8 (q11 : Int), .int .u8 (q12 : Int), .int .u8 (q13 : Int), .int .u8 (q14 : Int), .int .u8 (q15 : Int), .int .i64 k] 28)) ⟨⟨v, [q0, q1, q2, q3, q4, q5, q6, q7, q8, q9, q10, q11, q12, q13, q14, q15]⟩, k⟩ HTA.out.1 (HE.out.keeps (fun S => (K6.out S).alloc _)))
      rw [show pv ⟨⟨v, [q0, q1, q2, q3, q4, q5, q6, q7, q8, q9, q10, q11, q12, q13, q14, q15]⟩, k⟩ = .agg #[.bool v, .int .u8 (q0 : Int), .int .u8 (q1 : Int), .int .u8 (q2 : Int), .int .u8 (q3 : Int), .int .u8 (q4 : Int), .int .u8 (q5 : Int), .int .u8 (q6 : Int), .int .u8 (q7 : Int), .int .u8 (q8 : Int), .int .u8 (q9 : Int), .int .u8 (q10 : Int), .int .u8 (q11 : Int), .int .u8 (q12 : Int), .int .u8 (q13 : Int), .int .u8 (q14 : Int), .int .u8 (q15 : Int), .int .i64 k] from rfl] at HTK
      clear hk HCC
      go_wp2_with (first
        | ((with_reducible show wpList _ _ _ (⟨some 37, _, _, _, _, _⟩ :: _) _ _); refine wpList_load_mid rfl 24 _ rfl w3.heap.size 0 rfl [.bool v, .int .u8 (q0 : Int), .int .u8 (q1 : Int), .int .u8 (q2 : Int), .int .u8 (q3 : Int), .int .u8 (q4 : Int), .int .u8 (q5 : Int), .int .u8 (q6 : Int), .int .u8 (q7 : Int), .int .u8 (q8 : Int), .int .u8 (q9 : Int), .int .u8 (q10 : Int), .int .u8 (q11 : Int), .int .u8 (q12 : Int), .int .u8 (q13 : Int), .int .u8 (q14 : Int), .int .u8 (q15 : Int)] _ HLQ.out Tryz.underlying24 rfl HSA.out ?_)
        | ((with_reducible show wpList _ _ _ (⟨some 41, _, _, _, _, _⟩ :: _) _ _); refine wpList_load_mid rfl 28 _ rfl w6.heap.size 0 rfl [.bool v, .int .u8 (q0 : Int), .int .u8 (q1 : Int), .int .u8 (q2 : Int), .int .u8 (q3 : Int), .int .u8 (q4 : Int), .int .u8 (q5 : Int), .int .u8 (q6 : Int), .int .u8 (q7 : Int), .int .u8 (q8 : Int), .int .u8 (q9 : Int), .int .u8 (q10 : Int), .int .u8 (q11 : Int), .int .u8 (q12 : Int), .int .u8 (q13 : Int), .int .u8 (q14 : Int), .int .u8 (q15 : Int), .int .i64 k] _ HLP.out Tryz.underlying28 rfl HSP.out ?_))
      refine HTK.out.mono ?_
      rintro e w7 ⟨hans, k7⟩
      have BP7 := Lib.hid (Blk.keeps (Blk.keeps BP6.out ((Keeps.refl (fun _ => False) w6).alloc _) (fun z => z)) (k7 (fun _ => False)) (fun z => z))
      have BN7 := Lib.hid (Blk.keeps (Blk.new w6 28 #[.bool v, .int .u8 (q0 : Int), .int .u8 (q1 : Int), .int .u8 (q2 : Int), .int .u8 (q3 : Int), .int .u8 (q4 : Int), .int .u8 (q5 : Int), .int .u8 (q6 : Int), .int .u8 (q7 : Int), .int .u8 (q8 : Int), .int .u8 (q9 : Int), .int .u8 (q10 : Int), .int .u8 (q11 : Int), .int .u8 (q12 : Int), .int .u8 (q13 : Int), .int .u8 (q14 : Int), .int .u8 (q15 : Int), .int .i64 k]) (k7 (fun _ => False)) (fun z => z))
      have K7 : Hid (∀ S, Keeps S w w7) := Lib.hid (fun S => ((K6.out S).alloc _).trans (k7 S))
      clear k7 HTK HLP HLQ K6 BP6 BQ6
      rcases hans with ⟨ho, rfl⟩ | ⟨ho, rfl⟩
      · by_cases ht : ptext ⟨⟨v, [q0, q1, q2, q3, q4, q5, q6, q7, q8, q9, q10, q11, q12, q13, q14, q15]⟩, k⟩ = l
        · have HY := Lib.hid (show IsPText l ⟨⟨v, [q0, q1, q2, q3, q4, q5, q6, q7, q8, q9, q10, q11, q12, q13, q14, q15]⟩, k⟩ from ⟨HTA.out.1, ho, ht⟩)
          have hts : str (ptext ⟨⟨v, [q0, q1, q2, q3, q4, q5, q6, q7, q8, q9, q10, q11, q12, q13, q14, q15]⟩, k⟩) = s := by rw [ht, HS.out.2]
          rw [hts]
          have hz := over_px (c := ⟨⟨v, [q0, q1, q2, q3, q4, q5, q6, q7, q8, q9, q10, q11, q12, q13, q14, q15]⟩, k⟩) HTA.out.1 BP7.out rfl
          rw [show pxc ⟨⟨v, [q0, q1, q2, q3, q4, q5, q6, q7, q8, q9, q10, q11, q12, q13, q14, q15]⟩, k⟩ = [.bool v, .int .u8 (q0 : Int), .int .u8 (q1 : Int), .int .u8 (q2 : Int), .int .u8 (q3 : Int), .int .u8 (q4 : Int), .int .u8 (q5 : Int), .int .u8 (q6 : Int), .int .u8 (q7 : Int), .int .u8 (q8 : Int), .int .u8 (q9 : Int), .int .u8 (q10 : Int), .int .u8 (q11 : Int), .int .u8 (q12 : Int), .int .u8 (q13 : Int), .int .u8 (q14 : Int), .int .u8 (q15 : Int), .int .i64 k] from rfl] at hz
          have HZ := Lib.hid hz
          have KZ := Lib.hid (glue_all (Nat.le_refl _) K7.out hz.2.2.2.2)
          have HL7 := Lib.hid (Blk.range BN7.out)
          clear hz ho ht hts
          go_wp2_with (first
            | ((with_reducible show wpList _ _ _ (⟨some 53, _, _, _, _, _⟩ :: _) _ _); refine wpList_load_mid rfl 28 _ rfl w6.heap.size 0 rfl [.bool v, .int .u8 (q0 : Int), .int .u8 (q1 : Int), .int .u8 (q2 : Int), .int .u8 (q3 : Int), .int .u8 (q4 : Int), .int .u8 (q5 : Int), .int .u8 (q6 : Int), .int .u8 (q7 : Int), .int .u8 (q8 : Int), .int .u8 (q9 : Int), .int .u8 (q10 : Int), .int .u8 (q11 : Int), .int .u8 (q12 : Int), .int .u8 (q13 : Int), .int .u8 (q14 : Int), .int .u8 (q15 : Int), .int .i64 k] _ HL7.out Tryz.underlying28 rfl HSP.out ?_)
            | (refine wpList_store_mid rfl 28 _ _ rfl w.heap.size 0 #[.bool v, .int .u8 (q0 : Int), .int .u8 (q1 : Int), .int .u8 (q2 : Int), .int .u8 (q3 : Int), .int .u8 (q4 : Int), .int .u8 (q5 : Int), .int .u8 (q6 : Int), .int .u8 (q7 : Int), .int .u8 (q8 : Int), .int .u8 (q9 : Int), .int .u8 (q10 : Int), .int .u8 (q11 : Int), .int .u8 (q12 : Int), .int .u8 (q13 : Int), .int .u8 (q14 : Int), .int .u8 (q15 : Int), .int .i64 k] rfl rfl HZ.out.1 HZ.out.2.1 HZ.out.2.2.1 ?_))
          try rw [Exit.noGoto_ret]
          refine bodyPost_ret (wh.ret_cell (p := 2) (u := 3) (ty := 28) (by kernel_rfl) _ _ _ w.heap.size _ _ _ (by rfl) HZ.out.2.2.2.1 Tryz.underlying28 rfl prefix_info) rfl ?_
          exact ⟨.inl ⟨_, HY.out, rfl⟩, KZ.out⟩
        · have hne : ¬ (str (ptext ⟨⟨v, [q0, q1, q2, q3, q4, q5, q6, q7, q8, q9, q10, q11, q12, q13, q14, q15]⟩, k⟩)).toList = s.toList := by rw [HS.out.2]; exact str_ne (ptext_lt HTA.out.1 ho) HS.out.1 ht
          have HNT := Lib.hid ht
          generalize str (ptext ⟨⟨v, [q0, q1, q2, q3, q4, q5, q6, q7, q8, q9, q10, q11, q12, q13, q14, q15]⟩, k⟩) = t at *
          have hnb : (t.toList == s.toList) = false := by rw [beq_eq_false_iff_ne]; exact hne
          clear ho ht hne
          have HNO : Hid (∀ p, ¬ IsPText l p) := Lib.hid (fun q hq => by have e := HUN.out q hq; rw [e] at hq; exact HNT.out hq.2.2)
          have hz := over_px zeroP_wf BP7.out rfl
          rw [zeroP_cells] at hz
          have HZ := Lib.hid hz
          have KZ := Lib.hid (glue_all (Nat.le_refl _) K7.out hz.2.2.2.2)
          clear hz
          go_wp2_with (first 
            | (refine wpList_store_mid rfl 28 _ _ rfl w.heap.size 0 #[.bool false, .int .u8 0, .int .u8 0, .int .u8 0, .int .u8 0, .int .u8 0, .int .u8 0, .int .u8 0, .int .u8 0, .int .u8 0, .int .u8 0, .int .u8 0, .int .u8 0, .int .u8 0, .int .u8 0, .int .u8 0, .int .u8 0, .int .i64 0] rfl rfl HZ.out.1 HZ.out.2.1 HZ.out.2.2.1 ?_))
          try rw [Exit.noGoto_ret]
          refine bodyPost_ret (wh.ret_cell (p := 2) (u := 3) (ty := 28) (by kernel_rfl) _ _ _ w.heap.size _ _ _ (by rfl) HZ.out.2.2.2.1 Tryz.underlying28 rfl prefix_info) rfl ?_
          exact ⟨.inr ⟨HNO.out, rfl⟩, KZ.out⟩

      · have HNK := Lib.hid ho
        clear ho
        have HNO : Hid (∀ p, ¬ IsPText l p) := Lib.hid (fun q hq => by have e := HUN.out q hq; rw [e] at hq; exact HNK.out hq.2.1)
        have hz := over_px zeroP_wf BP7.out rfl
        rw [zeroP_cells] at hz
        have HZ := Lib.hid hz
        have KZ := Lib.hid (glue_all (Nat.le_refl _) K7.out hz.2.2.2.2)
        clear hz
        go_wp2_with (first 
          | (refine wpList_store_mid rfl 28 _ _ rfl w.heap.size 0 #[.bool false, .int .u8 0, .int .u8 0, .int .u8 0, .int .u8 0, .int .u8 0, .int .u8 0, .int .u8 0, .int .u8 0, .int .u8 0, .int .u8 0, .int .u8 0, .int .u8 0, .int .u8 0, .int .u8 0, .int .u8 0, .int .u8 0, .int .i64 0] rfl rfl HZ.out.1 HZ.out.2.1 HZ.out.2.2.1 ?_))
        try rw [Exit.noGoto_ret]
        refine bodyPost_ret (wh.ret_cell (p := 2) (u := 3) (ty := 28) (by kernel_rfl) _ _ _ w.heap.size _ _ _ (by rfl) HZ.out.2.2.2.1 Tryz.underlying28 rfl prefix_info) rfl ?_
        exact ⟨.inr ⟨HNO.out, rfl⟩, KZ.out⟩

    · have HK := Lib.hid hk
      clear hk
      have HNO : Hid (∀ p, ¬ IsPText l p) := Lib.hid (fun q hq => HK.out _ hq.cut.2)
      have hz := over_px zeroP_wf BP6.out rfl
      rw [zeroP_cells] at hz
      have HZ := Lib.hid hz
      have KZ := Lib.hid (glue_all (Nat.le_refl _) K6.out hz.2.2.2.2)
      clear hz
      go_wp2_with (first 
        | (refine wpList_store_mid rfl 28 _ _ rfl w.heap.size 0 #[.bool false, .int .u8 0, .int .u8 0, .int .u8 0, .int .u8 0, .int .u8 0, .int .u8 0, .int .u8 0, .int .u8 0, .int .u8 0, .int .u8 0, .int .u8 0, .int .u8 0, .int .u8 0, .int .u8 0, .int .u8 0, .int .u8 0, .int .i64 0] rfl rfl HZ.out.1 HZ.out.2.1 HZ.out.2.2.1 ?_))
      try rw [Exit.noGoto_ret]
      refine bodyPost_ret (wh.ret_cell (p := 2) (u := 3) (ty := 28) (by kernel_rfl) _ _ _ w.heap.size _ _ _ (by rfl) HZ.out.2.2.2.1 Tryz.underlying28 rfl prefix_info) rfl ?_
      exact ⟨.inr ⟨HNO.out, rfl⟩, KZ.out⟩

  · have HNA := Lib.hid hno
    clear hno
    obtain ⟨w4, hw4, B4, K4⟩ := new_zero w3
    obtain ⟨o1, o2, o3, o5, o6⟩ := over_ad zeroA_wf B4 rfl
    obtain ⟨w5, hw5⟩ : ∃ w5, w5 = w4.setCells w3.heap.size 0 (adc zeroA) := ⟨_, rfl⟩
    rw [← hw5] at o5 o6
    have BP5 := Lib.hid (Blk.keeps (Blk.keeps BP3.out (K4 (fun _ => False)) (fun z => z)) o6 (by have := BP3.out.lt; omega))
    have K5 : Hid (∀ S, Keeps S w w5) := Lib.hid (glue_all (K3.out (fun _ => False)).size (fun S => (K3.out S).trans (K4 S)) o6)
    have HT := Lib.hid (And.intro o1 (And.intro o2 o3))
    have BQ5 := Lib.hid o5
    have HW5 := Lib.hid hw5
    have HAT5 := Lib.hid (HAT w5 (HE.out.keeps K5.out)).out
    unfold av
    subst hw4
    clear o1 o2 o3 o5 o6 B4 K4 hw5 HAT
    generalize hC : adc zeroA = C at *
    have HCC := Lib.hid hC
    clear hC
    go_wp2_with (refine wpList_store_mid rfl 24 _ _ rfl w3.heap.size 0 C.toArray rfl rfl HT.out.1 HT.out.2.1 HT.out.2.2 ?_; rw [← HW5.out])
    refine HAT5.out.mono ?_
    rintro e w6 ⟨hans, k6⟩
    have K6 : Hid (∀ S, Keeps S w w6) := Lib.hid (fun S => (K5.out S).trans (k6 S))
    have BP6 := Lib.hid (Blk.keeps BP5.out (k6 (fun _ => False)) (fun z => z))
    have BQ6 := Lib.hid (Blk.keeps BQ5.out (k6 (fun _ => False)) (fun z => z))
    clear k6 HT HW5 HAT5

    rcases hans with ⟨k, hk, rfl⟩ | ⟨hk, z, T9, q9, rfl⟩
    · clear hk
      have HNO : Hid (∀ p, ¬ IsPText l p) := Lib.hid (fun q hq => HNA.out _ hq.cut.1)
      have hz := over_px zeroP_wf BP6.out rfl
      rw [zeroP_cells] at hz
      have HZ := Lib.hid hz
      have KZ := Lib.hid (glue_all (Nat.le_refl _) K6.out hz.2.2.2.2)
      clear hz
      go_wp2_with (first 
        | (refine wpList_store_mid rfl 28 _ _ rfl w.heap.size 0 #[.bool false, .int .u8 0, .int .u8 0, .int .u8 0, .int .u8 0, .int .u8 0, .int .u8 0, .int .u8 0, .int .u8 0, .int .u8 0, .int .u8 0, .int .u8 0, .int .u8 0, .int .u8 0, .int .u8 0, .int .u8 0, .int .u8 0, .int .i64 0] rfl rfl HZ.out.1 HZ.out.2.1 HZ.out.2.2.1 ?_))
      try rw [Exit.noGoto_ret]
      refine bodyPost_ret (wh.ret_cell (p := 2) (u := 3) (ty := 28) (by kernel_rfl) _ _ _ w.heap.size _ _ _ (by rfl) HZ.out.2.2.2.1 Tryz.underlying28 rfl prefix_info) rfl ?_
      exact ⟨.inr ⟨HNO.out, rfl⟩, KZ.out⟩

    · clear hk
      have HNO : Hid (∀ p, ¬ IsPText l p) := Lib.hid (fun q hq => HNA.out _ hq.cut.1)
      have hz := over_px zeroP_wf BP6.out rfl
      rw [zeroP_cells] at hz
      have HZ := Lib.hid hz
      have KZ := Lib.hid (glue_all (Nat.le_refl _) K6.out hz.2.2.2.2)
      clear hz
      go_wp2_with (first 
        | (refine wpList_store_mid rfl 28 _ _ rfl w.heap.size 0 #[.bool false, .int .u8 0, .int .u8 0, .int .u8 0, .int .u8 0, .int .u8 0, .int .u8 0, .int .u8 0, .int .u8 0, .int .u8 0, .int .u8 0, .int .u8 0, .int .u8 0, .int .u8 0, .int .u8 0, .int .u8 0, .int .u8 0, .int .i64 0] rfl rfl HZ.out.1 HZ.out.2.1 HZ.out.2.2.1 ?_))
      try rw [Exit.noGoto_ret]
      refine bodyPost_ret (wh.ret_cell (p := 2) (u := 3) (ty := 28) (by kernel_rfl) _ _ _ w.heap.size _ _ _ (by rfl) HZ.out.2.2.2.1 Tryz.underlying28 rfl prefix_info) rfl ?_
      exact ⟨.inr ⟨HNO.out, rfl⟩, KZ.out⟩

end
end Go.Proofs.YtgcdhfpbmcfedaaGreatDoor.pf
end
section
set_option linter.unusedVariables false
set_option linter.unusedSimpArgs false
namespace Go.Proofs.YtgcdhfpbmcfedaaGreatDoor.pf
open Go.RowKit Go.Shelf Go.Proofs.YtgcdhfpbmcfedaaGreatDoor.oc Go.Proofs.YtgcdhfpbmcfedaaGreatDoor.mz Go.Proofs.YtgcdhfpbmcfedaaGreatDoor.wh Go.Proofs.YtgcdhfpbmcfedaaGreatDoor.qk
theorem boxes3 (w : World) (c1 c2 c3 : List Value) (t1 t2 t3 : TypeId) : ∃ w1, w1 = ((w.alloc (.cells c1.toArray t1)).alloc (.cells c2.toArray t2)).alloc (.cells c3.toArray t3) ∧ (∀ S, Keeps S w w1) ∧ Blk w1 w.heap.size t1 c1 ∧ Blk w1 (w.heap.size + 1) t2 c2 ∧ Blk w1 (w.heap.size + 1 + 1) t3 c3 := by
  refine ⟨_, rfl, fun S => (((Keeps.refl S w).alloc _).alloc _).alloc _, ((Blk.new w t1 c1.toArray).alloc _).alloc _, ?_, ?_⟩
  · have := (Blk.new (w.alloc (.cells c1.toArray t1)) t2 c2.toArray).alloc (.cells c3.toArray t3)
    rw [World.size_alloc] at this
    exact this
  · have := Blk.new ((w.alloc (.cells c1.toArray t1)).alloc (.cells c2.toArray t2)) t3 c3.toArray
    rw [World.size_alloc, World.size_alloc] at this
    exact this
section
variable (w : World)

set_option maxRecDepth 100000 in
set_option maxHeartbeats 8000000 in
theorem whole_zero (a b : Px) (ha : a.a.Wf) (hb : b.a.Wf) (ho : okP a) (hbits : a.bits = 0) : Calls Tryz.prog 80 #[pv a, pv b] w fun e w' => e = .returned (.tuple #[pv (whole a b).1, .bool (whole a b).2]) ∧ ∀ S, Keeps S w w' := by
  obtain ⟨w1, hw1, k1, bA, bB, bR⟩ := boxes3 w (pxc a) (pxc b) [.bool false, .int .u8 0, .int .u8 0, .int .u8 0, .int .u8 0, .int .u8 0, .int .u8 0, .int .u8 0, .int .u8 0, .int .u8 0, .int .u8 0, .int .u8 0, .int .u8 0, .int .u8 0, .int .u8 0, .int .u8 0, .int .u8 0, .int .i64 0] 28 28 28
  have HF : Hid (w1.rangeAt w.heap.size 0 (adc a.a) ∧ w1.cell? ⟨w.heap.size, 17, none⟩ = some (.int .i64 (0))) := Lib.hid ⟨px_addr ha bA, by have := px_bits ha bA; rw [hbits] at this; exact this⟩
  have HSA := Lib.hid (ad_sz ha)
  have HSPA := Lib.hid (px_sz ha)
  have HSPB := Lib.hid (px_sz hb)
  have HW := Lib.hid hw1
  have K1 : Hid (∀ S, Keeps S w w1) := Lib.hid k1
  have BA1 := Lib.hid bA
  have BB1 := Lib.hid bB
  have BR1 := Lib.hid bR
  clear hw1 k1 bA bB bR
  have HOF := fun w => Lib.hid (pof_neg w a.a (-1) ha ho.1 (by omega))
  rw [show whole a b = (zeroP, false) from by unfold whole; rw [if_pos hbits]]
  have x17 := HF.out.2
  have HB1 := Lib.hid HF.out
  have HZP := Lib.hid (show (Value.agg (pxc zeroP).toArray) = .agg #[.bool false, .int .u8 0, .int .u8 0, .int .u8 0, .int .u8 0, .int .u8 0, .int .u8 0, .int .u8 0, .int .u8 0, .int .u8 0, .int .u8 0, .int .u8 0, .int .u8 0, .int .u8 0, .int .u8 0, .int .u8 0, .int .u8 0, .int .i64 0] from by rw [zeroP_cells])
  unfold pv at HOF ⊢
  unfold av at HOF
  clear ho hbits ha hb
  generalize adc a.a = CAd at *
  generalize pxc a = CA at *
  generalize pxc b = CB at *
  go_enter Tryz.func80, Tryz.ntmps80
  go_wp2_with (first | (rw [← HW.out]; refine wpList_load_mid rfl 24 _ rfl w.heap.size 0 rfl CAd _ HB1.out.1 Tryz.underlying24 rfl HSA.out ?_))
  refine (HOF _).out.mono ?_
  rintro e w2 ⟨rfl, k2⟩
  have K2 : Hid (∀ S, Keeps S w w2) := Lib.hid (fun S => (K1.out S).trans (k2 S))
  have BR2 := Lib.hid (Blk.keeps BR1.out (k2 (fun _ => False)) (fun z => z))
  clear k2 HOF
  have HRL := Lib.hid (show w.heap.size + 1 + 1 < w2.heap.size from BR2.out.lt)
  obtain ⟨w3, hw3, B3, K3⟩ := new_zp w2
  obtain ⟨o1, o2, o3, o5, o6⟩ := over_px zeroP_wf B3 rfl
  obtain ⟨w4, hw4⟩ : ∃ w4, w4 = w3.setCells w2.heap.size 0 (pxc zeroP) := ⟨_, rfl⟩
  rw [← hw4] at o5 o6
  have BR4 := Lib.hid (Blk.keeps (Blk.keeps BR2.out (K3 (fun _ => False)) (fun z => z)) o6 (by have := HRL.out; omega))
  have K4 : Hid (∀ S, Keeps S w w4) := Lib.hid (glue_all (by have := HRL.out; omega) (fun S => (K2.out S).trans (K3 S)) o6)
  have HT := Lib.hid (And.intro o1 (And.intro o2 o3))
  have BX4 := Lib.hid o5
  have HW4 := Lib.hid hw4
  have KO4 := Lib.hid ((K3 (· = w2.heap.size)).trans o6)
  subst hw3
  clear o1 o2 o3 o5 o6 B3 K3 hw4
  generalize pxc zeroP = CX at *
  have hz := over_px zeroP_wf BR4.out rfl
  rw [zeroP_cells] at hz
  have HZ := Lib.hid hz
  have KZ := Lib.hid (glue_all (by show w.heap.size ≤ w.heap.size + 1 + 1; omega) K4.out hz.2.2.2.2)
  clear hz
  go_wp2_with (first
    | (refine wpList_store_mid rfl 28 _ _ rfl w2.heap.size 0 CX.toArray rfl rfl HT.out.1 HT.out.2.1 HT.out.2.2 ?_; rw [← HW4.out])
    | (refine wpList_store_mid rfl 28 _ _ rfl (w.heap.size + 1 + 1) 0 #[.bool false, .int .u8 0, .int .u8 0, .int .u8 0, .int .u8 0, .int .u8 0, .int .u8 0, .int .u8 0, .int .u8 0, .int .u8 0, .int .u8 0, .int .u8 0, .int .u8 0, .int .u8 0, .int .u8 0, .int .u8 0, .int .u8 0, .int .i64 0] rfl rfl HZ.out.1 HZ.out.2.1 HZ.out.2.2.1 ?_))
  try rw [Exit.noGoto_ret]
  refine bodyPost_ret (wh.ret_cell (p := 4) (u := 5) (ty := 28) (by kernel_rfl) _ _ _ (w.heap.size + 1 + 1) _ _ _ (by rfl) HZ.out.2.2.2.1 Tryz.underlying28 rfl prefix_info) rfl ?_
  exact ⟨by rw [HZP.out]; rfl, KZ.out⟩

set_option maxRecDepth 100000 in
set_option maxHeartbeats 8000000 in
theorem whole_in (a b : Px) (ha : a.a.Wf) (hb : b.a.Wf) (ho : okP a) (m : Nat) (hbits : a.bits = (m : Int) + 1) : Calls Tryz.prog 80 #[pv a, pv b] w fun e w' => e = .returned (.tuple #[pv (whole a b).1, .bool (whole a b).2]) ∧ ∀ S, Keeps S w w' := by
  obtain ⟨w1, hw1, k1, bA, bB, bR⟩ := boxes3 w (pxc a) (pxc b) [.bool false, .int .u8 0, .int .u8 0, .int .u8 0, .int .u8 0, .int .u8 0, .int .u8 0, .int .u8 0, .int .u8 0, .int .u8 0, .int .u8 0, .int .u8 0, .int .u8 0, .int .u8 0, .int .u8 0, .int .u8 0, .int .u8 0, .int .i64 0] 28 28 28
  have HF : Hid (w1.rangeAt w.heap.size 0 (adc a.a) ∧ w1.cell? ⟨w.heap.size, 17, none⟩ = some (.int .i64 ((m : Int) + 1))) := Lib.hid ⟨px_addr ha bA, by have := px_bits ha bA; rw [hbits] at this; exact this⟩
  have HSA := Lib.hid (ad_sz ha)
  have HSPA := Lib.hid (px_sz ha)
  have HSPB := Lib.hid (px_sz hb)
  have HW := Lib.hid hw1
  have K1 : Hid (∀ S, Keeps S w w1) := Lib.hid k1
  have BA1 := Lib.hid bA
  have BB1 := Lib.hid bB
  have BR1 := Lib.hid bR
  clear hw1 k1 bA bB bR
  have hm : m + 1 ≤ wid a.a ∧ wid a.a ≤ 128 := ⟨by have := ho.2.1.2; omega, (wid_le a.a).1⟩
  have HOF := fun w => Lib.hid (pof_in w a.a (m : Int) ha m rfl ho.1 (by omega))
  obtain ⟨x, hx⟩ : ∃ x, x = ofP a.a m := ⟨_, rfl⟩
  have hxw : x.a.Wf := by rw [hx]; exact clr_wf ha m
  have hxo : okP x := by rw [hx]; exact ofP_ok ha ho.1 m (by omega)
  have hxb : ¬ x.bits = (wid x.a : Int) := by
    rw [hx]
    show ¬ (m : Int) = (wid (clr a.a m) : Int)
    have : wid (clr a.a m) = wid a.a := rfl
    omega
  rw [← hx] at HOF
  have HHV := fun w => Lib.hid (phalves_in w x hxw hxo hxb)
  rw [show whole a b = (x, decide (a = half0 x) && decide (b = half1 x)) from by unfold whole; rw [if_neg (by omega), show a.bits.toNat - 1 = m from by omega, ← hx]]
  obtain ⟨y, hy⟩ : ∃ y, y = half0 x := ⟨_, rfl⟩
  obtain ⟨z, hz⟩ : ∃ z, z = half1 x := ⟨_, rfl⟩
  have hyw : y.a.Wf := by rw [hy]; exact hxw
  have hzw : z.a.Wf := by rw [hz]; exact put_wf hxw _ (by have := hxo.2.1; have := (wid_le x.a).1; omega) true
  rw [← hy, ← hz] at HHV ⊢
  have HE1 := fun w => px_eql a y ha hyw w
  have HE2 := fun w => px_eql b z hb hzw w
  have HXW := Lib.hid hxw
  have HYZ := Lib.hid (And.intro hyw hzw)
  have HSX := Lib.hid (px_sz hxw)
  have HSY := Lib.hid (px_sz hyw)
  have HSZ := Lib.hid (px_sz hzw)
  have hw1 : wrap64 ((m : Int) + 1 - 1) = (m : Int) := by unfold wrap64; omega
  have hw2 : wrap64 (m : Int) = (m : Int) := by unfold wrap64; omega
  have m0 : (0 : Int) ≤ (m : Int) := by omega
  have m1 : (m : Int) ≤ 128 := by omega
  have x17 := HF.out.2
  have HB1 := Lib.hid HF.out
  unfold pv at HOF HHV HE1 HE2 ⊢
  unfold av at HOF
  generalize (decide (a = y)) = e1 at *
  generalize (decide (b = z)) = e2 at *
  clear ho hbits ha hb hx hxw hxo hxb hy hz hyw hzw hm
  generalize adc a.a = CAd at *
  generalize pxc a = CA at *
  generalize pxc b = CB at *
  go_enter Tryz.func80, Tryz.ntmps80
  go_wp2_with (first | (rw [← HW.out]; refine wpList_load_mid rfl 24 _ rfl w.heap.size 0 rfl CAd _ HB1.out.1 Tryz.underlying24 rfl HSA.out ?_))
  refine (HOF _).out.mono ?_
  rintro e w2 ⟨rfl, k2⟩
  have K2 : Hid (∀ S, Keeps S w w2) := Lib.hid (fun S => (K1.out S).trans (k2 S))
  have BA2 := Lib.hid (Blk.keeps BA1.out (k2 (fun _ => False)) (fun z => z))
  have BB2 := Lib.hid (Blk.keeps BB1.out (k2 (fun _ => False)) (fun z => z))
  have BR2 := Lib.hid (Blk.keeps BR1.out (k2 (fun _ => False)) (fun z => z))
  clear k2 HOF
  have HRL := Lib.hid (show w.heap.size + 1 + 1 < w2.heap.size from BR2.out.lt)
  obtain ⟨w3, hw3, B3, K3⟩ := new_zp w2
  obtain ⟨o1, o2, o3, o5, o6⟩ := over_px HXW.out B3 rfl
  obtain ⟨w4, hw4⟩ : ∃ w4, w4 = w3.setCells w2.heap.size 0 (pxc x) := ⟨_, rfl⟩
  rw [← hw4] at o5 o6
  have BR4 := Lib.hid (Blk.keeps (Blk.keeps BR2.out (K3 (fun _ => False)) (fun z => z)) o6 (by have := HRL.out; omega))
  have K4 : Hid (∀ S, Keeps S w w4) := Lib.hid (glue_all (by have := HRL.out; omega) (fun S => (K2.out S).trans (K3 S)) o6)
  have HT := Lib.hid (And.intro o1 (And.intro o2 o3))
  have BX4 := Lib.hid o5
  have HW4 := Lib.hid hw4
  have KO4 := Lib.hid ((K3 (· = w2.heap.size)).trans o6)
  subst hw3
  clear o1 o2 o3 o5 o6 B3 K3 hw4
  have BA4 := Lib.hid (Blk.keeps BA2.out KO4.out (by have := HRL.out; omega))
  have BB4 := Lib.hid (Blk.keeps BB2.out KO4.out (by have := HRL.out; omega))
  generalize hCX : pxc x = CX at *
  have HCX := Lib.hid hCX
  clear hCX
  have HLX := Lib.hid (Blk.range BX4.out)
  go_wp2_with (first
    | (refine wpList_store_mid rfl 28 _ _ rfl w2.heap.size 0 CX.toArray rfl rfl HT.out.1 HT.out.2.1 HT.out.2.2 ?_; rw [← HW4.out])
    | (refine wpList_load_mid rfl 28 _ rfl w2.heap.size 0 rfl CX _ HLX.out Tryz.underlying28 rfl HSX.out ?_))
  refine (HHV _).out.mono ?_
  rintro e w5 ⟨rfl, k5⟩
  have K5 : Hid (∀ S, Keeps S w w5) := Lib.hid (fun S => (K4.out S).trans (k5 S))
  have HR5 := Lib.hid (show w2.heap.size < w5.heap.size ∧ w.heap.size + 1 + 1 < w2.heap.size from ⟨(Blk.keeps BX4.out (k5 (fun _ => False)) (fun z => z)).lt, HRL.out⟩)
  obtain ⟨w6, hw6, k6, bY, bZ⟩ := box_two w5 [.bool false, .int .u8 0, .int .u8 0, .int .u8 0, .int .u8 0, .int .u8 0, .int .u8 0, .int .u8 0, .int .u8 0, .int .u8 0, .int .u8 0, .int .u8 0, .int .u8 0, .int .u8 0, .int .u8 0, .int .u8 0, .int .u8 0, .int .i64 0] [.bool false, .int .u8 0, .int .u8 0, .int .u8 0, .int .u8 0, .int .u8 0, .int .u8 0, .int .u8 0, .int .u8 0, .int .u8 0, .int .u8 0, .int .u8 0, .int .u8 0, .int .u8 0, .int .u8 0, .int .u8 0, .int .u8 0, .int .i64 0] 28 28
  obtain ⟨p1, p2, p3, p5, p6⟩ := over_px HYZ.out.1 bY rfl
  obtain ⟨w7, hw7⟩ : ∃ w7, w7 = w6.setCells w5.heap.size 0 (pxc y) := ⟨_, rfl⟩
  rw [← hw7] at p5 p6
  obtain ⟨r1, r2, r3, r5, r6⟩ := over_px HYZ.out.2 (Blk.keeps bZ p6 (by omega)) rfl
  obtain ⟨w8, hw8⟩ : ∃ w8, w8 = w7.setCells (w5.heap.size + 1) 0 (pxc z) := ⟨_, rfl⟩
  rw [← hw8] at r5 r6
  have KO8 : Keeps (fun b => w5.heap.size ≤ b) w5 w8 := ((k6 _).trans (p6.mono (fun b _ e => by omega))).trans (r6.mono (fun b _ e => by omega))
  have BX8 := Lib.hid (Blk.keeps (Blk.keeps BX4.out (k5 (fun _ => False)) (fun z => z)) KO8 (by have := HR5.out; omega))
  have BA8 := Lib.hid (Blk.keeps (Blk.keeps BA4.out (k5 (fun _ => False)) (fun z => z)) KO8 (by have := HR5.out; omega))
  have BB8 := Lib.hid (Blk.keeps (Blk.keeps BB4.out (k5 (fun _ => False)) (fun z => z)) KO8 (by have := HR5.out; omega))
  have BR8 := Lib.hid (Blk.keeps (Blk.keeps BR4.out (k5 (fun _ => False)) (fun z => z)) KO8 (by have := HR5.out; omega))
  have BY8 := Lib.hid (Blk.keeps p5 r6 (by omega))
  have BZ8 := Lib.hid r5
  have K8 : Hid (∀ S, Keeps S w w8) := Lib.hid (fun S => by
    have kk := K5.out S
    exact ⟨Nat.le_trans kk.size KO8.size, fun x hx hs => by rw [KO8.block x (Nat.lt_of_lt_of_le hx kk.size) (by have := kk.size; omega), kk.block x hx hs], kk.same.trans KO8.same⟩)
  have HTY := Lib.hid (And.intro p1 (And.intro p2 p3))
  have HTZ := Lib.hid (And.intro r1 (And.intro r2 r3))
  have HW7 := Lib.hid hw7
  have HW8 := Lib.hid hw8
  have hz9 := over_px HXW.out BR8.out.drew rfl
  rw [HCX.out] at hz9
  obtain ⟨w9, hw9⟩ : ∃ w9, w9 = w8.drew.setCells (w.heap.size + 1 + 1) 0 CX := ⟨_, rfl⟩
  rw [← hw9] at hz9
  have HT9 := Lib.hid (And.intro hz9.1 (And.intro hz9.2.1 hz9.2.2.1))
  have B9 := Lib.hid hz9.2.2.2.1
  have HW9 := Lib.hid hw9
  have K9 := Lib.hid (glue_all (by omega) (fun S => (K8.out S).drew) hz9.2.2.2.2)
  generalize hCY : pxc y = CY at *
  generalize hCZ : pxc z = CZ at *
  have HK9 : Hid ((fun w' => w'.rangeAt w2.heap.size 0 CX ∧ w'.rangeAt w.heap.size 0 CA ∧ w'.rangeAt w5.heap.size 0 CY ∧ w'.rangeAt (w.heap.size + 1) 0 CB ∧ w'.rangeAt (w5.heap.size + 1) 0 CZ) w9) := Lib.hid ⟨wh.Blk.range (Blk.keeps BX8.out.drew hz9.2.2.2.2 (by have := HR5.out; omega)), wh.Blk.range (Blk.keeps BA8.out.drew hz9.2.2.2.2 (by omega)), wh.Blk.range (Blk.keeps BY8.out.drew hz9.2.2.2.2 (by have := HR5.out; omega)), wh.Blk.range (Blk.keeps BB8.out.drew hz9.2.2.2.2 (by omega)), wh.Blk.range (Blk.keeps BZ8.out.drew hz9.2.2.2.2 (by have := HR5.out; omega))⟩
  subst hw6
  clear k5 k6 bY bZ p1 p2 p3 p5 p6 r1 r2 r3 r5 r6 hw7 hw8 hz9 hw9 hCY hCZ KO8 HHV
  go_wp2_with (first
    | (refine wpList_store_mid rfl 28 _ _ rfl w5.heap.size 0 CY.toArray rfl rfl HTY.out.1 HTY.out.2.1 HTY.out.2.2 ?_; rw [← HW7.out])
    | (refine wpList_store_mid rfl 28 _ _ rfl (w5.heap.size + 1) 0 CZ.toArray rfl rfl HTZ.out.1 HTZ.out.2.1 HTZ.out.2.2 ?_; rw [← HW8.out]))
  cases e1
  · --@OFF
    refine wp_region_held_drew (S := fun w' => w'.rangeAt w2.heap.size 0 CX ∧ w'.rangeAt w.heap.size 0 CA ∧ w'.rangeAt w5.heap.size 0 CY ∧ w'.rangeAt (w.heap.size + 1) 0 CB ∧ w'.rangeAt (w5.heap.size + 1) 0 CZ) (by kernel_rfl) ⟨wh.Blk.range BX8.out.drew, wh.Blk.range BA8.out.drew, wh.Blk.range BY8.out.drew, wh.Blk.range BB8.out.drew, wh.Blk.range BZ8.out.drew⟩ (fun hHeld => ?_)
    refine' wpAnyH_take (i := 0) (v := _) rfl (by kernel_rfl) (by kernel_rfl) (by kernel_rfl) (fun _ _ _ h => h) (yieldsIf_load_mid (by kernel_rfl) _ _ rfl _ _ rfl _ _ (fun w hSw => hSw.1) Tryz.underlying28 rfl HSX.out) (by assumption) ?_
    try simp only [Act.put, Array.getInternal_eq_getElem, List.getElem_toArray, List.getElem_cons_zero, List.getElem_cons_succ, List.setIfInBounds_toArray, List.set_cons_zero, List.set_cons_succ]
    refine' wpAnyH_take (i := 1) (v := _) rfl (by kernel_rfl) (by kernel_rfl) (by kernel_rfl) (fun _ _ _ h => h) (yieldsIf_load_mid (by kernel_rfl) _ _ rfl _ _ rfl _ _ (fun w hSw => hSw.2.1) Tryz.underlying28 rfl HSPA.out) (by assumption) ?_
    try simp only [Act.put, Array.getInternal_eq_getElem, List.getElem_toArray, List.getElem_cons_zero, List.getElem_cons_succ, List.setIfInBounds_toArray, List.set_cons_zero, List.set_cons_succ]
    refine' wpAnyH_take (i := 2) (v := _) rfl (by kernel_rfl) (by kernel_rfl) (by kernel_rfl) (fun _ _ _ h => h) (yieldsIf_load_mid (by kernel_rfl) _ _ rfl _ _ rfl _ _ (fun w hSw => hSw.2.2.1) Tryz.underlying28 rfl HSY.out) (by assumption) ?_
    try simp only [Act.put, Array.getInternal_eq_getElem, List.getElem_toArray, List.getElem_cons_zero, List.getElem_cons_succ, List.setIfInBounds_toArray, List.set_cons_zero, List.set_cons_succ]
    refine wpAnyH_take (i := 3) (v := ?_) rfl (by kernel_rfl) (by kernel_rfl) (by kernel_rfl) (fun _ _ _ h => h) (Or.inl ⟨by kernel_rfl, ?_⟩) (by assumption) ?_
    rotate_left
    · (intro w hSw; (try dsimp only at hSw); go_simp) <;> (try (with_reducible rfl))
    try simp only [Act.put, Array.getInternal_eq_getElem, List.getElem_toArray, List.getElem_cons_zero, List.getElem_cons_succ, List.setIfInBounds_toArray, List.set_cons_zero, List.set_cons_succ]
    refine wpAnyH_take (i := 4) (v := ?_) rfl (by kernel_rfl) (by kernel_rfl) (by kernel_rfl) (fun _ _ _ h => h) (Or.inl ⟨by kernel_rfl, ?_⟩) (by assumption) ?_
    rotate_left
    · (intro w hSw; (try dsimp only at hSw); go_simp) <;> (try (with_reducible rfl))
    try simp only [Act.put, Array.getInternal_eq_getElem, List.getElem_toArray, List.getElem_cons_zero, List.getElem_cons_succ, List.setIfInBounds_toArray, List.set_cons_zero, List.set_cons_succ]
    refine wpAnyH_take (i := 5) (v := undef) rfl (by kernel_rfl) (by kernel_rfl) (by kernel_rfl) (fun _ _ _ h => h) (Or.inr ⟨by kernel_rfl, rfl⟩) (by assumption) ?_
    try simp only [Act.put, Array.getInternal_eq_getElem, List.getElem_toArray, List.getElem_cons_zero, List.getElem_cons_succ, List.setIfInBounds_toArray, List.set_cons_zero, List.set_cons_succ]
    refine wpAnyH_take (i := 6) (v := undef) rfl (by kernel_rfl) (by kernel_rfl) (by kernel_rfl) (fun _ _ _ h => h) (Or.inr ⟨by kernel_rfl, rfl⟩) (by assumption) ?_
    try simp only [Act.put, Array.getInternal_eq_getElem, List.getElem_toArray, List.getElem_cons_zero, List.getElem_cons_succ, List.setIfInBounds_toArray, List.set_cons_zero, List.set_cons_succ]
    refine wpAnyH_take (i := 7) (v := undef) rfl (by kernel_rfl) (by kernel_rfl) (by kernel_rfl) (fun _ _ _ h => h) (Or.inr ⟨by kernel_rfl, rfl⟩) (by assumption) ?_
    try simp only [Act.put, Array.getInternal_eq_getElem, List.getElem_toArray, List.getElem_cons_zero, List.getElem_cons_succ, List.setIfInBounds_toArray, List.set_cons_zero, List.set_cons_succ]
    refine wpAnyH_take (i := 8) (v := ?_) rfl (by kernel_rfl) (by kernel_rfl) (by kernel_rfl) (fun _ _ _ h => h) (Or.inl ⟨by kernel_rfl, ?_⟩) (by assumption) ?_
    rotate_left
    · (intro w hSw; (try dsimp only at hSw); go_simp) <;> (try (with_reducible rfl))
    try simp only [Act.put, Array.getInternal_eq_getElem, List.getElem_toArray, List.getElem_cons_zero, List.getElem_cons_succ, List.setIfInBounds_toArray, List.set_cons_zero, List.set_cons_succ]
    refine wpAnyH_ready (rs := [9]) (by kernel_rfl) (by simp) ?_
    refine AllReadyH.cons rfl (fun K hK => ?_) AllReadyH.nil
    (rw [if_pos (by kernel_rfl)]; simp only [Array.getInternal_eq_getElem, List.getElem_toArray, List.getElem_cons_zero, List.getElem_cons_succ]; refine wp_store_mid 28 _ _ rfl (w.heap.size + 1 + 1) 0 CX.toArray rfl rfl HT9.out.1 HT9.out.2.1 HT9.out.2.2 ?_; simp only [List.toList_toArray, Act.put]; rw [← HW9.out])
    refine hK.out _ _ HK9.out (fun hHeld => ?_)
    clear hK K
    try simp only [Act.put, Array.getInternal_eq_getElem, List.getElem_toArray, List.getElem_cons_zero, List.getElem_cons_succ, List.setIfInBounds_toArray, List.set_cons_zero, List.set_cons_succ]
    refine wpAnyH_take (i := 10) (v := ?_) rfl (by kernel_rfl) (by kernel_rfl) (by kernel_rfl) (fun _ _ _ h => h) (Or.inl ⟨by kernel_rfl, ?_⟩) (by assumption) ?_
    rotate_left
    · (intro w hSw; (try dsimp only at hSw); go_simp) <;> (try (with_reducible rfl))
    try simp only [Act.put, Array.getInternal_eq_getElem, List.getElem_toArray, List.getElem_cons_zero, List.getElem_cons_succ, List.setIfInBounds_toArray, List.set_cons_zero, List.set_cons_succ]
    refine wpAnyH_done ?_ ?_ _
    · kernel_rfl
    clear hHeld
    go_wp2
    try rw [Exit.noGoto_ret]
    refine bodyPost_ret (wh.ret_cell (p := 4) (u := 5) (ty := 28) (by kernel_rfl) _ _ _ (w.heap.size + 1 + 1) _ _ _ (by rfl) B9.out Tryz.underlying28 rfl HSX.out) rfl ?_
    exact ⟨by rw [HCX.out]; rfl, K9.out⟩
  · --@ON
    refine wp_region_held_drew (S := fun w' => w'.rangeAt w2.heap.size 0 CX ∧ w'.rangeAt w.heap.size 0 CA ∧ w'.rangeAt w5.heap.size 0 CY ∧ w'.rangeAt (w.heap.size + 1) 0 CB ∧ w'.rangeAt (w5.heap.size + 1) 0 CZ) (by kernel_rfl) ⟨wh.Blk.range BX8.out.drew, wh.Blk.range BA8.out.drew, wh.Blk.range BY8.out.drew, wh.Blk.range BB8.out.drew, wh.Blk.range BZ8.out.drew⟩ (fun hHeld => ?_)
    refine' wpAnyH_take (i := 0) (v := _) rfl (by kernel_rfl) (by kernel_rfl) (by kernel_rfl) (fun _ _ _ h => h) (yieldsIf_load_mid (by kernel_rfl) _ _ rfl _ _ rfl _ _ (fun w hSw => hSw.1) Tryz.underlying28 rfl HSX.out) (by assumption) ?_
    try simp only [Act.put, Array.getInternal_eq_getElem, List.getElem_toArray, List.getElem_cons_zero, List.getElem_cons_succ, List.setIfInBounds_toArray, List.set_cons_zero, List.set_cons_succ]
    refine' wpAnyH_take (i := 1) (v := _) rfl (by kernel_rfl) (by kernel_rfl) (by kernel_rfl) (fun _ _ _ h => h) (yieldsIf_load_mid (by kernel_rfl) _ _ rfl _ _ rfl _ _ (fun w hSw => hSw.2.1) Tryz.underlying28 rfl HSPA.out) (by assumption) ?_
    try simp only [Act.put, Array.getInternal_eq_getElem, List.getElem_toArray, List.getElem_cons_zero, List.getElem_cons_succ, List.setIfInBounds_toArray, List.set_cons_zero, List.set_cons_succ]
    refine' wpAnyH_take (i := 2) (v := _) rfl (by kernel_rfl) (by kernel_rfl) (by kernel_rfl) (fun _ _ _ h => h) (yieldsIf_load_mid (by kernel_rfl) _ _ rfl _ _ rfl _ _ (fun w hSw => hSw.2.2.1) Tryz.underlying28 rfl HSY.out) (by assumption) ?_
    try simp only [Act.put, Array.getInternal_eq_getElem, List.getElem_toArray, List.getElem_cons_zero, List.getElem_cons_succ, List.setIfInBounds_toArray, List.set_cons_zero, List.set_cons_succ]
    refine wpAnyH_take (i := 3) (v := ?_) rfl (by kernel_rfl) (by kernel_rfl) (by kernel_rfl) (fun _ _ _ h => h) (Or.inl ⟨by kernel_rfl, ?_⟩) (by assumption) ?_
    rotate_left
    · (intro w hSw; (try dsimp only at hSw); go_simp) <;> (try (with_reducible rfl))
    try simp only [Act.put, Array.getInternal_eq_getElem, List.getElem_toArray, List.getElem_cons_zero, List.getElem_cons_succ, List.setIfInBounds_toArray, List.set_cons_zero, List.set_cons_succ]
    refine wpAnyH_take (i := 4) (v := ?_) rfl (by kernel_rfl) (by kernel_rfl) (by kernel_rfl) (fun _ _ _ h => h) (Or.inl ⟨by kernel_rfl, ?_⟩) (by assumption) ?_
    rotate_left
    · (intro w hSw; (try dsimp only at hSw); go_simp) <;> (try (with_reducible rfl))
    try simp only [Act.put, Array.getInternal_eq_getElem, List.getElem_toArray, List.getElem_cons_zero, List.getElem_cons_succ, List.setIfInBounds_toArray, List.set_cons_zero, List.set_cons_succ]
    refine' wpAnyH_take (i := 5) (v := _) rfl (by kernel_rfl) (by kernel_rfl) (by kernel_rfl) (fun _ _ _ h => h) (yieldsIf_load_mid (by kernel_rfl) _ _ rfl _ _ rfl _ _ (fun w hSw => hSw.2.2.2.1) Tryz.underlying28 rfl HSPB.out) (by assumption) ?_
    try simp only [Act.put, Array.getInternal_eq_getElem, List.getElem_toArray, List.getElem_cons_zero, List.getElem_cons_succ, List.setIfInBounds_toArray, List.set_cons_zero, List.set_cons_succ]
    refine' wpAnyH_take (i := 6) (v := _) rfl (by kernel_rfl) (by kernel_rfl) (by kernel_rfl) (fun _ _ _ h => h) (yieldsIf_load_mid (by kernel_rfl) _ _ rfl _ _ rfl _ _ (fun w hSw => hSw.2.2.2.2) Tryz.underlying28 rfl HSZ.out) (by assumption) ?_
    try simp only [Act.put, Array.getInternal_eq_getElem, List.getElem_toArray, List.getElem_cons_zero, List.getElem_cons_succ, List.setIfInBounds_toArray, List.set_cons_zero, List.set_cons_succ]
    refine wpAnyH_take (i := 7) (v := ?_) rfl (by kernel_rfl) (by kernel_rfl) (by kernel_rfl) (fun _ _ _ h => h) (Or.inl ⟨by kernel_rfl, ?_⟩) (by assumption) ?_
    rotate_left
    · (intro w hSw; (try dsimp only at hSw); go_simp) <;> (try (with_reducible rfl))
    try simp only [Act.put, Array.getInternal_eq_getElem, List.getElem_toArray, List.getElem_cons_zero, List.getElem_cons_succ, List.setIfInBounds_toArray, List.set_cons_zero, List.set_cons_succ]
    refine wpAnyH_take (i := 8) (v := ?_) rfl (by kernel_rfl) (by kernel_rfl) (by kernel_rfl) (fun _ _ _ h => h) (Or.inl ⟨by kernel_rfl, ?_⟩) (by assumption) ?_
    rotate_left
    · (intro w hSw; (try dsimp only at hSw); go_simp) <;> (try (with_reducible rfl))
    try simp only [Act.put, Array.getInternal_eq_getElem, List.getElem_toArray, List.getElem_cons_zero, List.getElem_cons_succ, List.setIfInBounds_toArray, List.set_cons_zero, List.set_cons_succ]
    refine wpAnyH_ready (rs := [9]) (by kernel_rfl) (by simp) ?_
    refine AllReadyH.cons rfl (fun K hK => ?_) AllReadyH.nil
    (rw [if_pos (by kernel_rfl)]; simp only [Array.getInternal_eq_getElem, List.getElem_toArray, List.getElem_cons_zero, List.getElem_cons_succ]; refine wp_store_mid 28 _ _ rfl (w.heap.size + 1 + 1) 0 CX.toArray rfl rfl HT9.out.1 HT9.out.2.1 HT9.out.2.2 ?_; simp only [List.toList_toArray, Act.put]; rw [← HW9.out])
    refine hK.out _ _ HK9.out (fun hHeld => ?_)
    clear hK K
    try simp only [Act.put, Array.getInternal_eq_getElem, List.getElem_toArray, List.getElem_cons_zero, List.getElem_cons_succ, List.setIfInBounds_toArray, List.set_cons_zero, List.set_cons_succ]
    refine wpAnyH_take (i := 10) (v := ?_) rfl (by kernel_rfl) (by kernel_rfl) (by kernel_rfl) (fun _ _ _ h => h) (Or.inl ⟨by kernel_rfl, ?_⟩) (by assumption) ?_
    rotate_left
    · (intro w hSw; (try dsimp only at hSw); go_simp) <;> (try (with_reducible rfl))
    try simp only [Act.put, Array.getInternal_eq_getElem, List.getElem_toArray, List.getElem_cons_zero, List.getElem_cons_succ, List.setIfInBounds_toArray, List.set_cons_zero, List.set_cons_succ]
    refine wpAnyH_done ?_ ?_ _
    · kernel_rfl
    clear hHeld
    go_wp2
    try rw [Exit.noGoto_ret]
    refine bodyPost_ret (wh.ret_cell (p := 4) (u := 5) (ty := 28) (by kernel_rfl) _ _ _ (w.heap.size + 1 + 1) _ _ _ (by rfl) B9.out Tryz.underlying28 rfl HSX.out) rfl ?_
    exact ⟨by rw [HCX.out]; rfl, K9.out⟩

theorem whole_ (a b : Px) (ha : a.a.Wf) (hb : b.a.Wf) (ho : okP a) : Calls Tryz.prog 80 #[pv a, pv b] w fun e w' => e = .returned (.tuple #[pv (whole a b).1, .bool (whole a b).2]) ∧ ∀ S, Keeps S w w' := by
  by_cases h : a.bits = 0
  · exact whole_zero w a b ha hb ho h
  · exact whole_in w a b ha hb ho (a.bits.toNat - 1) (by have := ho.2.1.1; omega)

end
end Go.Proofs.YtgcdhfpbmcfedaaGreatDoor.pf
end
section
set_option linter.unusedVariables false
namespace Go.Proofs.YtgcdhfpbmcfedaaGreatDoor.bs
open Go.RowKit Go.Proofs.YtgcdhfpbmcfedaaGreatDoor.oc Go.Proofs.YtgcdhfpbmcfedaaGreatDoor.mz
theorem fold_list (off : Nat) : ∀ (l : List Value) (s : Nat) (cs : Array Value), off + s + l.length ≤ cs.size → ((l.zipIdx s).foldl (fun cs x => cs.setIfInBounds (off + x.2) x.1) cs).toList = cs.toList.take (off + s) ++ l ++ cs.toList.drop (off + s + l.length)
  | [], s, cs, h => by simp
  | c :: r, s, cs, h => by
    have hlt : off + s < cs.toList.length := by simp at h ⊢; omega
    have ih := fold_list off r (s + 1) (cs.setIfInBounds (off + s) c) (by simp at h ⊢; omega)
    rw [List.zipIdx_cons, List.foldl_cons]
    rw [ih, Array.toList_setIfInBounds, show off + (s + 1) = (off + s) + 1 from by omega, List.take_add_one, List.take_set_of_le (by omega), List.drop_set_of_lt (by omega), List.getElem?_set_self hlt]
    simp only [Option.toList_some, List.append_assoc, List.cons_append, List.nil_append, List.length_cons]
    rw [show off + s + 1 + r.length = off + s + (r.length + 1) from by omega]
theorem fold_arr (off : Nat) (y : Array Value) (cs : Array Value) (h : off + y.size ≤ cs.size) : y.zipIdx.foldl (fun cs (x : Value × Nat) => cs.setIfInBounds (off + x.2) x.1) cs = (cs.toList.take off ++ y.toList ++ cs.toList.drop (off + y.size)).toArray := by
  apply Array.toList_inj.1
  have := fold_list off y.toList 0 cs (by simpa using h)
  rw [← Array.foldl_toList, Array.toList_zipIdx]
  simpa using this
theorem fill_step (place : Nat → Option (Nat × Nat)) (base : Array Value) (i : Nat) (y : Array Value) (rest : List (Nat × Value)) (off size : Nat) (hp : place i = some (off, size)) (hy : y.size = size) (ho : off + size ≤ base.size) :
    Instr.fill place base ((i, .agg y) :: rest) = Instr.fill place (base.toList.take off ++ y.toList ++ base.toList.drop (off + y.size)).toArray rest := by
  have h := fold_arr off y base (by omega)
  rw [Instr.fill, hp]
  have hc : ¬ ((decide ((Value.agg y).cells.size ≠ size) || decide (off + (Value.agg y).cells.size > base.size)) = true) := by
    simp only [Value.cells, hy]
    simp
    omega
  simp only
  rw [if_neg hc]
  show Instr.fill place (y.zipIdx.foldl (fun cs (x : Value × Nat) => cs.setIfInBounds (off + x.2) x.1) base) rest = _
  rw [h]
theorem fill_one (y base : Array Value) (n : Nat) (hy : y.size = n) (hb : base.size = n) : Instr.fill (fun i => some (i * n, n)) base [(0, .agg y)] = some y := by
  rw [fill_step _ base 0 y [] (0 * n) n rfl hy (by omega)]
  unfold Instr.fill
  congr 1
  apply Array.toList_inj.1
  have e : base.toList.drop (0 * n + y.size) = [] := List.drop_eq_nil_of_le (by simp; omega)
  rw [e, Nat.zero_mul]
  simp
theorem fill_two (y z base : Array Value) (n : Nat) (hy : y.size = n) (hz : z.size = n) (hb : base.size = 2 * n) : Instr.fill (fun i => some (i * n, n)) base [(0, .agg y), (1, .agg z)] = some (y ++ z) := by
  rw [fill_step _ base 0 y _ (0 * n) n rfl hy (by omega)]
  have hyl : y.toList.length = n := by simpa using hy
  have hsz : (base.toList.take (0 * n) ++ y.toList ++ base.toList.drop (0 * n + y.size)).toArray.size = 2 * n := by simp; omega
  rw [fill_step _ _ 1 z [] (1 * n) n rfl hz (by rw [hsz]; omega)]
  unfold Instr.fill
  congr 1
  apply Array.toList_inj.1
  have e1 : (y.toList ++ base.toList.drop (0 * n + y.size)).take (1 * n) = y.toList := by rw [List.take_append_of_le_length (by omega), List.take_of_length_le (by omega)]
  have e2 : (y.toList ++ base.toList.drop (0 * n + y.size)).drop (1 * n + z.size) = [] := List.drop_eq_nil_of_le (by simp; omega)
  simp only [Nat.zero_mul, List.take_zero, List.nil_append]
  rw [Nat.zero_mul] at e1 e2
  rw [e1, e2, List.append_nil, Array.toList_append]
theorem range_size (k : Nat) (z : Array Value) : ((Array.range k).map (z[· % z.size]!)).size = k := by simp
end Go.Proofs.YtgcdhfpbmcfedaaGreatDoor.bs
end
section
set_option linter.unusedVariables false
set_option linter.unusedSimpArgs false
namespace Go.Proofs.YtgcdhfpbmcfedaaGreatDoor.pf
open Go.RowKit Go.Shelf Go.Proofs.YtgcdhfpbmcfedaaGreatDoor.oc Go.Proofs.YtgcdhfpbmcfedaaGreatDoor.mz Go.Proofs.YtgcdhfpbmcfedaaGreatDoor.wh Go.Proofs.YtgcdhfpbmcfedaaGreatDoor.qk
theorem whole_wf {a b : Px} (h : a.a.Wf) : (whole a b).1.a.Wf := by
  unfold whole
  split
  · exact zeroP_wf
  · exact clr_wf h _
theorem px_info : (Tryz.prog.info? 28).map (fun i => (i.zero, i.size, i.bytes)) = some (some (.agg #[.bool false, .int .u8 0, .int .u8 0, .int .u8 0, .int .u8 0, .int .u8 0, .int .u8 0, .int .u8 0, .int .u8 0, .int .u8 0, .int .u8 0, .int .u8 0, .int .u8 0, .int .u8 0, .int .u8 0, .int .u8 0, .int .u8 0, .int .i64 0]), 18, 32) := by kernel_rfl
/-- where add stands -/
structure AB (B : Nat) (w wr : World) (v : Value) (ps : List Px) (p : Px) (qs : List Px) (q : Px) : Prop where
  pm : Pm B wr v qs
  bx : Blk wr w.heap.size 28 (pxc q)
  wf : q.a.Wf
  eq : addP qs q = addP ps p
  ok : ∀ x ∈ qs, okP x
  kp : Keeps (fun b => B ≤ b) w wr
  lo : ∀ b, v.ownBlock = some b → b < w.heap.size
  le : qs.length ≤ 1000000
section
variable (w : World)
set_option maxRecDepth 100000 in
set_option maxHeartbeats 8000000 in
theorem add_ (B : Nat) (v : Value) (ps : List Px) (p : Px) (hp : p.a.Wf) (h : Pm B w v ps) (hok : ∀ q ∈ ps, okP q) (hB : B ≤ w.heap.size) (hl : ps.length ≤ 1000000) :
    Calls Tryz.prog 62 #[v, pv p] w fun e w' => ∃ v', e = .returned v' ∧ Pm B w' v' (addP ps p) ∧ Keeps (fun b => B ≤ b) w w' := by
  obtain ⟨w1, hw1, k1, b1⟩ := enter_blk w (pxc p).toArray 28
  have HI := Lib.hid (show AB B w w1 v ps p ps p from ⟨h.keeps (k1 (fun _ => False)) (fun _ _ z => z), b1, hp, rfl, hok, k1 _, fun b e => (h.own.lt b e).2, hl⟩)
  have HW := Lib.hid hw1
  have HBW := Lib.hid hB
  unfold pv
  generalize (pxc p).toArray = C0 at *
  obtain ⟨i1, hi, hz0, hz1, hz2⟩ := info_parts px_info
  clear hw1 k1 b1 hp h hok hB hl
  go_enter Tryz.func62, Tryz.ntmps62
  go_wp2_with fail
  rw [← HW.out]
  go_loopw [0] (fun v wr => ∃ (qs : List Px) (q : Px), AB B w wr v ps p qs q) (fun v _ => match v with | .slice _ n _ => n | _ => 0)
  case atStart => exact ⟨ps, p, HI.out⟩
  case round =>
    obtain ⟨qs, q, hab⟩ := hrel
    rcases List.eq_nil_or_concat qs with rfl | ⟨qs', l, rfl⟩
    · obtain ⟨A, c, hf⟩ : ∃ A c, u0 = .slice A 0 c := by
        rcases hab.pm.own.2 with ⟨e, _⟩ | ⟨g, cap, cur, e, _⟩
        · exact ⟨_, _, e⟩
        · exact ⟨_, _, e⟩
      subst hf
      obtain ⟨CQ, hCQ⟩ : ∃ CQ, CQ = pxc q := ⟨_, rfl⟩
      have HP9 := Lib.hid hab.pm
      have HN9 := Lib.hid (show ([] : List Px).length = 0 from rfl)
      have HX9 := Lib.hid (show Blk wr w.heap.size 28 CQ from by rw [hCQ]; exact hab.bx)
      have HQ9 := Lib.hid (And.intro hab.wf hCQ)
      have HK9 := Lib.hid hab.kp
      have HEQ := Lib.hid (show addP ps p = [] ++ [q] from by rw [← hab.eq, addP_nil]; rfl)
      have HSQ := Lib.hid (show (Tryz.prog.info? 28).map (·.size) = some CQ.length from by rw [hCQ]; exact px_sz hab.wf)
      clear hab hCQ
      have HOWN := Lib.hid HP9.out.own
      have HR9 := Lib.hid (Blk.range HX9.out)
      have HNEWS := Lib.hid (show ∀ j u, CQ[j]? = some u → (wr.alloc (.cells CQ.toArray 28)).cell? ((⟨wr.heap.size, 0, none⟩ : Addr).add j) = some u from fun j u hu => by
        rw [Addr.add_lit, Nat.zero_add, (Blk.new _ _ _).cell]; exact hu)
      have HYL : Hid (CQ.length = 1 * 18 ∧ (∀ u ∈ CQ, u.oneCell' = true) ∧ 0 + 1 ≤ maxLen ∧ (0 + 1) * 32 ≤ 140737488355328) := Lib.hid ⟨by rw [HQ9.out.2, pxc_len HQ9.out.1], by rw [HQ9.out.2]; exact px_one q, by unfold maxLen; omega, by omega⟩
      have HBL : Hid (B ≤ (wr.alloc (.cells CQ.toArray 28)).heap.size) := Lib.hid (by have := HK9.out.size; have := HBW.out; simp; omega)
      have HY18 : Hid (CQ.toArray.size = 18) := Lib.hid (by rw [List.size_toArray, HYL.out.1])
      have HOA := Lib.hid (HP9.out.keeps ((Keeps.refl (fun _ => False) wr).alloc (.cells CQ.toArray 28)) (fun _ _ z => z)).own
      try rw [HN9.out] at HOA
      go_wp2_with (first
        | (at_builtin; refine wpList_apps rfl _ _ 52 rfl B 28 i1 _ 18 32 Tryz.underlying52 hi hz0 hz1 hz2 rfl (by decide) (.slice A 0 c) 0 (pxs []) rfl HOA.out ⟨wr.heap.size, 0, none⟩ 1 1 CQ rfl HYL.out.1 HNEWS.out HYL.out.2.1 HYL.out.2.2.1 HYL.out.2.2.2 HBL.out ?_; intro v' w' q1 q2 q3)
        | (refine wpList_buildSlice rfl 52 28 1 _ rfl CQ.toArray i1 _ Tryz.underlying52 hi hz0 (by rw [hz1]; decide) (by rw [hz1]; decide) (by rw [hz1, Array.toList_map]; exact bs.fill_one CQ.toArray _ 18 HY18.out (by rw [bs.range_size])) ?_)
        | ((with_reducible show wpList _ _ _ (⟨some 36, _, _, _, _, _⟩ :: _) _ _); refine wpList_load_mid rfl 28 _ rfl w.heap.size 0 rfl CQ _ HR9.out Tryz.underlying28 rfl HSQ.out ?_))
      go_ret
      refine ⟨_, rfl, ?_, ?_⟩
      · rw [HEQ.out]
        refine ⟨?_, fun x hx => ?_⟩
        · rw [pxs_snoc, ← HQ9.out.2, List.length_append, List.length_singleton, HN9.out]
          exact q1
        · rcases List.mem_append.1 hx with y | y
          · exact HP9.out.wf x y
          · simp at y; rw [y]; exact HQ9.out.1
      · exact (HK9.out.alloc _).trans ((Keeps.of_grown q2).mono (fun b _ e => (HP9.out.own.lt b e).1))

    · rw [List.concat_eq_append] at hab
      obtain ⟨g, c, rfl, hc, hBg, hlt, hrg, hpm⟩ := hab.pm.last
      have HAB := Lib.hid hab
      have HPM := Lib.hid hpm
      have HRG := Lib.hid hrg
      have hlw : l.a.Wf := hab.pm.wf l (by simp)
      have HLWF := Lib.hid hlw
      have HSL := Lib.hid (px_sz hlw)
      have HSQ := Lib.hid (px_sz hab.wf)
      have HCV := fun w => Lib.hid (pcovers_ w l q hlw hab.wf)
      have HWH := fun w => Lib.hid (whole_ w l q hlw hab.wf (hab.ok l (by simp)))
      have HBX := Lib.hid (Blk.range hab.bx)
      have hle := hab.le
      rw [List.length_append, List.length_singleton] at hle
      obtain ⟨m, hm⟩ : ∃ m, m = qs'.length := ⟨_, rfl⟩
      rw [← hm] at hle hc HRG ⊢
      have HM := Lib.hid hm
      have m0 : (0 : Int) ≤ (m : Int) := by omega
      have m1 : (m : Int) ≤ 1000000 := by omega
      have hw1 : wrap64 ((m : Int) + 1 - 1) = (m : Int) := by unfold wrap64; omega
      have hw2 : wrap64 (m : Int) = (m : Int) := by unfold wrap64; omega
      have hpos : (0 : Int) < (m : Int) + 1 := by omega
      obtain ⟨w3, hw3, B3, K3⟩ := new_zp wr
      obtain ⟨o1, o2, o3, o5, o6⟩ := over_px (c := l) hlw B3 rfl
      obtain ⟨w4, hw4⟩ : ∃ w4, w4 = w3.setCells wr.heap.size 0 (pxc l) := ⟨_, rfl⟩
      rw [← hw4] at o5 o6
      have KO4 := Lib.hid (show Keeps (fun b => wr.heap.size ≤ b) wr w4 from (K3 _).trans (o6.mono (fun b _ e => by omega)))
      have HLW := Lib.hid (show w.heap.size < wr.heap.size from hab.bx.lt)
      have BL4 := Lib.hid o5
      have BX4 := Lib.hid (Blk.keeps hab.bx KO4.out (by have := HLW.out; omega))
      have HTL := Lib.hid (And.intro o1 (And.intro o2 o3))
      have HW4 := Lib.hid hw4
      have HL4 := Lib.hid (And.intro (Blk.range BL4.out) (Blk.range BX4.out))
      subst hw3
      clear hab hpm hrg hlw hm hle o1 o2 o3 o5 o6 B3 K3 hw4
      unfold pv at HCV HWH
      obtain ⟨CL, hCL⟩ : ∃ CL, CL = pxc l := ⟨_, rfl⟩
      obtain ⟨CQ, hCQ⟩ : ∃ CQ, CQ = pxc q := ⟨_, rfl⟩
      rw [← hCL, ← hCQ] at HCV HWH
      rw [← hCL] at HRG HSL HTL BL4 HW4
      rw [← hCQ] at HSQ HBX BX4
      rw [← hCL, ← hCQ] at HL4
      have HCC := Lib.hid (And.intro hCL hCQ)
      clear hCL hCQ
      go_wp2_with (first
        | ((with_reducible show wpList _ _ _ (⟨some 16, _, _, _, _, _⟩ :: _) _ _); refine wpList_load_mid rfl 28 _ rfl g (m * 18) rfl CL _ HRG.out Tryz.underlying28 rfl HSL.out ?_)
        | (refine wpList_store_mid rfl 28 _ _ rfl wr.heap.size 0 CL.toArray rfl rfl HTL.out.1 HTL.out.2.1 HTL.out.2.2 ?_; rw [← HW4.out])
        | ((with_reducible show wpList _ _ _ (⟨some 17, _, _, _, _, _⟩ :: _) _ _); refine wpList_load_mid rfl 28 _ rfl wr.heap.size 0 rfl CL _ HL4.out.1 Tryz.underlying28 rfl HSL.out ?_)
        | ((with_reducible show wpList _ _ _ (⟨some 18, _, _, _, _, _⟩ :: _) _ _); refine wpList_load_mid rfl 28 _ rfl w.heap.size 0 rfl CQ _ HL4.out.2 Tryz.underlying28 rfl HSQ.out ?_))
      refine (HCV _).out.mono ?_
      rintro e w5 ⟨rfl, k5⟩
      have KO5 := Lib.hid (show Keeps (fun b => wr.heap.size ≤ b) wr w5 from KO4.out.trans (k5 _))
      have BL5 := Lib.hid (Blk.keeps BL4.out (k5 (fun _ => False)) (fun z => z))
      have BX5 := Lib.hid (Blk.keeps BX4.out (k5 (fun _ => False)) (fun z => z))
      have HL5 := Lib.hid (And.intro (Blk.range BL5.out) (Blk.range BX5.out))
      clear k5 HCV HL4
      have HGL := Lib.hid (HAB.out.lo g rfl)
      cases hcov : coversB l q with
      | true =>
        have HEQ := Lib.hid (show addP ps p = qs' ++ [l] from by rw [← HAB.out.eq, addP_snoc, if_pos hcov])
        clear hcov
        go_wp2
        go_ret
        refine ⟨_, rfl, ?_, ?_⟩
        · rw [HEQ.out]
          have := HAB.out.pm.keeps KO5.out (fun b e => by have := HAB.out.lo b e; have := HLW.out; omega)
          rw [← HM.out] at this
          exact this
        · exact HAB.out.kp.trans (KO5.out.mono (fun b _ e => by have := HLW.out; have := HBW.out; omega))
      | false =>
        have HEQ := Lib.hid (show addP ps p = if (whole l q).2 = true then addP qs' (whole l q).1 else qs' ++ [l] ++ [q] from by rw [← HAB.out.eq, addP_snoc, if_neg (by rw [hcov]; simp)])
        clear hcov
        go_wp2_with (first
          | ((with_reducible show wpList _ _ _ (⟨some 22, _, _, _, _, _⟩ :: _) _ _); refine wpList_load_mid rfl 28 _ rfl wr.heap.size 0 rfl CL _ HL5.out.1 Tryz.underlying28 rfl HSL.out ?_)
          | ((with_reducible show wpList _ _ _ (⟨some 23, _, _, _, _, _⟩ :: _) _ _); refine wpList_load_mid rfl 28 _ rfl w.heap.size 0 rfl CQ _ HL5.out.2 Tryz.underlying28 rfl HSQ.out ?_))
        refine (HWH _).out.mono ?_
        rintro e w6 ⟨rfl, k6⟩
        obtain ⟨x, hx⟩ : ∃ x, x = (whole l q).1 := ⟨_, rfl⟩
        have hxw : x.a.Wf := by rw [hx]; exact whole_wf HLWF.out
        obtain ⟨w7, hw7, B7, K7⟩ := new_zp w6
        obtain ⟨o1, o2, o3, o5, o6⟩ := over_px (c := x) hxw B7 rfl
        obtain ⟨w8, hw8⟩ : ∃ w8, w8 = w7.setCells w6.heap.size 0 (pxc x) := ⟨_, rfl⟩
        rw [← hw8] at o5 o6
        have hws : wr.heap.size ≤ w6.heap.size := Nat.le_trans KO5.out.size (k6 (fun _ => False)).size
        have HWS := Lib.hid hws
        have KO8 := Lib.hid (show Keeps (fun b => wr.heap.size ≤ b) wr w8 from (KO5.out.trans (k6 _)).trans ((K7 _).trans (o6.mono (fun b _ e => by omega))))
        have HSX := Lib.hid (px_sz hxw)
        have BW8 := Lib.hid o5
        have HX9 := Lib.hid (Blk.keeps HAB.out.bx KO8.out (by have := HLW.out; omega))
        rw [← HCC.out.2] at HX9
        have HTX := Lib.hid (And.intro o1 (And.intro o2 o3))
        have HW8 := Lib.hid hw8
        have HK9 := Lib.hid (HAB.out.kp.trans (KO8.out.mono (fun b _ e => by have := HLW.out; have := HBW.out; omega)))
        rw [← hx] at HEQ ⊢
        subst hw7
        clear k6 o1 o2 o3 o5 o6 B7 K7 hw8 hws HWH
        cases ht : (whole l q).2 with
        | false =>
          rw [ht] at HEQ
          have HEQ := Lib.hid (show addP ps p = qs' ++ [l] ++ [q] from by rw [HEQ.out, if_neg (by simp)])
          have hp9 := HAB.out.pm.keeps KO8.out (fun b e => by have := HAB.out.lo b e; have := HLW.out; omega)
          rw [← HM.out] at hp9
          have HP9 := Lib.hid hp9
          clear hp9
          have HN9 := Lib.hid (show (qs' ++ [l]).length = m + 1 from by rw [HM.out]; simp)
          have HQ9 := Lib.hid (And.intro HAB.out.wf HCC.out.2)
          generalize pxc x = CX at *
          clear ht hx
          have HOWN := Lib.hid HP9.out.own
          have HR9 := Lib.hid (Blk.range HX9.out)
          have HNEWS := Lib.hid (show ∀ j u, CQ[j]? = some u → (w8.alloc (.cells CQ.toArray 28)).cell? ((⟨w8.heap.size, 0, none⟩ : Addr).add j) = some u from fun j u hu => by
            rw [Addr.add_lit, Nat.zero_add, (Blk.new _ _ _).cell]; exact hu)
          have HYL : Hid (CQ.length = 1 * 18 ∧ (∀ u ∈ CQ, u.oneCell' = true) ∧ (m + 1) + 1 ≤ maxLen ∧ ((m + 1) + 1) * 32 ≤ 140737488355328) := Lib.hid ⟨by rw [HQ9.out.2, pxc_len HQ9.out.1], by rw [HQ9.out.2]; exact px_one q, by unfold maxLen; omega, by omega⟩
          have HBL : Hid (B ≤ (w8.alloc (.cells CQ.toArray 28)).heap.size) := Lib.hid (by have := HK9.out.size; have := HBW.out; simp; omega)
          have HY18 : Hid (CQ.toArray.size = 18) := Lib.hid (by rw [List.size_toArray, HYL.out.1])
          have HOA := Lib.hid (HP9.out.keeps ((Keeps.refl (fun _ => False) w8).alloc (.cells CQ.toArray 28)) (fun _ _ z => z)).own
          try rw [HN9.out] at HOA
          go_wp2_with (first
            | (refine wpList_store_mid rfl 28 _ _ rfl w6.heap.size 0 CX.toArray rfl rfl HTX.out.1 HTX.out.2.1 HTX.out.2.2 ?_; rw [← HW8.out])
            | (at_builtin; refine wpList_apps rfl _ _ 52 rfl B 28 i1 _ 18 32 Tryz.underlying52 hi hz0 hz1 hz2 rfl (by decide) (.slice (some ⟨g, 0, none⟩) (m + 1) c) (m + 1) (pxs (qs' ++ [l])) rfl HOA.out ⟨w8.heap.size, 0, none⟩ 1 1 CQ rfl HYL.out.1 HNEWS.out HYL.out.2.1 HYL.out.2.2.1 HYL.out.2.2.2 HBL.out ?_; intro v' w' q1 q2 q3)
            | (refine wpList_buildSlice rfl 52 28 1 _ rfl CQ.toArray i1 _ Tryz.underlying52 hi hz0 (by rw [hz1]; decide) (by rw [hz1]; decide) (by rw [hz1, Array.toList_map]; exact bs.fill_one CQ.toArray _ 18 HY18.out (by rw [bs.range_size])) ?_)
            | ((with_reducible show wpList _ _ _ (⟨some 36, _, _, _, _, _⟩ :: _) _ _); refine wpList_load_mid rfl 28 _ rfl w.heap.size 0 rfl CQ _ HR9.out Tryz.underlying28 rfl HSQ.out ?_))
          go_ret
          refine ⟨_, rfl, ?_, ?_⟩
          · rw [HEQ.out]
            refine ⟨?_, fun x hx => ?_⟩
            · rw [pxs_snoc, ← HQ9.out.2, List.length_append, List.length_singleton, HN9.out]
              exact q1
            · rcases List.mem_append.1 hx with y | y
              · exact HP9.out.wf x y
              · simp at y; rw [y]; exact HQ9.out.1
          · exact (HK9.out.alloc _).trans ((Keeps.of_grown q2).mono (fun b _ e => (HP9.out.own.lt b e).1))

        | true =>
          rw [ht] at HEQ
          have HEQ := Lib.hid (show addP ps p = addP qs' x from by rw [HEQ.out, if_pos rfl])
          obtain ⟨w9, hw9⟩ : ∃ w9, w9 = w8.drew.setCells w.heap.size 0 (pxc x) := ⟨_, rfl⟩
          have hz := over_px (c := x) hxw HX9.out.drew (by rw [HCC.out.2, pxc_len HAB.out.wf])
          rw [← hw9] at hz
          have KP9 := Lib.hid hz.2.2.2.2
          have HT9 := Lib.hid (And.intro hz.1 (And.intro hz.2.1 hz.2.2.1))
          have BP9 := Lib.hid hz.2.2.2.1
          have HW9 := Lib.hid hw9
          have HXW := Lib.hid hxw
          have HNX : Hid (AB B w w9 (.slice (some ⟨g, 0, none⟩) m c) ps p qs' x) := Lib.hid ⟨by
              have q1 := HPM.out.keeps KO8.out (fun b e => by have := HGL.out; have := HLW.out; simp [Value.ownBlock] at e; omega)
              have q2 := q1.keeps ((Keeps.refl (fun _ => False) w8).drew) (fun _ _ z => z)
              have q3 := q2.keeps KP9.out (fun b e => by have := HGL.out; simp [Value.ownBlock] at e; omega)
              rw [← HM.out] at q3
              exact q3, BP9.out, hxw, HEQ.out.symm, fun y hy => HAB.out.ok y (by simp [hy]), (HK9.out.drew).trans (KP9.out.mono (fun b _ e => by have := HBW.out; omega)), fun b e => by have := HGL.out; simp [Value.ownBlock] at e; omega, by have := HM.out; omega⟩
          have HK8 := Lib.hid (Blk.range BW8.out.drew)
          have HK7 := Lib.hid (Blk.range (Blk.keeps BW8.out.drew KP9.out (by have := KO8.out.size; have := HLW.out; have := HWS.out; omega)))
          have hc1 : (m : Int) ≤ (c : Int) := by omega
          have hiw : IntKind.i64.wrap (m : Int) = (m : Int) := by rw [IntKind.wrap_i64]; omega
          clear hx ht hxw hz hw9
          obtain ⟨CX, hCX⟩ : ∃ CX, CX = pxc x := ⟨_, rfl⟩
          rw [← hCX] at HTX HW8 HSX HT9 HW9 HK8 HK7 ⊢
          clear hCX
          go_wp2_with (refine wpList_store_mid rfl 28 _ _ rfl w6.heap.size 0 CX.toArray rfl rfl HTX.out.1 HTX.out.2.1 HTX.out.2.2 ?_; rw [← HW8.out])
          refine wp_region_held_drew (S := fun w' => w'.rangeAt w6.heap.size 0 CX) (by kernel_rfl) HK8.out (fun hHeld => ?_)
          refine wpAnyH_take (i := 0) (v := ?_) rfl (by kernel_rfl) (by kernel_rfl) (by kernel_rfl) (fun _ _ _ h => h) (Or.inl ⟨by kernel_rfl, ?_⟩) (by assumption) ?_
          rotate_left
          · (intro w hSw; (try dsimp only at hSw); go_simp) <;> (try (with_reducible rfl))
          try simp only [Act.put, Array.getInternal_eq_getElem, List.getElem_toArray, List.getElem_cons_zero, List.getElem_cons_succ, List.setIfInBounds_toArray, List.set_cons_zero, List.set_cons_succ]
          refine wpAnyH_take (i := 1) (v := ?_) rfl (by kernel_rfl) (by kernel_rfl) (by kernel_rfl) (fun _ _ _ h => h) (Or.inl ⟨by kernel_rfl, ?_⟩) (by assumption) ?_
          rotate_left
          · (intro w hSw; (try dsimp only at hSw); go_simp) <;> (try (with_reducible rfl))
          try simp only [Act.put, Array.getInternal_eq_getElem, List.getElem_toArray, List.getElem_cons_zero, List.getElem_cons_succ, List.setIfInBounds_toArray, List.set_cons_zero, List.set_cons_succ]
          refine wpAnyH_take (i := 2) (v := ?_) rfl (by kernel_rfl) (by kernel_rfl) (by kernel_rfl) (fun _ _ _ h => h) (Or.inl ⟨by kernel_rfl, ?_⟩) (by assumption) ?_
          rotate_left
          · (intro w hSw; (try dsimp only at hSw); go_simp) <;> (try (with_reducible rfl))
          try simp only [Act.put, Array.getInternal_eq_getElem, List.getElem_toArray, List.getElem_cons_zero, List.getElem_cons_succ, List.setIfInBounds_toArray, List.set_cons_zero, List.set_cons_succ]
          refine wpAnyH_take (i := 3) (v := ?_) rfl (by kernel_rfl) (by kernel_rfl) (by kernel_rfl) (fun _ _ _ h => h) (Or.inl ⟨by kernel_rfl, ?_⟩) (by assumption) ?_
          rotate_left
          · (intro w hSw; (try dsimp only at hSw); go_simp) <;> (try (with_reducible rfl))
          try simp only [Act.put, Array.getInternal_eq_getElem, List.getElem_toArray, List.getElem_cons_zero, List.getElem_cons_succ, List.setIfInBounds_toArray, List.set_cons_zero, List.set_cons_succ]
          refine wpAnyH_take (i := 4) (v := ?_) rfl (by kernel_rfl) (by kernel_rfl) (by kernel_rfl) (fun _ _ _ h => h) (Or.inl ⟨by kernel_rfl, ?_⟩) (by assumption) ?_
          rotate_left
          · (intro w hSw; (try dsimp only at hSw); go_simp) <;> (try (with_reducible rfl))
          try simp only [Act.put, Array.getInternal_eq_getElem, List.getElem_toArray, List.getElem_cons_zero, List.getElem_cons_succ, List.setIfInBounds_toArray, List.set_cons_zero, List.set_cons_succ]
          refine' wpAnyH_take (i := 5) (v := _) rfl (by kernel_rfl) (by kernel_rfl) (by kernel_rfl) (fun _ _ _ h => h) (yieldsIf_load_mid (by kernel_rfl) _ _ rfl _ _ rfl _ _ (fun w hSw => hSw) Tryz.underlying28 rfl HSX.out) (by assumption) ?_
          try simp only [Act.put, Array.getInternal_eq_getElem, List.getElem_toArray, List.getElem_cons_zero, List.getElem_cons_succ, List.setIfInBounds_toArray, List.set_cons_zero, List.set_cons_succ]
          refine wpAnyH_take (i := 6) (v := ?_) rfl (by kernel_rfl) (by kernel_rfl) (by kernel_rfl) (fun _ _ _ h => h) (Or.inl ⟨by kernel_rfl, ?_⟩) (by assumption) ?_
          rotate_left
          · (intro w hSw; (try dsimp only at hSw); go_simp) <;> (try (with_reducible rfl))
          try simp only [Act.put, Array.getInternal_eq_getElem, List.getElem_toArray, List.getElem_cons_zero, List.getElem_cons_succ, List.setIfInBounds_toArray, List.set_cons_zero, List.set_cons_succ]
          refine wpAnyH_ready (rs := [7]) (by kernel_rfl) (by simp) ?_
          refine AllReadyH.cons rfl (fun K hK => ?_) AllReadyH.nil
          (rw [if_pos (by kernel_rfl)]; simp only [Array.getInternal_eq_getElem, List.getElem_toArray, List.getElem_cons_zero, List.getElem_cons_succ]; refine wp_store_mid 28 _ _ rfl w.heap.size 0 CX.toArray rfl rfl HT9.out.1 HT9.out.2.1 HT9.out.2.2 ?_; simp only [List.toList_toArray, Act.put]; rw [← HW9.out])
          refine hK.out _ _ HK7.out (fun hHeld => ?_)
          clear hK K
          try simp only [Act.put, Array.getInternal_eq_getElem, List.getElem_toArray, List.getElem_cons_zero, List.getElem_cons_succ, List.setIfInBounds_toArray, List.set_cons_zero, List.set_cons_succ]
          refine wpAnyH_done ?_ ?_ _
          · kernel_rfl
          clear hHeld
          go_wp2
          go_roundw
          case rel => exact ⟨qs', x, HNX.out⟩
          case measure => simp
end
end Go.Proofs.YtgcdhfpbmcfedaaGreatDoor.pf
end
section
set_option linter.unusedVariables false
set_option linter.unusedSimpArgs false
namespace Go.Proofs.YtgcdhfpbmcfedaaGreatDoor.pf
open Go.RowKit Go.Shelf Go.Proofs.YtgcdhfpbmcfedaaGreatDoor.oc Go.Proofs.YtgcdhfpbmcfedaaGreatDoor.mz Go.Proofs.YtgcdhfpbmcfedaaGreatDoor.wh Go.Proofs.YtgcdhfpbmcfedaaGreatDoor.qk
theorem addP_len : ∀ (n : Nat) (l : List Px) (p : Px), l.length = n → (addP l p).length ≤ l.length + 1
  | 0, l, p, h => by obtain rfl := List.length_eq_zero_iff.1 h; simp [addP_nil]
  | n + 1, l, p, h => by
    rcases List.eq_nil_or_concat l with rfl | ⟨r, x, rfl⟩
    · simp at h
    · rw [List.concat_eq_append] at *
      rw [addP_snoc]
      split
      · omega
      · split
        · have := addP_len n r (whole x p).1 (by simpa using h)
          simp; omega
        · simp
theorem fold_len : ∀ (s l : List Px), (s.foldl addP l).length ≤ l.length + s.length
  | [], l => by simp
  | p :: s, l => by
    have := fold_len s (addP l p)
    have h2 := addP_len _ l p rfl
    simp only [List.foldl_cons, List.length_cons]
    omega
/-- the first m of a row in order, each added -/
noncomputable def upP (s : List Px) (m : Nat) : List Px := mergeP (s.take m)
theorem upP_zero (s : List Px) : upP s 0 = [] := rfl
theorem upP_all (s : List Px) : upP s s.length = mergeP s := by unfold upP; rw [List.take_length]
theorem upP_next {s : List Px} {m : Nat} {p : Px} (h : s[m]? = some p) : upP s (m + 1) = addP (upP s m) p := by
  obtain ⟨hm, rfl⟩ := List.getElem?_eq_some_iff.1 h
  unfold upP mergeP
  rw [List.take_succ_eq_append_getElem hm, List.foldl_append]
  rfl
theorem upP_len (s : List Px) (m : Nat) (h : m ≤ s.length) : (upP s m).length ≤ m := by
  have := fold_len (s.take m) []
  rw [List.length_take, Nat.min_eq_left h] at this
  simpa [upP, mergeP] using this
theorem upP_ok {s : List Px} (ho : ∀ p ∈ s, p.a.Wf ∧ okP p) (hs : s.Pairwise (fun p q => KP p ≤ KP q)) (m : Nat) : ∀ q ∈ upP s m, okP q := fun q hq =>
  ((merge_ok (s.take m) (fun p hp => ho p (List.mem_of_mem_take hp)) (hs.sublist (List.take_sublist _ _))).1.nrm.ok q hq).2
section
variable (w : World)
set_option maxRecDepth 100000 in
set_option maxHeartbeats 4000000 in
/-- Merge: the loop behind the sort -/
def MgAns (w : World) (l : List Px) (e : Ending) (w' : World) : Prop :=
  ((∀ p ∈ l, okP p) ∧ ∃ v' s, e = .returned (.tuple #[v', .int .i64 0]) ∧ s.Perm l ∧ s.Pairwise (fun p q => KP p ≤ KP q) ∧ Pm w.heap.size w' v' (mergeP s)) ∨ (¬ (∀ p ∈ l, okP p) ∧ e = .returned (.tuple #[.slice none 0 0, .int .i64 151]))
set_option maxRecDepth 100000 in
set_option maxHeartbeats 1500000 in
theorem pmerge_row (b c : Nat) (l : List Px) (h : Rw w b l) (hl : l.length ≤ 1000000) (hc : l.length ≤ c) : Calls Tryz.prog 36 #[.slice (some ⟨b, 0, none⟩) l.length c] w fun e w' => MgAns w l e w' ∧ ∀ S, Keeps S w w' := by
  obtain ⟨n, hn⟩ : ∃ n, n = l.length := ⟨_, rfl⟩
  have HH := Lib.hid h
  have HN := Lib.hid hn
  have n0 : (0 : Int) ≤ (n : Int) := by omega
  have n1 : (n : Int) ≤ 1000000 := by omega
  have HC := Lib.hid hc
  rw [← hn]
  clear h hc hl hn
  go_enter Tryz.func36, Tryz.ntmps36
  go_wp2_with fail
  go_loopw [12] (fun v wr => ∃ m : Nat, v = .int .i64 (m : Int) ∧ m ≤ n ∧ (∀ j p, j < m → l[j]? = some p → okP p) ∧ Rw wr b l ∧ ∀ S, Keeps S w wr) (fun v _ => n - (intOf v).toNat)
  case atStart => exact ⟨0, rfl, Nat.zero_le _, fun j p hj => by omega, HH.out, fun S => Keeps.refl S w⟩
  case round =>
    obtain ⟨m, rfl, hm, hok, hrw, hk⟩ := hrel
    have m0 : (0 : Int) ≤ (m : Int) := by omega
    by_cases hlt : m < n
    · have hlt' : (m : Int) < (n : Int) := by omega
      obtain ⟨p, hp⟩ : ∃ p, l[m]? = some p := ⟨_, List.getElem?_eq_getElem (by rw [← HN.out]; exact hlt)⟩
      have hpw : p.a.Wf := hrw.wf p (List.mem_of_getElem? hp)
      have HRG := Lib.hid (hrw.el hp)
      have HSL := Lib.hid (px_sz hpw)
      obtain ⟨w3, hw3, B3, K3⟩ := new_zp wr
      obtain ⟨o1, o2, o3, o5, o6⟩ := over_px (c := p) hpw B3 rfl
      obtain ⟨w4, hw4⟩ : ∃ w4, w4 = w3.setCells wr.heap.size 0 (pxc p) := ⟨_, rfl⟩
      rw [← hw4] at o5 o6
      have KO4 := Lib.hid (show ∀ S, Keeps S wr w4 from fun S => ((K3 (fun b => wr.heap.size ≤ b)).trans (o6.mono (fun b _ e => by omega))).only (fun b e => e) |>.mono (fun _ _ z => z.elim))
      have BL4 := Lib.hid o5
      have HTL := Lib.hid (And.intro o1 (And.intro o2 o3))
      have HW4 := Lib.hid hw4
      have HL4 := Lib.hid (Blk.range BL4.out)
      subst hw3

      have HCK := fun w => Lib.hid (pcheck_ w p hpw)
      have HK := Lib.hid hk
      have HOK := Lib.hid hok
      have HRW := Lib.hid hrw
      have HP := Lib.hid hp
      have hw1 : wrap64 ((m : Int) + 1) = (m : Int) + 1 := by unfold wrap64; omega
      clear hk hok hrw hp hpw o1 o2 o3 o5 o6 B3 K3 hw4
      unfold pv at HCK
      obtain ⟨CL, hCL⟩ : ∃ CL, CL = pxc p := ⟨_, rfl⟩
      rw [← hCL] at HCK HRG HSL HTL HW4 HL4
      clear hCL
      go_wp2_with (first
        | ((with_reducible show wpList _ _ _ (⟨some 15, _, _, _, _, _⟩ :: _) _ _); refine wpList_load_mid rfl 28 _ rfl b (m * 18) rfl CL _ HRG.out Tryz.underlying28 rfl HSL.out ?_)
        | (refine wpList_store_mid rfl 28 _ _ rfl wr.heap.size 0 CL.toArray rfl rfl HTL.out.1 HTL.out.2.1 HTL.out.2.2 ?_; rw [← HW4.out])
        | ((with_reducible show wpList _ _ _ (⟨some 16, _, _, _, _, _⟩ :: _) _ _); refine wpList_load_mid rfl 28 _ rfl wr.heap.size 0 rfl CL _ HL4.out Tryz.underlying28 rfl HSL.out ?_))

      refine (HCK _).out.mono ?_
      rintro e w5 ⟨rfl, k5⟩
      have KK := Lib.hid (show ∀ S, Keeps S wr w5 from fun S => (KO4.out S).trans (k5 S))
      clear k5 HCK
      by_cases ho : okP p
      · have he : errP p = 0 := if_pos ho
        rw [he]
        have HO := Lib.hid ho
        clear he ho
        go_wp2_with fail
        go_roundw
        case rel => exact ⟨m + 1, by go_num, hlt, fun j q hj hq => by
          rcases Nat.lt_or_ge j m with z | z
          · exact HOK.out j q z hq
          · obtain rfl : j = m := by omega
            rw [HP.out] at hq
            cases hq
            exact HO.out, HRW.out.keeps (KK.out (fun _ => False)) (fun z => z), fun S => (HK.out S).trans (KK.out S)⟩
        case measure => simp [intOf]; omega
      · have he : errP p = 151 := if_neg ho
        rw [he]
        have HO := Lib.hid ho
        clear he ho
        go_wp2
        try rw [Exit.noGoto_ret]
        go_ret2
        refine ⟨.inr ⟨fun z => HO.out (z p (List.mem_of_getElem? HP.out)), rfl⟩, fun S => (HK.out S).trans (KK.out S)⟩
    · obtain rfl : m = n := by omega
      have hall : ∀ p ∈ l, okP p := fun p hp => by
        obtain ⟨j, hj, rfl⟩ := List.getElem_of_mem hp
        exact hok j _ (by rw [HN.out]; exact hj) (List.getElem?_eq_getElem hj)
      have HALL := Lib.hid hall
      have HK := Lib.hid hk
      have HCL := Lib.hid (pclone_ wr b m c l hrw HN.out (by have := HN.out; omega))
      clear hall hk hok hrw hm hlt
      go_wp2_with fail
      refine HCL.out.mono ?_
      rintro e w5 ⟨v5, rfl, g5, k5⟩
      have HS := Lib.hid (psort_ w5 wr.heap.size v5 m l g5 HN.out (by omega) HH.out.wf HALL.out)
      have K5 := Lib.hid (show ∀ S, Keeps S w w5 from fun S => (HK.out S).trans (k5 S))
      have hB : w.heap.size ≤ wr.heap.size := (HK.out (fun _ => False)).size
      have HB := Lib.hid hB
      clear g5 k5 HCL hB
      go_wp2_with fail
      refine HS.out.mono ?_
      rintro e w6 ⟨rfl, g, c6, s, rfl, hbg, hp6, hs6, r6, k6⟩
      have K6 := Lib.hid (show ∀ S, Keeps S w w6 from fun S => (((K5.out (fun b => w.heap.size ≤ b)).trans (k6.mono (fun b _ e => by have := HB.out; omega))).only (fun b e => e)).mono (fun _ _ z => z.elim))
      have HP6 := Lib.hid hp6
      have HS6 := Lib.hid hs6
      have HR6 := Lib.hid r6
      have hml : s.length = m := by rw [HP6.out.length_eq, HN.out]
      have HML := Lib.hid hml
      have HOS := Lib.hid (show ∀ p ∈ s, p.a.Wf ∧ okP p from fun p hp => ⟨r6.wf p hp, HALL.out p (HP6.out.mem_iff.1 hp)⟩)
      clear hp6 hs6 r6 k6 hml HS hbg
      go_wp2_with fail
      go_loopw [7, 28] (fun vm v wr => ∃ k : Nat, v = .int .i64 (k : Int) ∧ k ≤ m ∧ Pm w6.heap.size wr vm (upP s k) ∧ ∀ S, Keeps S w6 wr) (fun _ v _ => m - (intOf v).toNat)
      case atStart => exact ⟨0, rfl, Nat.zero_le _, by rw [upP_zero]; exact Pm.nil_ _ _, fun S => Keeps.refl S w6⟩
      case round =>
        obtain ⟨k, rfl, hkm, hpm, hk2⟩ := hrel
        have k0 : (0 : Int) ≤ (k : Int) := by omega
        by_cases hlt : k < m
        · have hlt' : (k : Int) < (m : Int) := by omega
          obtain ⟨p, hp⟩ : ∃ p, s[k]? = some p := ⟨_, List.getElem?_eq_getElem (by rw [HML.out]; exact hlt)⟩
          have hrw := HR6.out.keeps (hk2 (fun _ => False)) (fun z => z)
          have hpw : p.a.Wf := hrw.wf p (List.mem_of_getElem? hp)
          have HRG := Lib.hid (hrw.el hp)
          have HSL := Lib.hid (px_sz hpw)
          obtain ⟨w3, hw3, B3, K3⟩ := new_zp wr
          obtain ⟨o1, o2, o3, o5, o6⟩ := over_px (c := p) hpw B3 rfl
          obtain ⟨w4, hw4⟩ : ∃ w4, w4 = w3.setCells wr.heap.size 0 (pxc p) := ⟨_, rfl⟩
          rw [← hw4] at o5 o6
          have KO4 := Lib.hid (show ∀ S, Keeps S wr w4 from fun S => ((K3 (fun b => wr.heap.size ≤ b)).trans (o6.mono (fun b _ e => by omega))).only (fun b e => e) |>.mono (fun _ _ z => z.elim))
          have BL4 := Lib.hid o5
          have HTL := Lib.hid (And.intro o1 (And.intro o2 o3))
          have HW4 := Lib.hid hw4
          have HL4 := Lib.hid (Blk.range BL4.out)
          subst hw3

          have hp4 := hpm.keeps (KO4.out (fun _ => False)) (fun _ _ z => z)
          have HA := Lib.hid (fun (w9 : World) (k9 : w9 = w4) => add_ w9 w6.heap.size u7 (upP s k) p hpw (by rw [k9]; exact hp4) (upP_ok HOS.out HS6.out k) (by rw [k9]; exact Nat.le_trans (hk2 (fun _ => False)).size (KO4.out (fun _ => False)).size) (Nat.le_trans (upP_len s k (by rw [HML.out]; exact hkm)) (by omega)))
          have HK := Lib.hid hk2
          have HNX := Lib.hid (upP_next hp)
          have hw1 : wrap64 ((k : Int) + 1) = (k : Int) + 1 := by unfold wrap64; omega
          clear hk2 hpm hp4 hrw hp hpw o1 o2 o3 o5 o6 B3 K3 hw4
          unfold pv at HA
          obtain ⟨CL, hCL⟩ : ∃ CL, CL = pxc p := ⟨_, rfl⟩
          rw [← hCL] at HA HRG HSL HTL HW4 HL4
          clear hCL
          go_wp2_with (first
            | ((with_reducible show wpList _ _ _ (⟨some 31, _, _, _, _, _⟩ :: _) _ _); refine wpList_load_mid rfl 28 _ rfl g (k * 18) rfl CL _ HRG.out Tryz.underlying28 rfl HSL.out ?_)
            | (refine wpList_store_mid rfl 28 _ _ rfl wr.heap.size 0 CL.toArray rfl rfl HTL.out.1 HTL.out.2.1 HTL.out.2.2 ?_; rw [← HW4.out])
            | ((with_reducible show wpList _ _ _ (⟨some 33, _, _, _, _, _⟩ :: _) _ _); refine wpList_load_mid rfl 28 _ rfl wr.heap.size 0 rfl CL _ HL4.out Tryz.underlying28 rfl HSL.out ?_))

          refine (HA.out _ rfl).mono ?_
          rintro e w7 ⟨v7, rfl, p7, k7⟩
          rw [← HNX.out] at p7
          have HP7 := Lib.hid p7
          have HZ : Hid (w6.heap.size ≤ w4.heap.size) := Lib.hid (Nat.le_trans (HK.out (fun _ => False)).size (KO4.out (fun _ => False)).size)
          have K7 := Lib.hid (show ∀ S, Keeps S w6 w7 from fun S => ((((HK.out (fun b => w6.heap.size ≤ b)).trans (KO4.out _)).trans k7).only (fun b e => e)).mono (fun _ _ z => z.elim))
          clear p7 k7 HA
          go_wp2_with fail
          go_roundw
          case rel => exact ⟨k + 1, by go_num, hlt, HP7.out, K7.out⟩
          case measure => simp [intOf]; omega
        · obtain rfl : k = m := by omega
          have hb6 : w.heap.size ≤ w6.heap.size := (K6.out (fun _ => False)).size
          rw [← HML.out, upP_all] at hpm
          have HPM := Lib.hid hpm
          have HK := Lib.hid hk2
          clear hk2 hpm hlt hkm
          go_wp2
          try rw [Exit.noGoto_ret]
          go_ret2
          refine ⟨.inl ⟨HALL.out, _, s, rfl, HP6.out, HS6.out, ?_⟩, fun S => (K6.out S).trans (HK.out S)⟩
          exact HPM.out.wide hb6
end
end Go.Proofs.YtgcdhfpbmcfedaaGreatDoor.pf
end
section
set_option linter.unusedVariables false
set_option linter.unusedSimpArgs false
namespace Go.Proofs.YtgcdhfpbmcfedaaGreatDoor.pf
open Go.RowKit Go.Proofs.YtgcdhfpbmcfedaaGreatDoor.oc Go.Proofs.YtgcdhfpbmcfedaaGreatDoor.mz Go.Proofs.YtgcdhfpbmcfedaaGreatDoor.wh Go.Proofs.YtgcdhfpbmcfedaaGreatDoor.qk
open Classical in
noncomputable def rdA (l : List Nat) : Ad × Int := if h : ∃ a, IsText l a then (h.choose, 0) else (zeroA, 150)
open Classical in
noncomputable def rdP (l : List Nat) : Px × Int := if h : ∃ p, IsPText l p then (h.choose, 0) else (zeroP, 151)
theorem IsPText.one {l : List Nat} {p q : Px} (h : IsPText l p) (k : IsPText l q) : p = q := h.uniq k (h.cut.1.uniq k.cut.1)
theorem rdA_yes {l : List Nat} {a : Ad} (h : IsText l a) : rdA l = (a, 0) := by
  have hx : ∃ a, IsText l a := ⟨a, h⟩
  unfold rdA
  rw [dif_pos hx, hx.choose_spec.uniq h]
theorem rdA_no {l : List Nat} (h : ∀ a, ¬ IsText l a) : rdA l = (zeroA, 150) := by unfold rdA; rw [dif_neg (fun ⟨a, k⟩ => h a k)]
theorem RdA.plain {l : List Nat} {e : Ending} (h : RdA l e) : e = .returned (.tuple #[av (rdA l).1, .int .i64 (rdA l).2]) := by
  rcases h with ⟨a, ha, rfl⟩ | ⟨hn, rfl⟩
  · rw [rdA_yes ha]
  · rw [rdA_no hn]
theorem rdA_wf (l : List Nat) : (rdA l).1.Wf := by
  rcases Classical.em (∃ a, IsText l a) with ⟨a, ha⟩ | hn
  · rw [rdA_yes ha]; exact ha.1
  · rw [rdA_no (fun a k => hn ⟨a, k⟩)]; exact zeroA_wf
theorem rdP_yes {l : List Nat} {p : Px} (h : IsPText l p) : rdP l = (p, 0) := by
  have hx : ∃ p, IsPText l p := ⟨p, h⟩
  unfold rdP
  rw [dif_pos hx, hx.choose_spec.one h]
theorem rdP_no {l : List Nat} (h : ∀ p, ¬ IsPText l p) : rdP l = (zeroP, 151) := by unfold rdP; rw [dif_neg (fun ⟨a, k⟩ => h a k)]
theorem RdP.plain {l : List Nat} {e : Ending} (h : RdP l e) : e = .returned (.tuple #[pv (rdP l).1, .int .i64 (rdP l).2]) := by
  rcases h with ⟨a, ha, rfl⟩ | ⟨hn, rfl⟩
  · rw [rdP_yes ha]
  · rw [rdP_no hn]
theorem rdP_wf (l : List Nat) : (rdP l).1.a.Wf := by
  rcases Classical.em (∃ a, IsPText l a) with ⟨a, ha⟩ | hn
  · rw [rdP_yes ha]; exact ha.1
  · rw [rdP_no (fun a k => hn ⟨a, k⟩)]; exact zeroP_wf
open Classical in
/-- what Of answers -/
noncomputable def ofA (a : Ad) (bits : Int) : Px × Int := if okA a then (if 0 ≤ bits ∧ bits ≤ (wid a : Int) then (ofP a bits.toNat, 0) else (zeroP, 151)) else (zeroP, 150)
open Classical in
/-- what Halves answers -/
noncomputable def hvA (p : Px) : Px × Px × Int := if okP p then (if p.bits = (wid p.a : Int) then (zeroP, zeroP, 5) else (half0 p, half1 p, 0)) else (zeroP, zeroP, 151)
open Classical in
/-- what AddrText answers -/
noncomputable def txA (a : Ad) : List Nat × Int := if okA a then (atext a, 0) else ([], 150)
open Classical in
/-- what Text answers -/
noncomputable def txP (p : Px) : List Nat × Int := if okP p then (ptext p, 0) else ([], 151)
theorem ofA_wf {a : Ad} (h : a.Wf) (b : Int) : (ofA a b).1.a.Wf := by
  unfold ofA
  split
  · split
    · exact clr_wf h _
    · exact zeroP_wf
  · exact zeroP_wf
theorem ofA_in {a : Ad} (ho : okA a) {b : Int} (h0 : 0 ≤ b) (h1 : b ≤ (wid a : Int)) : ofA a b = (ofP a b.toNat, 0) := by unfold ofA; rw [if_pos ho, if_pos ⟨h0, h1⟩]
theorem hvA_wf {p : Px} (h : p.a.Wf) : (hvA p).1.a.Wf ∧ (hvA p).2.1.a.Wf := by
  unfold hvA
  split
  · rename_i ho
    split
    · exact ⟨zeroP_wf, zeroP_wf⟩
    · rename_i hb
      exact ⟨h, half1_wf h ho hb⟩
  · exact ⟨zeroP_wf, zeroP_wf⟩
theorem txA_yes {a : Ad} (h : okA a) : txA a = (atext a, 0) := by unfold txA; rw [if_pos h]
theorem txP_yes {p : Px} (h : okP p) : txP p = (ptext p, 0) := by unfold txP; rw [if_pos h]
section
variable (w : World)
theorem pofa_ (a : Ad) (bits : Int) (ha : a.Wf) : Calls Tryz.prog 11 #[av a, .int .i64 bits] w fun e w' => e = .returned (.tuple #[pv (ofA a bits).1, .int .i64 (ofA a bits).2]) ∧ ∀ S, Keeps S w w' := by
  unfold ofA
  by_cases ho : okA a
  · rw [if_pos ho]
    by_cases hb : 0 ≤ bits ∧ bits ≤ (wid a : Int)
    · rw [if_pos hb]
      exact pof_in w a bits ha bits.toNat (by omega) ho (by omega)
    · rw [if_neg hb]
      by_cases h0 : bits < 0
      · exact pof_neg w a bits ha ho h0
      · exact pof_over w a bits ha ho h0 (by omega)
  · rw [if_neg ho]
    exact pof_addr w a bits ha ho
theorem phva_ (p : Px) (hp : p.a.Wf) : Calls Tryz.prog 16 #[pv p] w fun e w' => e = .returned (.tuple #[pv (hvA p).1, pv (hvA p).2.1, .int .i64 (hvA p).2.2]) ∧ ∀ S, Keeps S w w' := by
  unfold hvA
  by_cases ho : okP p
  · rw [if_pos ho]
    by_cases hb : p.bits = (wid p.a : Int)
    · rw [if_pos hb]; exact phalves_whole w p hp ho hb
    · rw [if_neg hb]; exact phalves_in w p hp ho hb
  · rw [if_neg ho]; exact phalves_none w p hp ho
theorem ptxa_ (a : Ad) (ha : a.Wf) (henv : Env w) : Calls Tryz.prog 27 #[av a] w fun e w' => e = .returned (.tuple #[.string (str (txA a).1), .int .i64 (txA a).2]) ∧ ∀ S, Keeps S w w' := by
  refine (paddrtext_ w a ha henv).mono ?_
  rintro e w' ⟨h, k⟩
  refine ⟨?_, k⟩
  unfold txA
  rcases h with ⟨ho, rfl⟩ | ⟨ho, rfl⟩
  · rw [if_pos ho]
  · rw [if_neg ho]
theorem ptxp_ (p : Px) (hp : p.a.Wf) (henv : Env w) : Calls Tryz.prog 29 #[pv p] w fun e w' => e = .returned (.tuple #[.string (str (txP p).1), .int .i64 (txP p).2]) ∧ ∀ S, Keeps S w w' := by
  refine (ptext_ w p hp henv).mono ?_
  rintro e w' ⟨h, k⟩
  refine ⟨?_, k⟩
  unfold txP
  rcases h with ⟨ho, rfl⟩ | ⟨ho, rfl⟩
  · rw [if_pos ho]
  · rw [if_neg ho]
theorem prda_ (l : List Nat) (hl : ∀ x ∈ l, x < 256) (hn : l.length < 140737488355328) (henv : Env w) : Calls Tryz.prog 32 #[.string (str l)] w fun e w' => e = .returned (.tuple #[av (rdA l).1, .int .i64 (rdA l).2]) ∧ ∀ S, Keeps S w w' :=
  (preadaddr_ w l hl hn henv).mono fun _ _ ⟨h, k⟩ => ⟨h.plain, k⟩
theorem prdp_ (l : List Nat) (hl : ∀ x ∈ l, x < 256) (hn : l.length < 140737488355328) (henv : Env w) : Calls Tryz.prog 33 #[.string (str l)] w fun e w' => e = .returned (.tuple #[pv (rdP l).1, .int .i64 (rdP l).2]) ∧ ∀ S, Keeps S w w' :=
  (pread_ w l hl hn henv).mono fun _ _ ⟨h, k⟩ => ⟨h.plain, k⟩
end
end Go.Proofs.YtgcdhfpbmcfedaaGreatDoor.pf
end
section
set_option linter.unusedVariables false
set_option linter.unusedSimpArgs false
namespace Go.Proofs.YtgcdhfpbmcfedaaGreatDoor.pf
open Go.RowKit Go.Proofs.YtgcdhfpbmcfedaaGreatDoor.oc Go.Proofs.YtgcdhfpbmcfedaaGreatDoor.mz Go.Proofs.YtgcdhfpbmcfedaaGreatDoor.wh Go.Proofs.YtgcdhfpbmcfedaaGreatDoor.qk
/-- a prefix is laid in a box of its own -/
theorem box_px (w : World) (p : Px) (hp : p.a.Wf) : ∃ w2, w2 = (w.alloc (.cells #[.bool false, .int .u8 0, .int .u8 0, .int .u8 0, .int .u8 0, .int .u8 0, .int .u8 0, .int .u8 0, .int .u8 0, .int .u8 0, .int .u8 0, .int .u8 0, .int .u8 0, .int .u8 0, .int .u8 0, .int .u8 0, .int .u8 0, .int .i64 0] 28)).setCells w.heap.size 0 (pxc p) ∧
    ((w.alloc (.cells #[.bool false, .int .u8 0, .int .u8 0, .int .u8 0, .int .u8 0, .int .u8 0, .int .u8 0, .int .u8 0, .int .u8 0, .int .u8 0, .int .u8 0, .int .u8 0, .int .u8 0, .int .u8 0, .int .u8 0, .int .u8 0, .int .u8 0, .int .i64 0] 28)).there w.heap.size 0 (pxc p).toArray.size ∧ (Tryz.prog.info? 28).map (·.size) = some (pxc p).toArray.size ∧ (pxc p).toArray.all (·.oneCell') = true) ∧
    Blk w2 w.heap.size 28 (pxc p) ∧ ∀ S, Keeps S w w2 := by
  obtain ⟨w3, hw3, B3, K3⟩ := new_zp w
  obtain ⟨o1, o2, o3, o5, o6⟩ := over_px (c := p) hp B3 rfl
  subst hw3
  exact ⟨_, rfl, ⟨o1, o2, o3⟩, o5, glue_all (Nat.le_refl _) K3 o6⟩
/-- an address is laid in a box of its own -/
theorem box_ad (w : World) (a : Ad) (ha : a.Wf) : ∃ w2, w2 = (w.alloc (.cells #[.bool false, .int .u8 0, .int .u8 0, .int .u8 0, .int .u8 0, .int .u8 0, .int .u8 0, .int .u8 0, .int .u8 0, .int .u8 0, .int .u8 0, .int .u8 0, .int .u8 0, .int .u8 0, .int .u8 0, .int .u8 0, .int .u8 0] 24)).setCells w.heap.size 0 (adc a) ∧
    ((w.alloc (.cells #[.bool false, .int .u8 0, .int .u8 0, .int .u8 0, .int .u8 0, .int .u8 0, .int .u8 0, .int .u8 0, .int .u8 0, .int .u8 0, .int .u8 0, .int .u8 0, .int .u8 0, .int .u8 0, .int .u8 0, .int .u8 0, .int .u8 0] 24)).there w.heap.size 0 (adc a).toArray.size ∧ (Tryz.prog.info? 24).map (·.size) = some (adc a).toArray.size ∧ (adc a).toArray.all (·.oneCell') = true) ∧
    Blk w2 w.heap.size 24 (adc a) ∧ ∀ S, Keeps S w w2 := by
  obtain ⟨w3, hw3, B3, K3⟩ := new_zero w
  obtain ⟨o1, o2, o3, o5, o6⟩ := over_ad ha B3 rfl
  subst hw3
  exact ⟨_, rfl, ⟨o1, o2, o3⟩, o5, glue_all (Nat.le_refl _) K3 o6⟩
end Go.Proofs.YtgcdhfpbmcfedaaGreatDoor.pf
end
section
set_option linter.unusedVariables false
set_option linter.unusedSimpArgs false
namespace Go.Proofs.YtgcdhfpbmcfedaaGreatDoor.pf
open Go.RowKit Go.Proofs.YtgcdhfpbmcfedaaGreatDoor.oc Go.Proofs.YtgcdhfpbmcfedaaGreatDoor.mz Go.Proofs.YtgcdhfpbmcfedaaGreatDoor.wh Go.Proofs.YtgcdhfpbmcfedaaGreatDoor.qk
def wk1 : Px := ⟨⟨false, [10, 128, 0, 0, 0, 0, 0, 0, 0, 0, 0, 0, 0, 0, 0, 0]⟩, 9⟩
def wk2 : Px := ⟨⟨false, [10, 0, 0, 0, 0, 0, 0, 0, 0, 0, 0, 0, 0, 0, 0, 0]⟩, 9⟩
def wk8 : Px := ⟨⟨false, [10, 0, 0, 0, 0, 0, 0, 0, 0, 0, 0, 0, 0, 0, 0, 0]⟩, 8⟩
def wkx : Ad := ⟨true, [0, 1, 0, 0, 0, 0, 0, 2, 0, 0, 0, 0, 0, 3, 0, 4]⟩
theorem px_lit (v : Bool) (B : List Nat) (k : Nat) (h1 : B.length = 16) (h2 : ∀ x ∈ B, x < 256) (h3 : ∀ i, i < 16 → wid ⟨v, B⟩ / 8 ≤ i → byt ⟨v, B⟩ i = 0) (h4 : k ≤ wid ⟨v, B⟩) (h5 : ∀ i, i < wid ⟨v, B⟩ → k ≤ i → bit ⟨v, B⟩ i = false) : Ad.Wf ⟨v, B⟩ ∧ okP ⟨⟨v, B⟩, (k : Int)⟩ :=
  ⟨⟨h1, h2⟩, fun i a b => h3 i b a, ⟨Int.natCast_nonneg k, Int.ofNat_le.2 h4⟩, fun i a b => h5 i b (Int.ofNat_le.1 a)⟩
theorem wk1_ok : wk1.a.Wf ∧ okP wk1 := px_lit false _ 9 (by decide) (by decide) (by decide +kernel) (by decide) (by decide +kernel)
theorem wk2_ok : wk2.a.Wf ∧ okP wk2 := px_lit false _ 9 (by decide) (by decide) (by decide +kernel) (by decide) (by decide +kernel)
theorem wk8_ok : wk8.a.Wf ∧ okP wk8 := px_lit false _ 8 (by decide) (by decide) (by decide +kernel) (by decide) (by decide +kernel)
theorem wkx_ok : wkx.Wf ∧ okA wkx := ⟨⟨by decide, by decide⟩, fun i h1 h2 => absurd h1 (by rw [show wid wkx / 8 = 16 from by decide]; omega)⟩
theorem wk1_text : IsPText [49, 48, 46, 49, 50, 56, 46, 48, 46, 48, 47, 57] wk1 := ⟨wk1_ok.1, wk1_ok.2, by decide +kernel⟩
theorem wk2_text : IsPText [49, 48, 46, 48, 46, 48, 46, 48, 47, 57] wk2 := ⟨wk2_ok.1, wk2_ok.2, by decide +kernel⟩
theorem wkx_text : IsText [49, 58, 58, 50, 58, 48, 58, 48, 58, 51, 58, 52] wkx := ⟨wkx_ok.1, wkx_ok.2, by decide +kernel⟩
theorem wk_merge (s : List Px) (h1 : List.Perm s [wk1, wk2]) (h2 : s.Pairwise (fun p q => KP p ≤ KP q)) : mergeP s = [wk8] := by
  have ho : ∀ p ∈ s, p.a.Wf ∧ okP p := fun p hp => by
    have := h1.mem_iff.1 hp
    simp at this
    rcases this with rfl | rfl
    · exact wk1_ok
    · exact wk2_ok
  obtain ⟨m1, m2⟩ := merge_ok s ho h2
  have hb8 : ¬ wk8.bits = (wid wk8.a : Int) := by decide
  have e0 : half0 wk8 = wk2 := rfl
  have e1 : half1 wk8 = wk1 := by decide +kernel
  obtain ⟨g1, g2, _⟩ := addP_ok 0 [] wk8 rfl Mg.nil wk8_ok.1 wk8_ok.2 (fun y hy => by simp at hy)
  rw [addP_nil] at g1 g2
  refine mg_one m1 g1 fun b _ => ?_
  rw [m2, g2]
  have t0 := half0_has wk8_ok.1 wk8_ok.2 hb8 b
  have t1 := half1_has wk8_ok.1 wk8_ok.2 hb8 b
  rw [e0] at t0
  rw [e1] at t1
  constructor
  · rintro ⟨p, hp, hh⟩
    have := h1.mem_iff.1 hp
    simp at this
    rcases this with rfl | rfl
    · exact .inr (t1.1 hh).1
    · exact .inr (t0.1 hh).1
  · rintro (⟨p, hp, _⟩ | hh)
    · simp at hp
    · cases hbit : bit b wk8.bits.toNat with
      | false => exact ⟨wk2, h1.mem_iff.2 (by simp), t0.2 ⟨hh, hbit⟩⟩
      | true => exact ⟨wk1, h1.mem_iff.2 (by simp), t1.2 ⟨hh, hbit⟩⟩
section
variable (w : World)
set_option maxRecDepth 100000 in
set_option maxHeartbeats 1500000 in
theorem works_ (henv : Env w) : Calls Tryz.prog 17 #[] w fun e w' => e = .returned (.bool true) ∧ ∀ S, Keeps S w w' := by
  have H1 := fun w (h : Env w) => Lib.hid (prdp_ w [49, 48, 46, 49, 50, 56, 46, 48, 46, 48, 47, 57] (by decide) (by decide) h)
  have H2 := fun w (h : Env w) => Lib.hid (prdp_ w [49, 48, 46, 48, 46, 48, 46, 48, 47, 57] (by decide) (by decide) h)
  have H4 := fun w (h : Env w) => Lib.hid (prda_ w [49, 58, 58, 50, 58, 48, 58, 48, 58, 51, 58, 52] (by decide) (by decide) h)
  have H5 := fun w (h : Env w) => Lib.hid (ptxa_ w wkx wkx_ok.1 h)
  rw [rdP_yes wk1_text, show str [49, 48, 46, 49, 50, 56, 46, 48, 46, 48, 47, 57] = ⟨#[49, 48, 46, 49, 50, 56, 46, 48, 46, 48, 47, 57]⟩ from rfl] at H1
  rw [rdP_yes wk2_text, show str [49, 48, 46, 48, 46, 48, 46, 48, 47, 57] = ⟨#[49, 48, 46, 48, 46, 48, 46, 48, 47, 57]⟩ from rfl] at H2
  rw [rdA_yes wkx_text, show str [49, 58, 58, 50, 58, 48, 58, 48, 58, 51, 58, 52] = ⟨#[49, 58, 58, 50, 58, 48, 58, 48, 58, 51, 58, 52]⟩ from rfl] at H4
  rw [txA_yes wkx_ok.2, wkx_text.2.2, show str [49, 58, 58, 50, 58, 48, 58, 48, 58, 51, 58, 52] = ⟨#[49, 58, 58, 50, 58, 48, 58, 48, 58, 51, 58, 52]⟩ from rfl] at H5
  have H3 := fun w b (h : Rw w b [wk1, wk2]) => Lib.hid (pmerge_row w b 2 [wk1, wk2] h (by decide) (by decide))
  have HE := Lib.hid henv
  have hw1 := wk1_ok.1
  have hw2 := wk2_ok.1
  have hwx := wkx_ok.1
  obtain ⟨i1, hi, hz0, hz1, hz2⟩ := info_parts px_infoD
  clear henv
  unfold pv at H1 H2
  unfold av at H4 H5
  have HK0 : Hid (∀ S, Keeps S w w) := Lib.hid (fun S => Keeps.refl S w)
  go_enter Tryz.func17, Tryz.ntmps17
  go_wp2_with (fail)
  refine ((H1 w HE.out).out).mono ?_
  rintro e a1 ⟨rfl, k1⟩
  have KA1 : Hid (∀ S, Keeps S w a1) := Lib.hid (fun S => (HK0.out S).trans (k1 S))
  clear k1
  obtain ⟨b1, hb1, ht1, bb1, kb1⟩ := box_px a1 wk1 hw1
  have HT1 := Lib.hid ht1
  have HB1 := Lib.hid hb1
  have B1_b1 := Lib.hid bb1
  have KB1 : Hid (∀ S, Keeps S w b1) := Lib.hid (fun S => (KA1.out S).trans (kb1 S))
  have HZ1 := Lib.hid (px_sz hw1)
  clear hb1 ht1 bb1 kb1
  go_wp2_with ((refine wpList_store_mid rfl 28 _ _ rfl a1.heap.size 0 (pxc wk1).toArray rfl rfl HT1.out.1 HT1.out.2.1 HT1.out.2.2 ?_; rw [← HB1.out]))
  refine ((H2 b1 (HE.out.keeps KB1.out)).out).mono ?_
  rintro e a2 ⟨rfl, k2⟩
  have KA2 : Hid (∀ S, Keeps S w a2) := Lib.hid (fun S => (KB1.out S).trans (k2 S))
  have B1_2 := Lib.hid (Blk.keeps B1_b1.out (k2 (fun _ => False)) (fun z => z))
  clear k2
  obtain ⟨b2, hb2, ht2, bb2, kb2⟩ := box_px a2 wk2 hw2
  have HT2 := Lib.hid ht2
  have HB2 := Lib.hid hb2
  have B2_b2 := Lib.hid bb2
  have KB2 : Hid (∀ S, Keeps S w b2) := Lib.hid (fun S => (KA2.out S).trans (kb2 S))
  have HZ2 := Lib.hid (px_sz hw2)
  have B1_b2 := Lib.hid (Blk.keeps B1_2.out (kb2 (fun _ => False)) (fun z => z))
  clear hb2 ht2 bb2 kb2
  have HR1 := Lib.hid (Blk.range B1_b2.out)
  have HR2 := Lib.hid (Blk.range B2_b2.out)
  have HS1 := Lib.hid (px_sz hw1)
  have HS2 := Lib.hid (px_sz hw2)
  have HC12 : Hid (pxs [wk1, wk2] = pxc wk1 ++ pxc wk2 ∧ (pxc wk1).toArray.size = 18 ∧ (pxc wk2).toArray.size = 18) := Lib.hid ⟨rfl, by rw [List.size_toArray, pxc_len hw1], by rw [List.size_toArray, pxc_len hw2]⟩
  have HRW : Hid (Rw (b2.alloc (.cells (pxc wk1 ++ pxc wk2).toArray 28)) b2.heap.size [wk1, wk2]) := Lib.hid ⟨by simp, fun j v hj => by
    have hb := Blk.new b2 28 (pxc wk1 ++ pxc wk2).toArray
    rw [Nat.zero_add, hb.cell]
    exact hj, fun p hp => by
    simp at hp
    rcases hp with rfl | rfl
    · exact hw1
    · exact hw2⟩
  have H3' := Lib.hid (H3 _ _ HRW.out).out
  rw [show ([wk1, wk2] : List Px).length = 2 from rfl] at H3'
  have KM : Hid (∀ S, Keeps S w (b2.alloc (.cells (pxc wk1 ++ pxc wk2).toArray 28))) := Lib.hid (fun S => (KB2.out S).alloc _)
  clear H1 H2 H3
  obtain ⟨C1, hC1⟩ : ∃ C1, C1 = pxc wk1 := ⟨_, rfl⟩
  obtain ⟨C2, hC2⟩ : ∃ C2, C2 = pxc wk2 := ⟨_, rfl⟩
  rw [← hC1] at HR1 HS1 HC12 HRW H3' KM
  rw [← hC2] at HR2 HS2 HC12 HRW H3' KM HT2 HB2
  try rw [← hC1]
  try rw [← hC2]
  clear hC1 hC2
  go_wp2_with (first
    | (refine wpList_store_mid rfl 28 _ _ rfl a2.heap.size 0 C2.toArray rfl rfl HT2.out.1 HT2.out.2.1 HT2.out.2.2 ?_; rw [← HB2.out])
    | ((with_reducible show wpList _ _ _ (⟨some 21, _, _, _, _, _⟩ :: _) _ _); refine wpList_load_mid rfl 28 _ rfl a1.heap.size 0 rfl C1 _ HR1.out Tryz.underlying28 rfl HS1.out ?_)
    | ((with_reducible show wpList _ _ _ (⟨some 22, _, _, _, _, _⟩ :: _) _ _); refine wpList_load_mid rfl 28 _ rfl a2.heap.size 0 rfl C2 _ HR2.out Tryz.underlying28 rfl HS2.out ?_)
    | (refine wpList_buildSlice rfl 52 28 2 _ rfl (C1 ++ C2).toArray i1 _ Tryz.underlying52 hi hz0 (by rw [hz1]; decide) (by rw [hz1]; decide) (by rw [hz1, Array.toList_map, show (C1 ++ C2).toArray = C1.toArray ++ C2.toArray from by simp]; exact bs.fill_two C1.toArray C2.toArray _ 18 HC12.out.2.1 HC12.out.2.2 (by rw [bs.range_size])) ?_))
  refine H3'.out.mono ?_
  rintro e a3 ⟨hans, k3⟩
  have KA3 : Hid (∀ S, Keeps S w a3) := Lib.hid (fun S => (KM.out S).trans (k3 S))
  rcases hans with ⟨_, v3, s, rfl, hp, hs, hpm⟩ | ⟨hno, _⟩
  rotate_left
  · exact absurd (fun p hp => by
      simp at hp
      rcases hp with rfl | rfl
      · exact wk1_ok.2
      · exact wk2_ok.2) hno
  rw [wk_merge s hp hs] at hpm
  rcases hpm.rw_ with ⟨_, z⟩ | ⟨g, c3, rfl, hg, hrw⟩
  · simp at z
  have HG0 := Lib.hid hrw.at_
  have KG3 : Hid (∀ j v, (pxs [wk8])[j]? = some v → a3.cell? ⟨g, j, none⟩ = some v) := Lib.hid (fun j v hj => by have := HG0.out j v hj; rwa [Nat.zero_add] at this)
  clear k3 hp hs hpm hrw H3' KM HRW
  go_wp2_with fail
  skip
  refine ((H4 a3 (HE.out.keeps KA3.out)).out).mono ?_
  rintro e a4 ⟨rfl, k4⟩
  have KG4 : Hid (∀ j v, (pxs [wk8])[j]? = some v → a4.cell? ⟨g, j, none⟩ = some v) := Lib.hid (fun j v hj => (k4 (fun _ => False)).cell (KG3.out j v hj) (fun z => z))
  have KA4 : Hid (∀ S, Keeps S w a4) := Lib.hid (fun S => (KA3.out S).trans (k4 S))
  clear k4
  obtain ⟨b4, hb4, ht4, bb4, kb4⟩ := box_ad a4 wkx hwx
  have HT4 := Lib.hid ht4
  have HB4 := Lib.hid hb4
  have B1_b4 := Lib.hid bb4
  have KB4 : Hid (∀ S, Keeps S w b4) := Lib.hid (fun S => (KA4.out S).trans (kb4 S))
  have HZ1 := Lib.hid (ad_sz hwx)
  have KG4b : Hid (∀ j v, (pxs [wk8])[j]? = some v → b4.cell? ⟨g, j, none⟩ = some v) := Lib.hid (fun j v hj => (kb4 (fun _ => False)).cell (KG4.out j v hj) (fun z => z))
  clear hb4 ht4 bb4 kb4
  have HXR := Lib.hid (Blk.range B1_b4.out)
  have HXS := Lib.hid (ad_sz hwx)
  go_wp2_with (first | (refine wpList_store_mid rfl 24 _ _ rfl a4.heap.size 0 (adc wkx).toArray rfl rfl HT4.out.1 HT4.out.2.1 HT4.out.2.2 ?_; rw [← HB4.out]) | ((with_reducible show wpList _ _ _ (⟨some 32, _, _, _, _, _⟩ :: _) _ _); refine wpList_load_mid rfl 24 _ rfl a4.heap.size 0 rfl (adc wkx) _ HXR.out Tryz.underlying24 rfl HXS.out ?_))
  refine ((H5 b4 (HE.out.keeps KB4.out)).out).mono ?_
  rintro e a5 ⟨rfl, k5⟩
  have KG : Hid (∀ j v, (pxs [wk8])[j]? = some v → a5.cell? ⟨g, j, none⟩ = some v) := Lib.hid (fun j v hj => (k5 (fun _ => False)).cell (KG4b.out j v hj) (fun z => z))
  have KA5 : Hid (∀ S, Keeps S w a5) := Lib.hid (fun S => (KB4.out S).trans (k5 S))
  have B1_5 := Lib.hid (Blk.keeps B1_b4.out (k5 (fun _ => False)) (fun z => z))
  clear k5
  have hg17 : a5.cell? ⟨g, 17, none⟩ = some (.int .i64 8) := KG.out 17 _ rfl
  have hg1 : a5.cell? ⟨g, 1, none⟩ = some (.int .u8 10) := KG.out 1 _ rfl
  have hx2 : a5.cell? ⟨a4.heap.size, 2, none⟩ = some (.int .u8 1) := by rw [B1_5.out.cell]; rfl
  have hx16 : a5.cell? ⟨a4.heap.size, 16, none⟩ = some (.int .u8 4) := by rw [B1_5.out.cell]; rfl
  clear KG
  go_wp2
  try rw [Exit.noGoto_ret]
  go_ret
  exact ⟨rfl, KA5.out⟩
end
end Go.Proofs.YtgcdhfpbmcfedaaGreatDoor.pf
end
section
set_option linter.unusedVariables false
set_option linter.unusedSimpArgs false
namespace Go.Proofs.YtgcdhfpbmcfedaaGreatDoor.pf
open Go.RowKit Go.Proofs.YtgcdhfpbmcfedaaGreatDoor.oc Go.Proofs.YtgcdhfpbmcfedaaGreatDoor.mz Go.Proofs.YtgcdhfpbmcfedaaGreatDoor.wh Go.Proofs.YtgcdhfpbmcfedaaGreatDoor.qk
section
variable (w : World)
theorem ofa_ (a : Ad) (bits : Int) (ha : a.Wf) : Calls Tryz.prog 26 #[av a, .int .i64 bits] w fun e w' => e = .returned (.tuple #[pv (ofA a bits).1, .int .i64 (ofA a bits).2]) ∧ ∀ S, Keeps S w w' := by
  unfold ofA
  by_cases ho : okA a
  · rw [if_pos ho]
    by_cases hb : 0 ≤ bits ∧ bits ≤ (wid a : Int)
    · rw [if_pos hb]
      exact of_in w a bits ha bits.toNat (by omega) ho (by omega)
    · rw [if_neg hb]
      by_cases h0 : bits < 0
      · exact of_neg w a bits ha ho h0
      · exact of_over w a bits ha ho h0 (by omega)
  · rw [if_neg ho]
    exact of_addr w a bits ha ho
theorem hva_ (p : Px) (hp : p.a.Wf) : Calls Tryz.prog 31 #[pv p] w fun e w' => e = .returned (.tuple #[pv (hvA p).1, pv (hvA p).2.1, .int .i64 (hvA p).2.2]) ∧ ∀ S, Keeps S w w' := by
  unfold hvA
  by_cases ho : okP p
  · rw [if_pos ho]
    by_cases hb : p.bits = (wid p.a : Int)
    · rw [if_pos hb]; exact halves_whole w p hp ho hb
    · rw [if_neg hb]; exact halves_in w p hp ho hb
  · rw [if_neg ho]; exact halves_none w p hp ho
theorem txa_ (a : Ad) (ha : a.Wf) : Calls Tryz.prog 28 #[av a] w fun e w' => e = .returned (.tuple #[.string (str (txA a).1), .int .i64 (txA a).2]) ∧ ∀ S, Keeps S w w' := by
  refine (addrtext_ a w ha).mono ?_
  rintro e w' ⟨h, k⟩
  refine ⟨?_, k⟩
  unfold txA
  rcases h with ⟨ho, rfl⟩ | ⟨ho, rfl⟩
  · rw [if_pos ho]
  · rw [if_neg ho]
theorem txp_ (p : Px) (hp : p.a.Wf) : Calls Tryz.prog 30 #[pv p] w fun e w' => e = .returned (.tuple #[.string (str (txP p).1), .int .i64 (txP p).2]) ∧ ∀ S, Keeps S w w' := by
  refine (text_ p w hp).mono ?_
  rintro e w' ⟨h, k⟩
  refine ⟨?_, k⟩
  unfold txP
  rcases h with ⟨ho, rfl⟩ | ⟨ho, rfl⟩
  · rw [if_pos ho]
  · rw [if_neg ho]
theorem rda_ (l : List Nat) (hl : ∀ x ∈ l, x < 256) (hn : l.length < 140737488355328) : Calls Tryz.prog 34 #[.string (str l)] w fun e w' => e = .returned (.tuple #[av (rdA l).1, .int .i64 (rdA l).2]) ∧ ∀ S, Keeps S w w' :=
  (readaddr_ w l hl hn).mono fun _ _ ⟨h, k⟩ => ⟨h.plain, k⟩
theorem rdp_ (l : List Nat) (hl : ∀ x ∈ l, x < 256) (hn : l.length < 140737488355328) : Calls Tryz.prog 35 #[.string (str l)] w fun e w' => e = .returned (.tuple #[pv (rdP l).1, .int .i64 (rdP l).2]) ∧ ∀ S, Keeps S w w' :=
  (read_ w l hl hn).mono fun _ _ ⟨h, k⟩ => ⟨h.plain, k⟩
end
end Go.Proofs.YtgcdhfpbmcfedaaGreatDoor.pf
end
section
namespace Go.Proofs.YtgcdhfpbmcfedaaGreatDoor.oc
open Go.ChangeShapes Go.WideShapes Go.ChangeAt Go.RowKit

/-- unsigned numbers as cells -/
def nu (k : IntKind) (l : List Nat) : List Value := l.map (fun x : Nat => Value.int k (x : Int))
/-- numbers of kind k that came in: the slice A of length n and capacity c shows l -/
def IsNums (k : IntKind) (m : Nat) (w : World) (A : Option Addr) (n c : Nat) (l : List Nat) : Prop :=
  l.length = n ∧ n ≤ c ∧ (∀ x ∈ l, x < m) ∧ Rd w w.heap.size A (nu k l)

theorem IsNums.bytes {w : World} {A : Option Addr} {n c : Nat} {l : List Nat} (h : IsNums .u8 256 w A n c l) : l.length = n ∧ n ≤ c ∧ Small l ∧ Rd w w.heap.size A (by_ l) := h
theorem wf_u8 (z : Int) (h : (Lit.int .u8 z).wf = true) : 0 ≤ z ∧ z < ((256 : Nat) : Int) := by
  have : 0 ≤ z ∧ z ≤ 255 := by simpa [Lit.wf, IntKind.min, IntKind.max, IntKind.signed, IntKind.bits] using h
  omega
theorem wf_i64 (z : Int) (h : (Lit.int .i64 z).wf = true) : -9223372036854775808 ≤ z ∧ z ≤ 9223372036854775807 := by
  simpa [Lit.wf, IntKind.min, IntKind.max, IntKind.signed, IntKind.bits] using h

section
variable {H : Type} {enc : TypeId × Value → H} {P : Program} {W : World}
end
end Go.Proofs.YtgcdhfpbmcfedaaGreatDoor.oc
end
section
namespace Go.Proofs.YtgcdhfpbmcfedaaGreatDoor.flat
open Go.ChangeShapes Go.WideShapes Go.ChangeAt Go.RowKit Go.Proofs.YtgcdhfpbmcfedaaGreatDoor.oc
/-- a cell's kind -/
inductive K where
  | int (k : IntKind)
  | bool
  | str
/-- a cell of that kind -/
def K.ok : K → Value → Prop
  | .int k, v => ∃ z, v = .int k z ∧ (Lit.int k z).wf = true
  | .bool, v => ∃ b, v = .bool b
  | .str, v => ∃ s : ByteArray, v = .string s ∧ s.size ≤ maxLen
/-- the kinds of a struct's cells, from the offset o on -/
def kindsF (P : Program) (go : TypeId → Option (List K)) : List Field → Nat → Option (List K)
  | [], _ => some []
  | f :: r, o => if f.offset = o then match go f.type with
      | some l => if P.cellsOf f.type = l.length then (kindsF P go r (o + l.length)).map (l ++ ·) else none
      | none => none
    else none
/-- the kinds of a type's cells -/
def kinds (P : Program) : Nat → TypeId → Option (List K)
  | 0, _ => none
  | d + 1, t => match P.underlying t with
    | some (.int k) => some [.int k]
    | some .bool => some [.bool]
    | some .string => some [.str]
    | some (.array n e) => match kinds P d e with
      | some l => if P.cellsOf e = l.length ∧ P.cellsOf t = n * l.length then some (List.replicate n l).flatten else none
      | none => none
    | some (.struct fs) => match kindsF P (kinds P d) fs.toList 0 with
      | some l => if P.cellsOf t = l.length then some l else none
      | none => none
    | _ => none
/-- the cells fit the kinds, from o on -/
def Fit (ks : List K) (cs : List Value) (o : Nat) : Prop := ∀ j k, ks[j]? = some k → ∃ v, cs[o + j]? = some v ∧ k.ok v
theorem Fit.nil (cs : List Value) (o : Nat) : Fit [] cs o := fun j k h => by simp at h
theorem Fit.append {a b : List K} {cs : List Value} {o : Nat} (h : Fit a cs o) (k : Fit b cs (o + a.length)) : Fit (a ++ b) cs o := fun j x hj => by
  rcases Nat.lt_or_ge j a.length with q | q
  · rw [List.getElem?_append_left q] at hj; exact h j x hj
  · rw [List.getElem?_append_right q] at hj
    have := k _ x hj
    rwa [show o + a.length + (j - a.length) = o + j from by omega] at this
theorem Fit.sub {a : List K} {cs : List Value} {o n : Nat} (h : Fit a ((cs.drop o).take n) 0) : Fit a cs o := fun j x hj => by
  obtain ⟨v, hv, hk⟩ := h j x hj
  rw [Nat.zero_add, List.getElem?_take] at hv
  split at hv
  · rw [List.getElem?_drop] at hv; exact ⟨v, hv, hk⟩
  · cases hv
section
variable {H : Type} {enc : TypeId × Value → H} {P : Program} {W : World} {base : Nat} {spare : Nat → Bool} {held : Bool}
theorem fields_fit (go : TypeId → Option (List K)) (m : Nat) (cs : List Value) : ∀ (fs : List Field) (o : Nat) (ks : List K), kindsF P go fs o = some ks →
    (∀ f ∈ fs, ∀ l, go f.type = some l → P.cellsOf f.type = l.length → ∃ y, DataW.trod enc P W base spare held m f.type ((cs.drop f.offset).take (P.cellsOf f.type)) = some y) →
    (∀ (t : TypeId) (l : List K) cs' y, go t = some l → DataW.trod enc P W base spare held m t cs' = some y → cs'.length = P.cellsOf t → Fit l cs' 0) →
    (∀ f ∈ fs, ((cs.drop f.offset).take (P.cellsOf f.type)).length = P.cellsOf f.type) → Fit ks cs o
  | [], o, ks, h, _, _, _ => by simp [kindsF] at h; subst h; exact Fit.nil _ _
  | f :: r, o, ks, h, ht, ih, hl => by
    unfold kindsF at h
    split at h
    · rename_i ho
      split at h
      · rename_i l hgo
        split at h
        · rename_i hc
          obtain ⟨ks', hk', rfl⟩ := Option.map_eq_some_iff.1 h
          obtain ⟨y, hy⟩ := ht f (by simp) l hgo hc
          have h1 := ih f.type l _ y hgo hy (hl f (by simp))
          rw [ho] at h1
          exact Fit.append h1.sub (fields_fit go m cs r (o + l.length) ks' hk' (fun g hg => ht g (by simp [hg])) ih (fun g hg => hl g (by simp [hg])))
        · cases h
      · cases h
    · cases h
theorem kinds_fit : ∀ (d : Nat) (t : TypeId) (ks : List K) (fuel : Nat) (cs : List Value) (x : DataW H × List MemPlace), kinds P d t = some ks → DataW.trod enc P W base spare held fuel t cs = some x → cs.length = ks.length ∧ Fit ks cs 0
  | 0, t, ks, fuel, cs, x, hk, _ => by simp [kinds] at hk
  | d + 1, t, ks, fuel, cs, x, hk, h => by
    unfold kinds at hk
    split at hk
    · rename_i k hu
      obtain ⟨z, rfl, _, hw⟩ := DataW.trod_int hu h
      injection hk with hk; subst hk
      exact ⟨rfl, fun j k' hj => by
        cases j with
        | zero => simp at hj; subst hj; exact ⟨_, rfl, z, rfl, hw⟩
        | succ j => simp at hj⟩
    · rename_i hu
      obtain ⟨b, rfl, _⟩ := DataW.trod_bool hu h
      injection hk with hk; subst hk
      exact ⟨rfl, fun j k' hj => by
        cases j with
        | zero => simp at hj; subst hj; exact ⟨_, rfl, b, rfl⟩
        | succ j => simp at hj⟩
    · rename_i hu
      obtain ⟨s, rfl, _, hw⟩ := DataW.trod_string hu h
      injection hk with hk; subst hk
      exact ⟨rfl, fun j k' hj => by
        cases j with
        | zero => simp at hj; subst hj; exact ⟨_, rfl, s, rfl, hw⟩
        | succ j => simp at hj⟩
    · rename_i n e hu
      split at hk
      · rename_i l hl
        split at hk
        · rename_i hc
          injection hk with hk; subst hk
          obtain ⟨xs, m, rfl, _, hlen, hxl, hel⟩ := DataW.trod_array hu h
          have each : ∀ i, i < n → Fit l cs (i * l.length) := fun i hi => by
            have he := hel i hi
            rw [List.getElem?_eq_getElem (by omega)] at he
            have := (kinds_fit d e l m _ _ hl he).2.sub
            rwa [hc.1] at this
          have all : ∀ j, j ≤ n → Fit (List.replicate j l).flatten cs 0 := fun j => by
            induction j with
            | zero => intro _; exact Fit.nil _ _
            | succ j ih =>
              intro hj
              rw [List.replicate_succ', List.flatten_append]
              refine Fit.append (ih (by omega)) ?_
              simp only [List.flatten_cons, List.flatten_nil, List.append_nil, Nat.zero_add, List.length_flatten, List.map_replicate, List.sum_replicate_nat]
              exact each j (by omega)
          refine ⟨?_, all n (Nat.le_refl _)⟩
          rw [hlen, hc.2]
          simp [List.length_flatten, List.sum_replicate_nat]
        · cases hk
      · cases hk
    · rename_i fs hu
      split at hk
      · rename_i l hl
        split at hk
        · rename_i hc
          injection hk with hk; subst hk
          obtain ⟨xs, m, rfl, _, hlen, hxl, hel⟩ := DataW.trod_struct hu h
          have hone : ∀ f ∈ fs.toList, ∃ y, DataW.trod enc P W base spare held m f.type ((cs.drop f.offset).take (P.cellsOf f.type)) = some y := fun f hf => by
            obtain ⟨i, hi, rfl⟩ := List.getElem_of_mem hf
            have hi' : i < fs.size := by simpa using hi
            have := hel i fs[i] (Array.getElem?_eq_getElem hi')
            rw [List.getElem?_eq_getElem (by omega)] at this
            exact ⟨_, by simpa using this⟩
          refine ⟨by rw [hlen, hc], fields_fit (kinds P d) m cs fs.toList 0 l hl (fun f hf l' _ _ => hone f hf) (fun t l' cs' y hg hy _ => (kinds_fit d t l' m cs' y hg hy).2) (fun f hf => ?_)⟩
          obtain ⟨y, hy⟩ := hone f hf
          obtain ⟨l', hl', hc'⟩ : ∃ l', kinds P d f.type = some l' ∧ P.cellsOf f.type = l'.length := kindsF_each hl f hf
          rw [(kinds_fit d f.type l' m _ y hl' hy).1, hc']
        · cases hk
      · cases hk
    · cases hk
where
  kindsF_each {go : TypeId → Option (List K)} : ∀ {fs : List Field} {o : Nat} {ks : List K}, kindsF P go fs o = some ks → ∀ f ∈ fs, ∃ l, go f.type = some l ∧ P.cellsOf f.type = l.length
  | [], _, _, _, f, hf => by simp at hf
  | g :: r, o, ks, h, f, hf => by
    unfold kindsF at h
    split at h
    · split at h
      · rename_i l hgo
        split at h
        · rename_i hc
          obtain ⟨ks', hk', _⟩ := Option.map_eq_some_iff.1 h
          rcases List.mem_cons.1 hf with rfl | hf
          · exact ⟨l, hgo, hc⟩
          · exact kindsF_each hk' f hf
        · cases h
      · cases h
    · cases h
/-- the slice A of length n shows the elements xs, whose cells are of the kinds ks -/
def IsFlat (w : World) (ks : List K) (A : Option Addr) (n : Nat) (xs : List (List Value)) : Prop := xs.length = n ∧ ∀ i x, xs[i]? = some x → x.length = ks.length ∧ Fit ks x 0 ∧ ∃ b o, A = some ⟨b, o, none⟩ ∧ b < w.heap.size ∧ ∀ (j : Nat) (v : Value), x[j]? = some v → w.cell? ⟨b, o + i * ks.length + j, none⟩ = some v
end
end Go.Proofs.YtgcdhfpbmcfedaaGreatDoor.flat
end
section
set_option linter.unusedVariables false
namespace Go.Proofs.YtgcdhfpbmcfedaaGreatDoor.rwl
open Go Go.RowKit Go.WideShapes Go.ChangeShapes Go.Lib
section
variable {H : Type} {enc : TypeId × Value → H}
/-- a row's lift: its listed variables, the reach and the world's shape handed to the walk -/
theorem returns_and_shaped {a : Assume} {C : Checked} {os : Os} {f : FuncId} {fn : Func} {s : ChangeSpec} {conds : List PathCond} {apart fresh handsOn again : Bool} {X : World → Array Value → Prop}
    (hX : ∀ (w w' : World) (args : Array Value), w.heap = w'.heap → X w args → X w' args)
    (own : ownKnob C.prog.godebug = none) (started : os.Started) (noInit : C.prog.inits.idxOf? f = none) (hfn : C.prog.funcs[f]? = some fn)
    (witness : ∃ (w : World) (tape : Tape) (i : Input), w.os = os ∧ (w.forCall tape i).Shaped C.prog ∧ i.vars = [] ∧ Input.okWide C.prog (w.forCall tape i) .any w.heap.size f i ∧
      ((s.pre enc C.prog fn conds apart (w.forCall tape i).memory i.args ∧ X (w.forCall tape i).memory i.args) ∧ sizedMet enc C.prog fn (OpenSpec.ofChange s) apart (w.forCall tape i).memory i.args) ∧ a.holds C.prog (lone (Frame.enter C.prog f i.args .normal) [] (w.forCall tape i)))
    (walk : ∀ (W : World) (base : Nat) (args : Array Value) (ds gs : List (DataW H)) (before : List MemPlace),
      (∀ (j : Nat) t v, fn.params[j]? = some t → args[j]? = some v → Value.okWide C.prog W .any base t v) →
      DataW.Whole enc C.prog fn.params.toList s.vars apart W args.toList ds gs before →
      (DataW.weightsEach C.prog (fn.params.toList ++ s.plain.varTypes C.prog) (ds ++ gs)).all (· ≤ reachBytes) = true → X W args → W.ShapedOpen C.prog →
      Calls C.prog f args W fun e W' => ∃ v, e = .returned v ∧ s.post enc C.prog fn apart fresh handsOn again W args v W') :
    ReturnsInHanded a C os f .any (fun w args => (s.pre enc C.prog fn conds apart w args ∧ X w args) ∧ sizedMet enc C.prog fn (OpenSpec.ofChange s) apart w args) (s.post enc C.prog fn apart fresh handsOn again) := by
  refine returnsInHanded_of_calls own started noInit witness ?_
  intro w tape i _ hsh _ hok hpre hholds
  obtain ⟨_, _, _, fn', hfn', _, _, _, _, hval⟩ := hok
  obtain rfl : fn' = fn := Option.some.inj (hfn'.symm.trans hfn)
  obtain ⟨⟨⟨ds, gs, before, hw, hc⟩, hx⟩, hz⟩ := hpre
  have hw' := DataW.Whole.of_heap (w' := w.forCall tape i) (by rfl) hw
  refine (walk (w.forCall tape i) w.heap.size i.args ds gs before hval hw' (hz.weights hw) (hX _ _ _ (by rfl) hx) hsh).mono fun e W' ⟨v, he, hp⟩ => ?_
  subst he
  exact ChangeSpec.post_blind hp
/-- a table of integers at the head of a list -/
theorem tab_head {P : Program} {W : World} {name : String} {d : DataW Unit} {k : IntKind} {zs : List Int} {rest : List (String × DataW Unit)} {g : Nat} {t e : TypeId} {n : Nat}
    (hg : P.globalNamed name = some g) (hty : (P.globals[g]?).map (·.type) = some t) (ht : P.underlying t = some (.array n e)) (he : P.underlying e = some (.int k)) (hce : P.cellsOf e = 1) (hct : P.cellsOf t = n)
    (hd : d = tabData k zs) (h : laidMet P ((name, d) :: rest) W) : TabIs P W name k zs := by
  subst hd
  exact tabIs_of_head hg hty ht he hce hct h
/-- a variable of an interface type at the head of a list -/
theorem iface_head {P : Program} {W : World} {name nm : String} {d : DataW Unit} {rest : List (String × DataW Unit)} {g : Nat} {t : TypeId} {ms : Array (String × TypeId)}
    (hg : P.globalNamed name = some g) (hty : (P.globals[g]?).map (·.type) = some t) (ht : P.underlying t = some (.interface ms)) (h : laidMet P ((name, .iface nm d) :: rest) W) :
    ∃ ev, W.cell? ⟨g, 0, none⟩ = some ev ∧ (ev = .nilIface ∨ ∃ te pe, ev = .iface te pe) := by
  obtain ⟨ps, ⟨g0, t0, cs0, f0, p0, q0, hg0, ht0, hv0, hd0, _, _⟩, _⟩ := h
  obtain rfl := Option.some.inj (hg.symm.trans hg0)
  obtain rfl := Option.some.inj (hty.symm.trans ht0)
  have hc := World.var?_cell hg hv0 0
  obtain ⟨l0⟩ := cs0
  cases f0 with
  | zero => simp [DataW.trod] at hd0
  | succ f =>
    unfold DataW.trod at hd0
    rw [ht] at hd0
    match l0, hd0 with
    | [.nilIface], _ => exact ⟨_, by simpa using hc, .inl rfl⟩
    | [.iface u v], _ => exact ⟨_, by simpa using hc, .inr ⟨u, v, rfl⟩⟩
end
end Go.Proofs.YtgcdhfpbmcfedaaGreatDoor.rwl
end
section
set_option linter.unusedVariables false
set_option maxRecDepth 100000
namespace Go.Proofs.YtgcdhfpbmcfedaaGreatDoor.rwl
open Go Go.RowKit Go.WideShapes Go.ChangeShapes Go.Lib Go.Proofs.YtgcdhfpbmcfedaaGreatDoor.pf Go.Proofs.YtgcdhfpbmcfedaaGreatDoor.oc
def ints : DataW Unit → List Int
  | .agg l => l.map fun x => match x with | .lit (.int _ z) => z | _ => 0
  | _ => []
theorem plain_list : laidMetH Tryz.prog Rows.prefixReadsRow.laid = laidMet Tryz.prog Rows.prefixReadsRow.laid := by
  funext W
  exact MakeChecks.laidMetH_plain _ _ _ (by kernel_rfl)
theorem d64_eq : (Rows.laid_math_bits_deBruijn64tab : DataW Unit) = tabData .u8 (ints Rows.laid_math_bits_deBruijn64tab) := by kernel_rfl
theorem p10_eq : (Rows.laid_internal_strconv_uint64pow10 : DataW Unit) = tabData .u64 Lib.pow10Tab := by kernel_rfl
theorem env_of_laid {W : World} (h : laidMetH Tryz.prog Rows.prefixReadsRow.laid W) (hs : W.ShapedOpen Tryz.prog) : Env W := by
  rw [plain_list] at h
  have h1 := h.tail
  have h2 := h1.tail
  have h4 := h2.tail.tail
  have t64 := tab_head (g := 5) (t := 171) (e := 5) (n := 64) (by kernel_rfl) (by kernel_rfl) (by kernel_rfl) Tryz.underlying5 (by kernel_rfl) (by kernel_rfl) d64_eq h1
  refine ⟨cell_of_shapedOpen_int (t := 3) (zero := #[.int .i64 0]) hs (of_decide_eq_true (by kernel_rfl)) (by kernel_rfl) rfl (by kernel_rfl) (by kernel_rfl) Tryz.underlying3,
    iface_head (g := 1) (t := 82) (by kernel_rfl) (by kernel_rfl) Tryz.underlying82 h4.tail,
    iface_head (g := 2) (t := 82) (by kernel_rfl) (by kernel_rfl) Tryz.underlying82 h4,
    tab_head (g := 3) (t := 156) (e := 96) (n := 20) (by kernel_rfl) (by kernel_rfl) (by kernel_rfl) Tryz.underlying96 (by kernel_rfl) (by kernel_rfl) p10_eq h2, ?_⟩
  have := World.var?_cell (g := 5) (by kernel_rfl) t64 15
  exact this.trans (by kernel_rfl)
theorem laid_there (os : Os) (args : Array Value) : laidMetH Tryz.prog Rows.prefixReadsRow.laid ((World.laidAll Tryz.prog os Rows.prefixReadsRow.laid).forCall (fun _ _ => 0) ⟨#[], args, []⟩).memory := by
  rw [plain_list]
  exact laidMet_laidAll _ (by kernel_rfl) (by kernel_rfl)
section
variable {H : Type} {enc : TypeId × Value → H} {W : World}
theorem bytes_str (s : ByteArray) : ∃ l : List Nat, s = str l ∧ (∀ x ∈ l, x < 256) ∧ l.length = s.size := by
  refine ⟨s.data.toList.map UInt8.toNat, ?_, fun x hx => ?_, by rw [List.length_map]; rfl⟩
  · obtain ⟨d⟩ := s
    unfold str
    congr 1
    simp [List.map_map, Function.comp_def]
  · obtain ⟨y, _, rfl⟩ := List.mem_map.1 hx
    exact y.toNat_lt
/-- a text that came in -/
theorem open_text {r : Reach} {b0 : Nat} {v : Value} {d : DataW H} {p : List MemPlace} (hv : Value.okWide Tryz.prog W r b0 9 v) (h : DataW.Trod enc Tryz.prog W 0 (fun _ => true) true 9 v d p) :
    ∃ l : List Nat, v = .string (str l) ∧ (∀ x ∈ l, x < 256) ∧ d = .lit (.string (str l).data.toList) ∧ p = [] ∧ (str l).size ≤ maxLen := by
  obtain ⟨s, rfl, rfl, rfl, hs⟩ := Go.ChangeMaps.open_string Tryz.underlying9 hv h
  obtain ⟨l, rfl, hl, _⟩ := bytes_str s
  exact ⟨l, rfl, hl, rfl, rfl, hs⟩
theorem fit_u8 {n : Nat} {x : List Value} (hl : x.length = n) (h : flat.Fit (List.replicate n (.int .u8)) x 0) : ∃ l : List Nat, l.length = n ∧ x = b8s l ∧ ∀ y ∈ l, y < 256 := by
  have each : ∀ j, j < n → ∃ y : Nat, x[j]? = some (.int .u8 (y : Int)) ∧ y < 256 := fun j hj => by
    obtain ⟨v, hv, z, rfl, hw⟩ := h j (.int .u8) (by simp [hj])
    obtain ⟨h1, h2⟩ := wf_u8 z hw
    obtain ⟨y, rfl⟩ := Int.eq_ofNat_of_zero_le h1
    rw [Nat.zero_add] at hv
    exact ⟨y, hv, by omega⟩
  obtain ⟨f, hf⟩ := Go.Deep.choose_lt each
  refine ⟨(List.range n).map f, by simp, ?_, fun y hy => ?_⟩
  · apply List.ext_getElem?
    intro j
    by_cases hj : j < n
    · rw [(hf j hj).1]; simp [b8s, hj]
    · rw [List.getElem?_eq_none (by omega)]; simp [b8s, hj]
  · simp only [List.mem_map, List.mem_range] at hy
    obtain ⟨j, hj, rfl⟩ := hy
    exact (hf j hj).2
theorem fit_ad {x : List Value} (hl : x.length = 17) (h : flat.Fit (flat.K.bool :: List.replicate 16 (.int .u8)) x 0) : ∃ a : Ad, a.Wf ∧ x = adc a := by
  obtain ⟨v, hv, b, rfl⟩ := h 0 .bool rfl
  match x, hl, hv with
  | y :: r, hl, hv =>
    simp at hv
    subst hv
    obtain ⟨l, h1, h2, h3⟩ := fit_u8 (n := 16) (x := r) (by simpa using hl) (fun j k hj => by
      obtain ⟨v, hv, hk⟩ := h (j + 1) k (by simpa using hj)
      rw [Nat.zero_add, List.getElem?_cons_succ] at hv
      exact ⟨v, by rw [Nat.zero_add]; exact hv, hk⟩)
    exact ⟨⟨b, l⟩, ⟨h1, h3⟩, by rw [h2]; rfl⟩
theorem fit_px {x : List Value} (hl : x.length = 18) (h : flat.Fit ((flat.K.bool :: List.replicate 16 (.int .u8)) ++ [.int .i64]) x 0) : ∃ p : Px, p.a.Wf ∧ (-9223372036854775808 ≤ p.bits ∧ p.bits ≤ 9223372036854775807) ∧ x = pxc p := by
  obtain ⟨v, hv, z, rfl, hw⟩ := h 17 (.int .i64) rfl
  rw [Nat.zero_add] at hv
  have e : x = x.take 17 ++ [.int .i64 z] := by
    refine List.ext_getElem? fun j => ?_
    rcases Nat.lt_or_ge j 17 with q | q
    · rw [List.getElem?_append_left (by simp; omega), List.getElem?_take_of_lt q]
    · rcases Nat.lt_or_ge j 18 with q2 | q2
      · obtain rfl : j = 17 := by omega
        rw [List.getElem?_append_right (by rw [List.length_take]; omega), hv]
        simp [hl]
      · rw [List.getElem?_eq_none (by omega), List.getElem?_eq_none (by simp; omega)]
  obtain ⟨a, ha, hx⟩ := fit_ad (x := x.take 17) (by simp; omega) (fun j k hj => by
    have hj17 : j < 17 := by have := (List.getElem?_eq_some_iff.1 hj).1; simpa using this
    obtain ⟨v, hv, hk⟩ := h j k (by rw [List.getElem?_append_left (by simpa using hj17)]; exact hj)
    rw [Nat.zero_add] at hv ⊢
    exact ⟨v, by rw [List.getElem?_take_of_lt hj17]; exact hv, hk⟩)
  exact ⟨⟨a, z⟩, ha, by have := wf_i64 z hw; omega, by rw [e, hx]; rfl⟩
/-- an address that came in -/
theorem open_ad {r : Reach} {b0 : Nat} {v : Value} {d : DataW H} {p : List MemPlace} (hv : Value.okWide Tryz.prog W r b0 24 v) (h : DataW.Trod enc Tryz.prog W 0 (fun _ => true) true 24 v d p) : ∃ a : Ad, a.Wf ∧ v = av a := by
  obtain ⟨cs, rfl, hsz⟩ := okWide_struct Tryz.underlying24 hv
  obtain ⟨fuel, hf⟩ := h
  obtain ⟨h1, h2⟩ := flat.kinds_fit 4 24 (flat.K.bool :: List.replicate 16 (.int .u8)) fuel cs.toList _ (by kernel_rfl) hf
  obtain ⟨a, ha, hx⟩ := fit_ad (by simpa using h1) h2
  exact ⟨a, ha, by unfold av; rw [← hx]⟩
/-- a prefix that came in -/
theorem open_px {r : Reach} {b0 : Nat} {v : Value} {d : DataW H} {p : List MemPlace} (hv : Value.okWide Tryz.prog W r b0 28 v) (h : DataW.Trod enc Tryz.prog W 0 (fun _ => true) true 28 v d p) :
    ∃ x : Px, x.a.Wf ∧ (-9223372036854775808 ≤ x.bits ∧ x.bits ≤ 9223372036854775807) ∧ v = pv x := by
  obtain ⟨cs, rfl, hsz⟩ := okWide_struct Tryz.underlying28 hv
  obtain ⟨fuel, hf⟩ := h
  obtain ⟨h1, h2⟩ := flat.kinds_fit 4 28 ((flat.K.bool :: List.replicate 16 (.int .u8)) ++ [.int .i64]) fuel cs.toList _ (by kernel_rfl) hf
  obtain ⟨x, hx1, hx2, hx3⟩ := fit_px (by simpa using h1) h2
  exact ⟨x, hx1, hx2, by unfold pv; rw [← hx3]⟩
end
end Go.Proofs.YtgcdhfpbmcfedaaGreatDoor.rwl
end
