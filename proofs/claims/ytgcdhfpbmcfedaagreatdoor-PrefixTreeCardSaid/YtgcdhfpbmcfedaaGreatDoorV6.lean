/-
  How many bytes a number of each kind has. Take of each kind: the number that stands at a place, or the error where none stands. prefix: fourText, sixText. strings.SplitSeq; prefix: numbers. Texts read loosely, plainly: what is an address's text is read as it. prefix: numbers of whatever text. prefix: looseFour. An append, its run given as an equation, at a walk's operation. Nothing of the program's functions. A row of one-cell elements to which another row is appended. Nothing of the program's functions. strings.Cut at two colons, plainly. Put of each kind: the bytes behind what there is, in new memory. prefix: looseSix. prefix: sixText. prefix: AddrText, Text. prefix: looseAddr, ReadAddr. prefix: ReadAddr.
-/
import Derived.Test.YtgcdhfpbmcfedaaGreatDoorRows
import Derived.WalkLawsBesides
import Derived.WalkSpells
import Derived.Outline
import Derived.Lib.Hide
import Derived.Lib.BitFns
import Derived.Maps.AppendAt
import Derived.Laws.CopyOwn
import Derived.Test.YtgcdhfpbmcfedaaGreatDoorV5
section
namespace Go.Proofs.YtgcdhfpbmcfedaaGreatDoor.oc
open Go.RowKit

theorem len8_top (y : Int) (h0 : 128 ≤ y) (h1 : y ≤ 255) : Lib.len8 y = 8 := by
  have h : ∀ n : Fin 256, 128 ≤ n.val → Lib.len8 (n.val : Int) = 8 := by decide +kernel
  have := h ⟨y.toNat, by omega⟩ (by show 128 ≤ y.toNat; omega)
  rwa [show ((⟨y.toNat, by omega⟩ : Fin 256).val : Int) = y from by show (y.toNat : Int) = y; omega] at this

theorem len64_2 (x : Int) (w : World) (h0 : 32768 ≤ x) (h1 : x ≤ 65535) : Calls Tryz.prog 105 #[.int .u64 x] w fun e w' => e = .returned (.int .i64 16) ∧ w = w' := by
  have a0 : 0 ≤ x / 256 := by omega
  have a1 : x / 256 ≤ 255 := by omega
  have a2 := len8_top (x / 256) (by omega) (by omega)
  go_enter Tryz.func105, Tryz.ntmps105
  go_wp2
  go_ret
  exact ⟨rfl, rfl⟩

theorem size16 (w : World) : Calls Tryz.prog 83 #[] w fun e w' => e = .returned (.int .i64 2) ∧ w = w' := by
  go_enter Tryz.func83, Tryz.ntmps83
  go_wp2_with (go_at_call 105; refine (len64_2 _ _ (by decide) (by decide)).mono ?_; rintro e w' ⟨rfl, rfl⟩)
  go_ret
  exact ⟨rfl, rfl⟩



end Go.Proofs.YtgcdhfpbmcfedaaGreatDoor.oc
end
section
namespace Go.Proofs.YtgcdhfpbmcfedaaGreatDoor.oc
open Go.RowKit

theorem or_byte (m x : Nat) (hx : x < 256) (hm : m * 256 + x < 18446744073709551616) : bits .or .u64 ((m : Int) * 256) (x : Int) = (m : Int) * 256 + (x : Int) := by
  have e := u64_or_nat (m * 256) x (Nat.lt_of_le_of_lt (Nat.le_add_right _ _) hm) (Nat.lt_of_le_of_lt (Nat.le_add_left _ _) hm)
  rw [nat_join 8 (m * 256) x (Nat.mul_mod_left m (2 ^ 8)) hx] at e
  rw [show (m : Int) * 256 = ((m * 256 : Nat) : Int) from by omega, e]
  omega



theorem take16_yes (A : Option Addr) (bs : List Nat) (n c B p : Nat) (w : World) (hn : bs.length = n) (hm : n ≤ 140737488355328) (hc : n ≤ c) (hc9 : c ≤ 9223372036854775807) (hs : Small bs) (hr : Rd w B A (by_ bs)) (hp : p + 2 ≤ n) :
    Calls Tryz.prog 67 #[.slice A n c, .int .i64 p] w fun e w' => e = .returned (.tuple #[.int .u16 (num ((bs.drop p).take 2) : Nat), .int .i64 0]) ∧ w = w' := by
  have HN := Lib.hid hn
  have hx0 := getq (bs := bs) (k := p) (by omega)
  obtain ⟨b, o, rfl, hb, hc0⟩ := hr.byte hx0
  have hr1 : ∀ k x : Nat, (bs.drop p)[k]? = some x → w.cell? ⟨b, o + p + k, none⟩ = some (.int .u8 (x : Int)) := by
    intro k x hx
    rw [List.getElem?_drop] at hx
    obtain ⟨b', o', e, _, hcc⟩ := hr.byte hx
    injection e with e
    injection e with e1 e2
    subst e1
    subst e2
    rw [Nat.add_assoc]
    exact hcc
  have HR := Lib.hid hr1
  have hs1 := hs.drop p
  have hl1 : 2 ≤ (bs.drop p).length := by rw [List.length_drop]; omega
  have hcp : ¬ c = p := by omega
  clear hr1 hn hx0 hc0 hr hs
  generalize bs.drop p = ds at *
  go_enter Tryz.func67, Tryz.ntmps67
  go_wp2_with (go_at_call 83; refine (size16 _).mono ?_; rintro e w' ⟨rfl, rfl⟩)
  go_loop [7, 28, 9] (fun v i _ => ∃ k : Nat, k ≤ 2 ∧ i = .int .i64 k ∧ v = .int .u64 (num (ds.take k) : Nat)) (fun _ i _ => 2 - (intOf i).toNat)
  case atStart => exact ⟨0, Nat.zero_le _, rfl, rfl⟩
  case round =>
    obtain ⟨k, hk, rfl, rfl⟩ := hrel
    by_cases hlt : k < 2
    · have hx := getq (bs := ds) (k := k) (by omega)
      have hx8 := hs1.at_ hx
      have hc := HR.out k _ hx
      have hsn := num_snoc (ds.take k) (ds.getD k 0)
      rw [← take_snoc hx] at hsn
      have hbd := num_lt8 (ds.take (k + 1)) (hs1.take _) (by rw [List.length_take]; omega)
      rw [hsn] at hbd
      have HS := Lib.hid hsn
      clear hsn hx
      generalize num (ds.take k) = q at *
      generalize ds.getD k 0 = x at *
      have ho := or_byte q x hx8 hbd
      go_wp2
      go_round
      case rel => exact ⟨k + 1, by omega, by go_num, by rw [HS.out]; go_num⟩
      case measure => simp [intOf]; omega
    · have hk' : k = 2 := by omega
      subst hk'
      have hbd := num_lt (ds.take 2) (hs1.take _)
      rw [show (ds.take 2).length = 2 from by rw [List.length_take]; omega] at hbd
      have hbd1 : num (ds.take 2) < 65536 := hbd
      clear hbd
      generalize hq : num (ds.take 2) = q at *
      have HQ := Lib.hid hq
      clear hq
      go_wp2
      go_ret2
      exact ⟨by rw [HQ.out] <;> rfl, rfl⟩






end Go.Proofs.YtgcdhfpbmcfedaaGreatDoor.oc
end
section
set_option linter.unusedVariables false
set_option linter.unusedSimpArgs false
namespace Go.Proofs.YtgcdhfpbmcfedaaGreatDoor.pf
open Go.RowKit Go.Proofs.YtgcdhfpbmcfedaaGreatDoor.oc Go.Proofs.YtgcdhfpbmcfedaaGreatDoor.mz Go.Proofs.YtgcdhfpbmcfedaaGreatDoor.wh Go.Proofs.YtgcdhfpbmcfedaaGreatDoor.qk
def q64 (l : List Nat) : List Value := l.map (fun (x : Nat) => Value.int .u64 (x : Int))
theorem q64_len (l : List Nat) : (q64 l).length = l.length := by simp [q64]
theorem q64_snoc (l : List Nat) (x : Nat) : q64 (l ++ [x]) = q64 l ++ [.int .u64 (x : Int)] := by simp [q64]
theorem u64_info : (Tryz.prog.info? 96).map (fun i => (i.zero, i.size, i.bytes)) = some (some (.int .u64 0), 1, 8) := by kernel_rfl
structure TB (w wr : World) (a : Ad) (ns : List Nat) (v : Value) : Prop where
  bl : Blk wr w.heap.size 24 (adc a)
  q : Que wr (w.heap.size + 1) 96 v (q64 ns)
  kp : ∀ S, Keeps S w wr
/-- one number more -/
theorem TB.next {w wr w9 : World} {a : Ad} {ns : List Nat} {v v2 : Value} {x : Nat} {o : Obj} (h : TB w wr a ns v) (hq : Que w9 (w.heap.size + 1) 96 v2 (q64 ns ++ [.int .u64 (x : Int)])) (hg : (wr.alloc o).grownBy w9 v.ownBlock) : TB w w9 a (ns ++ [x]) v2 := by
  have hs := h.bl.lt
  have k1 : Keeps (fun b => w.heap.size + 1 ≤ b) wr (wr.alloc o) := (Keeps.refl _ wr).alloc o
  have k2 : Keeps (fun b => w.heap.size + 1 ≤ b) (wr.alloc o) w9 := (Keeps.of_grown hg).mono (fun b _ hb => (h.q.lt hb).1)
  have k := k1.trans k2
  refine ⟨Blk.keeps h.bl k (by omega), by rw [q64_snoc]; exact hq, fun S => ?_⟩
  have kk := h.kp S
  exact ⟨Nat.le_trans kk.size k.size, fun y hy hs => by rw [k.block y (Nat.lt_of_lt_of_le hy kk.size) (by omega), kk.block y hy hs], kk.same.trans k.same⟩
theorem TB.list {w wr : World} {a : Ad} {ns : List Nat} {A : Option Addr} {n c : Nat} (h : TB w wr a ns (.slice A n c)) : n = ns.length ∧ ∀ k x, ns[k]? = some x → ∃ g o, A = some ⟨g, o, none⟩ ∧ wr.cell? ⟨g, o + k, none⟩ = some (.int .u64 ((x : Nat) : Int)) := by
  refine ⟨?_, fun k x hx => ?_⟩
  · obtain ⟨A', c', e⟩ := h.q.form
    injection e with _ e2
    rw [e2, q64_len]
  · obtain ⟨b, o, e, _, _, hc⟩ := Que.at_ h.q (k := k) (x := .int .u64 (x : Int)) (by rw [q64, List.getElem?_map, hx]; rfl)
    exact ⟨b, o, e, hc⟩
theorem t4_jn (a : Ad) : jnb 10 46 [byt a 0, byt a 1, byt a 2, byt a 3] = t4 a := by
  simp [jnb, t4, dig]
section
variable (w : World)
set_option maxRecDepth 100000 in
set_option maxHeartbeats 4000000 in
theorem fourtext_ (a : Ad) (ha : a.Wf) (henv : Env w) : Calls Tryz.prog 50 #[av a] w fun e w' => e = .returned (.string (str (t4 a))) ∧ ∀ S, Keeps S w w' := by
  obtain ⟨w1, hw1, k1, b1⟩ := enter_blk w (adc a).toArray 24
  have HI := Lib.hid (show TB w w1 a [] (.slice none 0 0) from ⟨b1, Que.nil_ _ _ _, k1⟩)
  have HW := Lib.hid hw1
  have HA := Lib.hid ha
  have HE := Lib.hid henv
  obtain ⟨i0, hi, hz0, hz1, hz2⟩ := info_parts u64_info
  unfold av
  generalize hC : (adc a).toArray = C at *
  clear hw1 k1 b1 ha henv hC
  go_enter Tryz.func50, Tryz.ntmps50
  go_wp2_with fail
  rw [← HW.out]
  go_loopw [3, 9] (fun v i wr => ∃ (k : Nat) (vv : Value), vv = v ∧ k ≤ 4 ∧ i = .int .i64 (k : Int) ∧ TB w wr a ((List.range k).map (byt a)) vv) (fun _ i _ => 20 - (intOf i).toNat)
  case atStart => exact ⟨0, _, rfl, by omega, rfl, HI.out⟩
  case round =>
    obtain ⟨k, v, hv, h4, rfl, ht⟩ := hrel
    subst hv
    have k0 : (0 : Int) ≤ (k : Int) := by omega
    have k4 : (k : Int) ≤ 4 := by omega
    have HT := Lib.hid ht
    by_cases hlt : k < 4
    · have hlt' : (k : Int) < 4 := by omega
      have xk := ad_byt HA.out ht.bl (i := k) (by omega)
      have hsn : (List.range (k + 1)).map (byt a) = (List.range k).map (byt a) ++ [byt a k] := by rw [List.range_succ, List.map_append]; rfl
      have HS := Lib.hid hsn
      have hlen : (q64 ((List.range k).map (byt a))).length = k := by rw [q64_len]; simp
      have HL := Lib.hid hlen
      clear ht hlt hsn hlen
      have hbx := byt_lt HA.out k
      generalize byt a k = x at *
      have hwx : IntKind.u64.wrap (x : Int) = (x : Int) := by rw [mz.wrap_u64]; omega
      clear hbx
      go_wp2_with (at_builtin; refine Que.wpList_append rfl _ _ 92 rfl i0 _ 8 Tryz.underlying92 hi hz0 hz1 hz2 rfl rfl (HT.out.q.alloc _) ⟨wr.heap.size, 0, none⟩ 1 (.int .u64 ((x : Nat) : Int)) rfl (by rw [(Blk.new wr 96 #[.int .u64 ((x : Nat) : Int)]).cell]; rfl) rfl (by rw [HL.out]; unfold maxLen; omega) (by rw [HL.out]; omega) (by simp; have := HT.out.bl.lt; omega) ?_)
      intro v2 w9 hq9 hg9 hat9
      have hn := HT.out.next hq9 hg9
      rw [← HS.out] at hn
      clear hq9 hg9 hat9 xk
      go_wp2_with fail
      go_roundw
      case rel => exact ⟨k + 1, _, rfl, by omega, by go_num, hn⟩
      case measure => simp [intOf]; omega
    · obtain rfl : k = 4 := by omega
      obtain ⟨A, c, hf⟩ := ht.q.form
      have hf2 : v = .slice A 4 c := by rw [hf, q64_len]; simp
      subst hf2
      have hli := ht.list
      have hj := joined_ wr 10 46 [byt a 0, byt a 1, byt a 2, byt a 3] A c (str [46]) rfl (by
        intro x hx
        refine .inr ⟨rfl, ?_⟩
        have hb := byt_lt HA.out
        have h0 := hb 0; have h1 := hb 1; have h2 := hb 2; have h3 := hb 3
        simp at hx; rcases hx with rfl | rfl | rfl | rfl <;> assumption) (by omega) (by simp) hli.2 (HE.out.keeps ht.kp)
      rw [t4_jn] at hj
      have HJ := Lib.hid hj
      have hs46 : (⟨#[46]⟩ : ByteArray) = str [46] := rfl
      have KT := Lib.hid ht.kp
      have hlt' : ¬ (4 : Int) < 4 := by omega
      clear ht hli hj hf hlt
      generalize hT : t4 a = T at *
      have HT4 := Lib.hid hT
      clear hT
      go_wp2_with fail
      refine HJ.out.mono ?_
      rintro e w9 ⟨rfl, k9⟩
      have K9 : Hid (∀ S, Keeps S w w9) := Lib.hid (fun S => (KT.out S).trans (k9 S))
      clear k9
      go_wp2
      go_ret
      exact ⟨by rw [HT4.out]; rfl, K9.out⟩
end
end Go.Proofs.YtgcdhfpbmcfedaaGreatDoor.pf
end
section
set_option linter.unusedVariables false
set_option linter.unusedSimpArgs false
namespace Go.Proofs.YtgcdhfpbmcfedaaGreatDoor.pf
open Go.RowKit Go.Shelf Go.Proofs.YtgcdhfpbmcfedaaGreatDoor.oc Go.Proofs.YtgcdhfpbmcfedaaGreatDoor.mz Go.Proofs.YtgcdhfpbmcfedaaGreatDoor.wh Go.Proofs.YtgcdhfpbmcfedaaGreatDoor.qk Go.Proofs.YtgcdhfpbmcfedaaGreatDoor.rb
attribute [local go_sem] Oper.semAt_some
/-- all parts as numbers -/
def allp (b : Nat) : List (List Nat) → Option (List Nat)
  | [] => some []
  | x :: r => match part_ b x, allp b r with
    | some n, some ns => some (n :: ns)
    | _, _ => none
theorem allp_some (b : Nat) : ∀ (p : List (List Nat)) (ns : List Nat) (x : List Nat) (n : Nat), allp b p = some ns → part_ b x = some n → allp b (p ++ [x]) = some (ns ++ [n])
  | [], ns, x, n, h, hx => by
    simp only [allp, Option.some.injEq] at h
    subst h
    simp [allp, hx]
  | y :: r, ns, x, n, h, hx => by
    rw [allp] at h
    cases h1 : part_ b y with
    | none => rw [h1] at h; cases h
    | some m =>
      cases h2 : allp b r with
      | none => rw [h1, h2] at h; cases h
      | some ms =>
        rw [h1, h2] at h
        simp only [Option.some.injEq] at h
        subst h
        rw [List.cons_append, allp, h1, allp_some b r ms x n h2 hx]
        rfl
theorem allp_none (b : Nat) : ∀ (p r : List (List Nat)), allp b p = none → allp b (p ++ r) = none
  | [], r, h => by simp [allp] at h
  | y :: q, r, h => by
    rw [List.cons_append, allp]
    rw [allp] at h
    cases h1 : part_ b y with
    | none => rfl
    | some m =>
      cases h2 : allp b q with
      | none => rw [allp_none b q r h2]
      | some ms => rw [h1, h2] at h; cases h
theorem allp_last (b : Nat) : ∀ (p : List (List Nat)) (x : List Nat), part_ b x = none → allp b (p ++ [x]) = none
  | [], x, h => by simp [allp, h]
  | y :: q, x, h => by
    rw [List.cons_append, allp, allp_last b q x h]
    cases part_ b y <;> rfl
theorem allp_len (b : Nat) : ∀ (p : List (List Nat)) (ns : List Nat), allp b p = some ns → ns.length = p.length
  | [], ns, h => by simp only [allp, Option.some.injEq] at h; subst h; rfl
  | y :: q, ns, h => by
    rw [allp] at h
    cases h1 : part_ b y with
    | none => rw [h1] at h; cases h
    | some m =>
      cases h2 : allp b q with
      | none => rw [h1, h2] at h; cases h
      | some ms =>
        rw [h1, h2] at h
        simp only [Option.some.injEq] at h
        subst h
        simp [allp_len b q ms h2]
/-- a text of numbers -/
def nump (b c : Nat) (l : List Nat) : Option (List Nat) := if l = [] then some [] else allp b (spl c l)
section
variable (w : World)
/-- the world behind SplitSeq -/
def seqW (w : World) (s sep : ByteArray) : World := ((w.alloc (.cells #[.string s] 9)).alloc (.cells #[.string sep] 9)).alloc (.cells #[.int .i64 0] 3)
set_option maxRecDepth 100000 in
set_option maxHeartbeats 1000000 in
theorem splitseq0_ (s sep : ByteArray) : Calls Tryz.prog 129 #[.string s, .string sep, .int .i64 0] w fun e w' => e = .returned (.func (.func 137) #[] #[.pointer (some ⟨w.heap.size + 1, 0, none⟩), .pointer (some ⟨w.heap.size, 0, none⟩), .pointer (some ⟨w.heap.size + 2, 0, none⟩)]) ∧ w' = seqW w s sep := by
  go_enter Tryz.func129, Tryz.ntmps129
  go_wp2
  go_ret
  exact ⟨rfl, rfl⟩
set_option maxRecDepth 100000 in
set_option maxHeartbeats 1000000 in
theorem splitseq_ (s sep : ByteArray) : Calls Tryz.prog 111 #[.string s, .string sep] w fun e w' => e = .returned (.func (.func 137) #[] #[.pointer (some ⟨w.heap.size + 1, 0, none⟩), .pointer (some ⟨w.heap.size, 0, none⟩), .pointer (some ⟨w.heap.size + 2, 0, none⟩)]) ∧ w' = seqW w s sep := by
  have H := Lib.hid (splitseq0_ w s sep)
  go_enter Tryz.func111, Tryz.ntmps111
  go_wp2_with fail
  refine H.out.mono ?_
  rintro e w' ⟨rfl, rfl⟩
  go_wp2
  go_ret
  exact ⟨rfl, rfl⟩
end
structure NB (w W : World) (base bits : Int) (c : Nat) (ns : List Nat) (v : Value) (t : List Nat) : Prop where
  k : Keeps (fun _ => False) w W
  b0 : Blk W w.heap.size 3 [.int .i64 base]
  b1 : Blk W (w.heap.size + 1) 3 [.int .i64 bits]
  b2 : Blk W (w.heap.size + 2) 92 [.slice none 0 0]
  b3 : Blk W (w.heap.size + 3) 4 [.bool false]
  b4 : Blk W (w.heap.size + 4) 92 [v]
  b5 : Blk W (w.heap.size + 5) 9 [.string (str t)]
  b6 : Blk W (w.heap.size + 6) 9 [.string (str [c])]
  b7 : Blk W (w.heap.size + 7) 3 [.int .i64 0]
  q : W.ownsRow (w.heap.size + 8) 96 1 v ns.length (q64 ns)
/-- what is neither a block below, nor cells, may turn -/
theorem NB.abide {w W W' : World} {base bits : Int} {c : Nat} {ns : List Nat} {v : Value} {t : List Nat} {row : Option Nat} {B : Nat} (h : NB w W base bits c ns v t) (hB : w.heap.size + 8 ≤ B) (hg : W.grownBy W' row)
    (hr : ∀ r, row = some r → B ≤ r ∧ ∃ o : Obj, W.heap[r]? = some o ∧ o.isCells = false) : NB w W' base bits c ns v t := by
  have hlt := h.b7.lt
  have far : ∀ {g : Nat} {T : TypeId} {cs : List Value}, g < w.heap.size + 8 → Blk W g T cs → Blk W' g T cs := fun {g T cs} hgl hb => hb.grown hg (fun e => by have := (hr g e.symm).1; omega)
  refine ⟨⟨Nat.le_trans h.k.size hg.size, fun x hx hs => (hg.block x (by have := h.k.size; omega) (fun e => by have := (hr x e.symm).1; omega)).trans (h.k.block x hx hs), h.k.same.trans (Same.of_grown hg)⟩,
    far (by omega) h.b0, far (by omega) h.b1, far (by omega) h.b2, far (by omega) h.b3, far (by omega) h.b4, far (by omega) h.b5, far (by omega) h.b6, far (by omega) h.b7, ?_⟩
  cases hv : v.ownBlock with
  | none => exact h.q.kept hg (.inl hv)
  | some g =>
    refine h.q.kept hg (.inr ?_)
    rw [hv]
    intro e
    obtain ⟨_, o, ho, hc⟩ := hr g e.symm
    rcases h.q.2 with ⟨rfl, _⟩ | ⟨g', cap, cur, rfl, _, hcur, _⟩
    · cases hv
    · cases hv
      rw [hcur] at ho
      cases ho
      cases hc
theorem owns_que {W : World} {B n : Nat} {e : TypeId} {v : Value} {xs : List Value} (h : W.ownsRow B e 1 v n xs) : Que W B e v xs ∧ n = xs.length := by
  have hn : xs.length = n := by have := h.1; omega
  refine ⟨?_, hn.symm⟩
  rcases h.2 with ⟨rfl, h0⟩ | ⟨g, cap, cur, rfl, h1, h2, h3, _, h5, h6⟩
  · exact .inl ⟨rfl, List.eq_nil_of_length_eq_zero (by omega)⟩
  · refine .inr ⟨g, 0, cap, cur.toList, by rw [hn], h1, by unfold Blk; simpa using h2, by omega, by simp; omega, fun k u hk => ?_⟩
    rw [← h6, Nat.mul_one] at hk
    rw [Nat.zero_add]
    have hlt : k < n := by
      have := (List.getElem?_eq_some_iff.1 hk).1
      rw [List.length_take] at this
      omega
    rwa [List.getElem?_take_of_lt hlt] at hk
theorem KeepsOthers.of_keeps {W W' : World} (h : ∀ S, Keeps S W W') : KeepsOthers W W' := ⟨(h (fun _ => False)).size, fun k o hk _ => ((h (fun _ => False)).block k (Array.getElem?_eq_some_iff.1 hk).1 (fun z => z)).trans hk⟩
theorem NB.keeps {w W W' : World} {base bits : Int} {c : Nat} {ns : List Nat} {v : Value} {t : List Nat} (h : NB w W base bits c ns v t) (k : ∀ S, Keeps S W W') : NB w W' base bits c ns v t := by
  have kf := k (fun _ => False)
  refine h.abide (B := W.heap.size) (by have := h.b7.lt; omega) (row := none) ⟨kf.same.os, kf.same.tape, kf.same.output, kf.size, fun x hx _ => kf.block x hx (fun z => z)⟩ (fun r e => by cases e)
/-- the iterator moves on -/
theorem NB.step {w W : World} {base bits : Int} {c : Nat} {ns : List Nat} {v : Value} {t : List Nat} (h : NB w W base bits c ns v t) (t' : List Nat) : NB w (W.setCell ⟨w.heap.size + 5, 0, none⟩ (.string (str t'))) base bits c ns v t' := by
  have kk : Keeps (· = w.heap.size + 5) W (W.setCell ⟨w.heap.size + 5, 0, none⟩ (.string (str t'))) := Keeps.here _
  refine ⟨⟨Nat.le_trans h.k.size kk.size, fun x hx hs => (kk.block x (by have := h.k.size; omega) (by omega)).trans (h.k.block x hx hs), h.k.same.trans kk.same⟩,
    h.b0.far (by simp) _, h.b1.far (by simp) _, h.b2.far (by simp) _, h.b3.far (by simp) _, h.b4.far (by simp) _, h.b5.put 0 _, h.b6.far (by simp) _, h.b7.far (by simp) _, h.q.kept (grown_set W _ _) (by
    cases hv : v.ownBlock with
    | none => exact .inl rfl
    | some g => exact .inr (fun e => by have := (h.q.lt g hv).1; simp only [Option.some.injEq] at e; omega))⟩
/-- a number more -/
theorem NB.more {w W1 W2 : World} {base bits : Int} {c n : Nat} {ns : List Nat} {v v2 : Value} {t : List Nat} {o : Obj} (h : NB w W1 base bits c ns v t) (hown : W2.ownsRow (w.heap.size + 8) 96 1 v2 (ns.length + 1) (q64 ns ++ [.int .u64 (n : Int)])) (hg : (W1.alloc o).grownBy W2 v.ownBlock) :
    NB w (W2.setCell ⟨w.heap.size + 4, 0, none⟩ v2) base bits c (ns ++ [n]) v2 t ∧ W2.cell? ⟨w.heap.size + 4, 0, none⟩ = some v ∧ W2.frozen? ⟨w.heap.size + 4, 0, none⟩ = false := by
  have hv : ∀ g, v.ownBlock = some g → w.heap.size + 8 ≤ g := fun g e => (h.q.lt g e).1
  have far : ∀ {g : Nat} {T : TypeId} {cs : List Value}, g < w.heap.size + 8 → Blk W1 g T cs → Blk W2 g T cs := fun {g T cs} hgl hb => (hb.alloc o).grown hg (fun e => by have := hv g e.symm; omega)
  have k1 : Keeps (fun _ => False) w (W1.alloc o) := h.k.alloc o
  have k2 : Keeps (fun _ => False) w W2 := ⟨Nat.le_trans k1.size hg.size, fun x hx hs => (hg.block x (by have := k1.size; omega) (fun e => by have := hv x e.symm; omega)).trans (k1.block x hx hs), k1.same.trans (Same.of_grown hg)⟩
  have k3 : Keeps (fun _ => False) w (W2.setCell ⟨w.heap.size + 4, 0, none⟩ v2) := k2.setCell (.inr (by show w.heap.size ≤ w.heap.size + 4; omega)) _
  have b4 := far (by omega) h.b4
  refine ⟨⟨k3, (far (by omega) h.b0).far (by simp) _, (far (by omega) h.b1).far (by simp) _, (far (by omega) h.b2).far (by simp) _, (far (by omega) h.b3).far (by simp) _, b4.put 0 _, (far (by omega) h.b5).far (by simp) _, (far (by omega) h.b6).far (by simp) _, (far (by omega) h.b7).far (by simp) _, ?_⟩, by rw [b4.cell]; rfl, b4.frozen 0⟩
  rw [q64_snoc, List.length_append, List.length_singleton]
  refine hown.kept (grown_set W2 _ _) ?_
  cases hv2 : v2.ownBlock with
  | none => exact .inl rfl
  | some g => exact .inr (fun e => by have := (hown.lt g hv2).1; simp only [Option.some.injEq] at e; omega)
structure NX (w W : World) : Prop where
  k : Keeps (fun _ => False) w W
  b2 : Blk W (w.heap.size + 2) 92 [.slice none 0 0]
  b3 : Blk W (w.heap.size + 3) 4 [.bool false]
theorem NX.abide {w W W' : World} {row : Option Nat} {B : Nat} (h : NX w W) (hB : w.heap.size + 8 ≤ B) (hg : W.grownBy W' row) (hr : ∀ r, row = some r → B ≤ r ∧ ∃ o : Obj, W.heap[r]? = some o ∧ o.isCells = false) : NX w W' := by
  have hlt := h.b3.lt
  have far : ∀ {g : Nat} {T : TypeId} {cs : List Value}, g < w.heap.size + 8 → Blk W g T cs → Blk W' g T cs := fun {g T cs} hgl hb => hb.grown hg (fun e => by have := (hr g e.symm).1; omega)
  exact ⟨⟨Nat.le_trans h.k.size hg.size, fun x hx hs => (hg.block x (by have := h.k.size; omega) (fun e => by have := (hr x e.symm).1; omega)).trans (h.k.block x hx hs), h.k.same.trans (Same.of_grown hg)⟩, far (by omega) h.b2, far (by omega) h.b3⟩
theorem nb_start (w : World) (base bits : Int) (c : Nat) (l : List Nat) : NB w (seqW (((((w.alloc (.cells #[.int .i64 base] 3)).alloc (.cells #[.int .i64 bits] 3)).alloc (.cells #[.slice none 0 0] 92)).alloc (.cells #[.bool false] 4)).alloc (.cells #[.slice none 0 0] 92)) (str l) (str [c])) base bits c [] (.slice none 0 0) l := by
  have k : ∀ (A : World) (o : Obj), Keeps (fun _ => False) w A → Keeps (fun _ => False) w (A.alloc o) := fun A o h => h.alloc o
  refine ⟨k _ _ (k _ _ (k _ _ (k _ _ (k _ _ (k _ _ (k _ _ (k _ _ (Keeps.refl _ w)))))))), ?_, ?_, ?_, ?_, ?_, ?_, ?_, ?_, ⟨rfl, .inl ⟨rfl, rfl⟩⟩⟩
  · exact (((((((Blk.new w _ _).alloc _).alloc _).alloc _).alloc _).alloc _).alloc _).alloc _
  · have h := Blk.new (w.alloc (.cells #[.int .i64 base] 3)) 3 #[.int .i64 bits]
    simp only [World.size_alloc, Nat.add_assoc, Nat.reduceAdd] at h
    exact ((((((h.alloc _).alloc _).alloc _).alloc _).alloc _).alloc _)
  · have h := Blk.new ((w.alloc (.cells #[.int .i64 base] 3)).alloc (.cells #[.int .i64 bits] 3)) 92 #[.slice none 0 0]
    simp only [World.size_alloc, Nat.add_assoc, Nat.reduceAdd] at h
    exact (((((h.alloc _).alloc _).alloc _).alloc _).alloc _)
  · have h := Blk.new (((w.alloc (.cells #[.int .i64 base] 3)).alloc (.cells #[.int .i64 bits] 3)).alloc (.cells #[.slice none 0 0] 92)) 4 #[.bool false]
    simp only [World.size_alloc, Nat.add_assoc, Nat.reduceAdd] at h
    exact ((((h.alloc _).alloc _).alloc _).alloc _)
  · have h := Blk.new ((((w.alloc (.cells #[.int .i64 base] 3)).alloc (.cells #[.int .i64 bits] 3)).alloc (.cells #[.slice none 0 0] 92)).alloc (.cells #[.bool false] 4)) 92 #[.slice none 0 0]
    simp only [World.size_alloc, Nat.add_assoc, Nat.reduceAdd] at h
    exact (((h.alloc _).alloc _).alloc _)
  · have h := Blk.new (((((w.alloc (.cells #[.int .i64 base] 3)).alloc (.cells #[.int .i64 bits] 3)).alloc (.cells #[.slice none 0 0] 92)).alloc (.cells #[.bool false] 4)).alloc (.cells #[.slice none 0 0] 92)) 9 #[.string (str l)]
    simp only [World.size_alloc, Nat.add_assoc, Nat.reduceAdd] at h
    exact ((h.alloc _).alloc _)
  · have h := Blk.new ((((((w.alloc (.cells #[.int .i64 base] 3)).alloc (.cells #[.int .i64 bits] 3)).alloc (.cells #[.slice none 0 0] 92)).alloc (.cells #[.bool false] 4)).alloc (.cells #[.slice none 0 0] 92)).alloc (.cells #[.string (str l)] 9)) 9 #[.string (str [c])]
    simp only [World.size_alloc, Nat.add_assoc, Nat.reduceAdd] at h
    exact (h.alloc _)
  · have h := Blk.new (((((((w.alloc (.cells #[.int .i64 base] 3)).alloc (.cells #[.int .i64 bits] 3)).alloc (.cells #[.slice none 0 0] 92)).alloc (.cells #[.bool false] 4)).alloc (.cells #[.slice none 0 0] 92)).alloc (.cells #[.string (str l)] 9)).alloc (.cells #[.string (str [c])] 9)) 3 #[.int .i64 0]
    simp only [World.size_alloc, Nat.add_assoc, Nat.reduceAdd] at h
    exact h
theorem keeps_turn {w W W' : World} {D : Nat} (h : Keeps (fun _ => False) w W) (hg : W.grownBy W' (some D)) (hD : w.heap.size ≤ D) : ∀ S, Keeps S w W' := fun S => ⟨Nat.le_trans h.size hg.size, fun x hx hs => (hg.block x (by have := h.size; omega) (by simp; omega)).trans (h.block x hx (fun z => z)), h.same.trans (Same.of_grown hg)⟩
theorem que_low {W : World} {B B' : Nat} {e : TypeId} {v : Value} {xs : List Value} (h : Que W B e v xs) (hb : B' ≤ B) : Que W B' e v xs := by
  rcases h with h | ⟨g, off, cap, cs, e1, h1, h2⟩
  · exact .inl h
  · exact .inr ⟨g, off, cap, cs, e1, by omega, h2⟩
theorem np_results (tmps : Array Value) (W : World) (g1 g2 : Nat) (T1 T2 : TypeId) (v1 v2 : Value) (h1 : tmps.getD 8 undef = .pointer (some ⟨g1, 0, none⟩)) (h2 : tmps.getD 9 undef = .pointer (some ⟨g2, 0, none⟩)) (b1 : Blk W g1 T1 [v1]) (b2 : Blk W g2 T2 [v2]) :
    (results Tryz.f87 tmps).run Tryz.prog W = .ok (.tuple #[v1, v2]) W := by
  have hr : Tryz.f87.results = #[.cell 8 92, .cell 9 4] := by kernel_rfl
  have c1 : W.cell? ⟨g1, 0, none⟩ = some v1 := by rw [b1.cell]; rfl
  have c2 : W.cell? ⟨g2, 0, none⟩ = some v2 := by rw [b2.cell]; rfl
  have hp' : tmps[8]?.getD undef = .pointer (some ⟨g1, 0, none⟩) := by simpa using h1
  have hq' : tmps[9]?.getD undef = .pointer (some ⟨g2, 0, none⟩) := by simpa using h2
  have e1 : (loadVar 92 ⟨g1, 0, none⟩).run Tryz.prog W = .ok v1 W := by go_simp
  have e2 : (loadVar 4 ⟨g2, 0, none⟩).run Tryz.prog W = .ok v2 W := by go_simp
  simp [results, hr, hp', hq', asAddr, e1, e2]
/-- what numbers answers -/
def NpAns (w : World) (r : Option (List Nat)) (e : Ending) (w' : World) : Prop := (∀ S, Keeps S w w') ∧ match r with
  | some ns => ∃ A c, e = .returned (.tuple #[.slice A ns.length c, .bool true]) ∧ Que w' w.heap.size 96 (.slice A ns.length c) (q64 ns)
  | none => e = .returned (.tuple #[.slice none 0 0, .bool false])
section
variable (w : World)
set_option maxRecDepth 100000 in
set_option maxHeartbeats 4000000 in
theorem numbersp_ (b c : Nat) (bits : Int) (hb : b = 16 ∧ bits = 16 ∨ b = 10 ∧ bits = 8) (hc : c < 256) (l : List Nat) (hl : ∀ x ∈ l, x < 256) (hn : l.length ≤ 1000000) (hne : l ≠ []) (henv : Env w) :
    Calls Tryz.prog 87 #[.string (str l), .string (str [c]), .int .i64 (b : Int), .int .i64 bits] w fun e w' => NpAns w (allp b (spl c l)) e w' := by
  have hemp : (str l).toList.isEmpty = false := by
    rw [← decide_eq_emptyBytes]
    refine decide_eq_false (fun h => hne ?_)
    have := congrArg ByteArray.size h
    rw [str_size] at this
    exact List.eq_nil_of_length_eq_zero (by rw [this]; rfl)
  refine (callsIn_wide (n := 5)).1 ?_
  refine callsIn_of_wp_marks Tryz.func87 rfl trivial ?_ rfl
  simp only [Tryz.ntmps87, List.size_toArray, List.length_cons, List.length_nil, Nat.reduceAdd, Nat.reduceSub, Array.replicate_succ, Array.replicate_zero, List.push_toArray, List.append_toArray, List.nil_append, List.cons_append]
  gi_wp2
  refine ⟨trivial, ?_⟩
  refine (callsIn_wide.2 (splitseq_ _ _ _)).mono ?_
  rintro e w' ⟨rfl, rfl⟩
  gi_wp2
  have hst := nb_start w (b : Int) bits c l
  obtain ⟨W0, hW0⟩ : ∃ W0, W0 = seqW (((((w.alloc (.cells #[.int .i64 (b : Int)] 3)).alloc (.cells #[.int .i64 bits] 3)).alloc (.cells #[.slice none 0 0] 92)).alloc (.cells #[.bool false] 4)).alloc (.cells #[.slice none 0 0] 92)) (str l) (str [c]) := ⟨_, rfl⟩
  rw [← hW0] at hst ⊢
  have hsz0 : w.heap.size + 8 ≤ W0.heap.size := hst.b7.lt
  clear hW0
  simp only [Nat.add_assoc, Nat.reduceAdd]
  refine range_box (by omega) (gf := 137) (lb := #[.pointer (some ⟨w.heap.size + 6, 0, none⟩), .pointer (some ⟨w.heap.size + 5, 0, none⟩), .pointer (some ⟨w.heap.size + 7, 0, none⟩)]) rfl (enters_of Tryz.func137 (by kernel_rfl) rfl)
    (α := List Nat) (β := List Nat) (encs := fun x => #[.string (str x)]) (fun _ => rfl)
    (fun p t W => ∃ ns v, allp b p = some ns ∧ NB w W (b : Int) bits c ns v t) (fun p t W => allp b p = none ∧ NX w W) (fun p x => (∀ y ∈ x, y < 256) ∧ x.length ≤ 1000000 ∧ p.length ≤ 1000000) (fun t => .string (str t)) (w.heap.size + 5) (by omega)
    ?hI ?hIx ?hset l ?h0 (fun x => { tmps := #[.string (str l), .string (str [c]), .int .i64 (b : Int), .int .i64 bits, undef, undef, .pointer (some ⟨w.heap.size, 0, none⟩), .pointer (some ⟨w.heap.size + 1, 0, none⟩), .pointer (some ⟨w.heap.size + 2, 0, none⟩), .pointer (some ⟨w.heap.size + 3, 0, none⟩), .pointer (some ⟨w.heap.size + 4, 0, none⟩), .string (str x), undef, undef, .string (str l), .bool false, .string (str l), .string (str [c]), .func (.func 137) #[] #[.pointer (some ⟨w.heap.size + 6, 0, none⟩), .pointer (some ⟨w.heap.size + 5, 0, none⟩), .pointer (some ⟨w.heap.size + 7, 0, none⟩)], .string (str x), undef, undef, undef, undef, undef, undef, undef, undef, undef, undef, undef, undef, undef, undef], defers := [] })
    ?assign ?body (fun xs => xs = spl c l) (fun p => ∃ r, p ++ r = spl c l) ?hit ?done ?stop
  case hI =>
    rintro p t W W' row ⟨ns, v, h1, h3⟩ hg hr
    exact ⟨ns, v, h1, h3.abide hsz0 hg hr⟩
  case hIx =>
    rintro p t W W' row ⟨h1, h2⟩ hg hr
    exact ⟨h1, h2.abide hsz0 hg hr⟩
  case hset =>
    rintro p t t' W ⟨ns, v, h1, h3⟩
    exact ⟨ns, v, h1, h3.step t'⟩
  case h0 => exact ⟨[], _, rfl, hst⟩
  case assign =>
    intro l x W K hK
    gi_wp2
    exact hK
  case hit =>
    intro l' J Jx W hJ hJs hJg hJxg hY h0
    exact splititer_ 4 (by omega) (w.heap.size + 5) c l' l hl hn hc J Jx (fun p t W h => by
      obtain ⟨ns, v, _, h3⟩ := hJ p t W h
      exact ⟨by rw [h3.b5.cell]; rfl, h3.b5.frozen 0, by rw [h3.b6.cell]; rfl, by rw [h3.b7.cell]; rfl⟩) hJs hY W h0
  case body =>
    rintro l' p t x W ⟨ns, v, h1, h3⟩ ⟨ok1, ok2, ok3⟩
    have x0 : W.cell? ⟨w.heap.size, 0, none⟩ = some (.int .i64 (b : Int)) := by rw [h3.b0.cell]; rfl
    have x1 : W.cell? ⟨w.heap.size + 1, 0, none⟩ = some (.int .i64 bits) := by rw [h3.b1.cell]; rfl
    have HP : Hid (Calls Tryz.prog 112 #[.string (str x), .int .i64 (b : Int), .int .i64 bits] W fun e w' => PubAns (part_ b x) e ∧ ∀ S, Keeps S W w') := Lib.hid (by
      have hE : Env W := henv.old h3.k
      rcases hb with ⟨rfl, rfl⟩ | ⟨rfl, rfl⟩
      · exact parse16_ W x ok1 ok2 hE
      · exact parse10_ W x ok1 ok2 hE)
    have H3 := Lib.hid h3
    have H1 := Lib.hid (And.intro h1 (And.intro ok3 (allp_len b p ns h1)))
    clear h3 ok1 ok2 ok3 h1
    gi_wp2
    refine ⟨trivial, ?_⟩
    refine (CallsIn.inRound l' (callsIn_wide.2 HP.out)).mono ?_
    rintro e W1 ⟨hpa, k1⟩
    have h31 := H3.out.keeps k1
    have K1 := Lib.hid k1
    cases hpx : part_ b x with
    | some n =>
      rw [hpx] at hpa
      have hpa : e = .returned (.tuple #[.int .u64 (n : Int), .nilIface]) := hpa
      subst hpa
      have x4 : W1.cell? ⟨w.heap.size + 4, 0, none⟩ = some v := by rw [h31.b4.cell]; rfl
      have y4 := h31.b4.frozen 0
      have H31 := Lib.hid h31
      have HA := Lib.hid (allp_some b p ns x n H1.out.1 hpx)
      obtain ⟨i0, hi, hz0, hz1, hz2⟩ := info_parts u64_info
      clear h31 k1 x0 x1 hpx
      gi_wp2_with (gi_at_builtin; refine wpListIn_append_own _ rfl _ _ 92 rfl (w.heap.size + 8) 96 i0 (.int .u64 0) 1 8 Tryz.underlying92 hi hz0 hz1 hz2 rfl (by decide) v ns.length (q64 ns) rfl (H31.out.q.alloc _) ⟨W1.heap.size, 0, none⟩ 1 1 [.int .u64 (n : Int)] rfl rfl (cell_one_new _ _ _) (by simp [Value.oneCell']) (by have := H1.out.2.1; have := H1.out.2.2; unfold maxLen; omega) (by have := H1.out.2.1; have := H1.out.2.2; omega) (by have := H31.out.b7.lt; simp; omega) ?_)
      intro v2 W2 hown2 hg2 _
      obtain ⟨hnb, z4, zf⟩ := H31.out.more hown2 hg2
      have hko : KeepsOthers W (W2.setCell ⟨w.heap.size + 4, 0, none⟩ v2) := (((KeepsOthers.of_keeps K1.out).trans (KeepsOthers.alloc _ _)).trans (KeepsOthers.of_grownBy hg2 (fun j o hj ho => by
        rcases H31.out.q.2 with ⟨rfl, _⟩ | ⟨g', cap, cur, rfl, _, hcur, _⟩
        · cases hj
        · cases hj
          rw [(Below.heap_alloc _ _ _ (Array.getElem?_eq_some_iff.1 hcur).1).trans hcur] at ho
          cases ho
          rfl))).trans (KeepsOthers.setCell _ _ _)
      have HN := Lib.hid (And.intro hnb hko)
      obtain ⟨g', cap', rfl⟩ := ownsRow_succ hown2
      clear hnb hko hown2 hg2
      gi_wp2
      exact ⟨HN.out.2.from _, ns ++ [n], HA.out, _, HN.out.1⟩
    | none =>
      rw [hpx] at hpa
      obtain ⟨z, T, q, rfl⟩ := hpa
      have x2 : W1.cell? ⟨w.heap.size + 2, 0, none⟩ = some (.slice none 0 0) := by rw [h31.b2.cell]; rfl
      have y2 := h31.b2.frozen 0
      have x3 : W1.cell? ⟨w.heap.size + 3, 0, none⟩ = some (.bool false) := by rw [h31.b3.cell]; rfl
      have y3 := h31.b3.frozen 0
      have H31 := Lib.hid h31
      have HA := Lib.hid (allp_last b p x hpx)
      clear h31 k1 x0 x1 hpx
      gi_wp2
      exact ⟨(((KeepsOthers.of_keeps K1.out).trans (KeepsOthers.setCell _ _ _)).trans (KeepsOthers.setCell _ _ _)).from _, HA.out, (H31.out.k.setCell (.inr (by show w.heap.size ≤ w.heap.size + 2; omega)) _).setCell (.inr (by show w.heap.size ≤ w.heap.size + 3; omega)) _, (H31.out.b2.put 0 _).far (by simp) _, (H31.out.b3.far (by simp) _).put 0 _⟩
  case done =>
    rintro D xs t W hD rfl ⟨ns, v, h1, h3⟩ hK
    have x4 : W.cell? ⟨w.heap.size + 4, 0, none⟩ = some v := by rw [h3.b4.cell]; rfl
    have x2 : W.cell? ⟨w.heap.size + 2, 0, none⟩ = some (.slice none 0 0) := by rw [h3.b2.cell]; rfl
    have y2 := h3.b2.frozen 0
    have x3 : W.cell? ⟨w.heap.size + 3, 0, none⟩ = some (.bool false) := by rw [h3.b3.cell]; rfl
    have y3 := h3.b3.frozen 0
    have H3 := Lib.hid h3
    obtain ⟨A, cc, hvf⟩ : ∃ A cc, v = .slice A ns.length cc := by
      rcases h3.q.2 with ⟨rfl, h0⟩ | ⟨g', cap, cur, rfl, _⟩
      · exact ⟨none, 0, by rw [h0]⟩
      · exact ⟨_, _, rfl⟩
    subst hvf
    clear h3
    gi_wp2
    refine ⟨by simp, .inl ⟨_, _, rfl, run_takeDeferred (((KeepsOthers.setCell _ _ _).trans (KeepsOthers.setCell _ _ _)).same D _ hK rfl), ?_⟩⟩
    have b2 := ((H3.out.b2.put 0 (.slice A ns.length cc)).far (p := ⟨w.heap.size + 3, 0, none⟩) (by simp) (.bool true))
    have b3 := ((H3.out.b3.far (p := ⟨w.heap.size + 2, 0, none⟩) (by simp) (.slice A ns.length cc)).put 0 (.bool true))
    have k0 : Keeps (fun _ => False) w ((W.setCell ⟨w.heap.size + 2, 0, none⟩ (.slice A ns.length cc)).setCell ⟨w.heap.size + 3, 0, none⟩ (.bool true)) := (H3.out.k.setCell (.inr (by show w.heap.size ≤ w.heap.size + 2; omega)) _).setCell (.inr (by show w.heap.size ≤ w.heap.size + 3; omega)) _
    have hq : ((W.setCell ⟨w.heap.size + 2, 0, none⟩ (.slice A ns.length cc)).setCell ⟨w.heap.size + 3, 0, none⟩ (.bool true)).ownsRow (w.heap.size + 8) 96 1 (.slice A ns.length cc) ns.length (q64 ns) := by
      have q1 : (W.setCell ⟨w.heap.size + 2, 0, none⟩ (.slice A ns.length cc)).ownsRow (w.heap.size + 8) 96 1 (.slice A ns.length cc) ns.length (q64 ns) := H3.out.q.kept (grown_set W _ _) (by
        cases hv : (Value.slice A ns.length cc).ownBlock with
        | none => exact .inl rfl
        | some g => exact .inr (fun e => by have := (H3.out.q.lt g hv).1; simp only [Option.some.injEq] at e; omega))
      exact q1.kept (grown_set _ _ _) (by
        cases hv : (Value.slice A ns.length cc).ownBlock with
        | none => exact .inl rfl
        | some g => exact .inr (fun e => by have := (H3.out.q.lt g hv).1; simp only [Option.some.injEq] at e; omega))
    have hKD := ((KeepsOthers.setCell W ⟨w.heap.size + 2, 0, none⟩ (.slice A ns.length cc)).trans (KeepsOthers.setCell _ ⟨w.heap.size + 3, 0, none⟩ (.bool true))).same D _ hK rfl
    generalize (W.setCell ⟨w.heap.size + 2, 0, none⟩ (.slice A ns.length cc)).setCell ⟨w.heap.size + 3, 0, none⟩ (.bool true) = W8 at *
    have hg8 := grownBy_putObj' W8 D (.deferred none)
    refine ⟨_, np_results _ _ _ _ _ _ _ _ rfl rfl (b2.grown hg8 (by simp; omega)) (b3.grown hg8 (by simp; omega)), keeps_turn k0 hg8 (by omega), ?_⟩
    rw [h1]
    exact ⟨A, cc, rfl, que_low (owns_que (ownsRow_putObj hq _ hKD rfl)).1 (by omega)⟩
  case stop =>
    rintro D p t W hD ⟨r, hr⟩ ⟨h1, h3⟩ hK
    gi_wp2
    refine ⟨by simp, .inl ⟨_, _, rfl, run_takeDeferred hK, ?_⟩⟩
    have hg8 := grownBy_putObj' W D (.deferred none)
    refine ⟨_, np_results _ _ _ _ _ _ _ _ rfl rfl (h3.b2.grown hg8 (by simp; omega)) (h3.b3.grown hg8 (by simp; omega)), keeps_turn h3.k hg8 (by omega), ?_⟩
    rw [← hr, allp_none b p r h1]
end
end Go.Proofs.YtgcdhfpbmcfedaaGreatDoor.pf
end
section
set_option linter.unusedVariables false
set_option linter.unusedSimpArgs false
namespace Go.Proofs.YtgcdhfpbmcfedaaGreatDoor.pf
theorem hv_sign {d : Nat} (h : d < 16) : hv 16 (sign d) = some d := by
  have : ∀ x : Fin 16, hv 16 (sign x.val) = some x.val := by decide +kernel
  exact this ⟨d, h⟩
theorem hv_dec {d : Nat} (h : d < 10) : hv 10 (48 + d) = some d := by
  have : ∀ x : Fin 10, hv 10 (48 + x.val) = some x.val := by decide +kernel
  exact this ⟨d, h⟩
theorem part16_hx (n : Nat) (h : n < 65536) : part_ 16 (hx n) = some n := by
  have one : ∀ (d acc : Nat) (r : List Nat), d < 16 → acc * 16 + d < 65536 → pu 16 65535 acc (sign d :: r) = pu 16 65535 (acc * 16 + d) r := fun d acc r hd ha => by
    simp only [pu, hv_sign hd]
    rw [if_neg (by omega)]
  unfold part_
  rcases hx_form n h with ⟨h1, e⟩ | ⟨h1, h2, e⟩ | ⟨h1, h2, e⟩ | ⟨h1, e⟩ <;> rw [e, if_neg (by simp)] <;> simp only [if_true]
  · rw [one _ _ _ (by omega) (by omega), pu]; congr 1; omega
  · rw [one _ _ _ (by omega) (by omega), one _ _ _ (by omega) (by omega), pu]; congr 1; omega
  · rw [one _ _ _ (by omega) (by omega), one _ _ _ (by omega) (by omega), one _ _ _ (by omega) (by omega), pu]; congr 1; omega
  · rw [one _ _ _ (by omega) (by omega), one _ _ _ (by omega) (by omega), one _ _ _ (by omega) (by omega), one _ _ _ (by omega) (by omega), pu]; congr 1; omega
theorem part10_dec (n : Nat) (h : n < 256) : part_ 10 (dec n) = some n := by
  have one : ∀ (d acc : Nat) (r : List Nat), d < 10 → acc * 10 + d < 256 → pu 10 255 acc ((48 + d) :: r) = pu 10 255 (acc * 10 + d) r := fun d acc r hd ha => by
    simp only [pu, hv_dec hd]
    rw [if_neg (by omega)]
  unfold part_
  rcases dec_form n h with ⟨h1, e⟩ | ⟨h1, h2, e⟩ | ⟨h1, e⟩ <;> rw [e, if_neg (by simp)] <;> simp only [show ¬ (10 = 16) from by omega, if_false]
  · rw [one _ _ _ (by omega) (by omega), pu]; congr 1; omega
  · rw [one _ _ _ (by omega) (by omega), one _ _ _ (by omega) (by omega), pu]; congr 1; omega
  · rw [one _ _ _ (by omega) (by omega), one _ _ _ (by omega) (by omega), one _ _ _ (by omega) (by omega), pu]; congr 1; omega
theorem spl_no (c : Nat) : ∀ l : List Nat, (∀ x ∈ l, x ≠ c) → spl c l = [l]
  | [], _ => rfl
  | x :: r, h => by
    rw [spl, if_neg (h x (by simp)), spl_no c r (fun y hy => h y (List.mem_cons_of_mem _ hy))]
theorem spl_cat (c : Nat) : ∀ (l r : List Nat), (∀ x ∈ l, x ≠ c) → spl c (l ++ c :: r) = l :: spl c r
  | [], r, _ => by rw [List.nil_append, spl, if_pos rfl]
  | x :: q, r, h => by
    rw [List.cons_append, spl, if_neg (h x (by simp)), spl_cat c q r (fun y hy => h y (List.mem_cons_of_mem _ hy))]
theorem spl_jnb (b c : Nat) : ∀ (n : Nat) (ns : List Nat), (∀ m ∈ n :: ns, ∀ x ∈ dig b m, x ≠ c) → spl c (jnb b c (n :: ns)) = (n :: ns).map (dig b)
  | n, [], h => by rw [jnb, spl_no c _ (h n (by simp))]; rfl
  | n, m :: r, h => by
    rw [jnb, spl_cat c _ _ (h n (by simp)), spl_jnb b c m r (fun q hq => h q (List.mem_cons_of_mem _ hq))]
    rfl
theorem allp_map (b : Nat) : ∀ ns : List Nat, (∀ n ∈ ns, part_ b (dig b n) = some n) → allp b (ns.map (dig b)) = some ns
  | [], _ => rfl
  | n :: r, h => by
    rw [List.map_cons, allp, h n (by simp), allp_map b r (fun m hm => h m (List.mem_cons_of_mem _ hm))]
theorem dig_ne (b n : Nat) (h : okDig b n) : dig b n ≠ [] := by
  rcases h with ⟨rfl, h⟩ | ⟨rfl, h⟩
  · rcases hx_form n h with ⟨_, e⟩ | ⟨_, _, e⟩ | ⟨_, _, e⟩ | ⟨_, e⟩ <;> show hx n ≠ [] <;> rw [e] <;> simp
  · rcases dec_form n h with ⟨_, e⟩ | ⟨_, _, e⟩ | ⟨_, e⟩ <;> show dec n ≠ [] <;> rw [e] <;> simp
theorem part_dig (b n : Nat) (h : okDig b n) : part_ b (dig b n) = some n := by
  rcases h with ⟨rfl, h⟩ | ⟨rfl, h⟩
  · exact part16_hx n h
  · exact part10_dec n h
theorem dig_sep (b c n : Nat) (h : okDig b n) (hc : c = 58 ∨ c = 46) : ∀ x ∈ dig b n, x ≠ c := by
  have sg : ∀ d, d < 16 → sign d ≠ c := fun d hd => by unfold sign; split <;> omega
  rcases h with ⟨rfl, h⟩ | ⟨rfl, h⟩
  · show ∀ x ∈ hx n, x ≠ c
    intro x hx
    rcases hx_form n h with ⟨_, e⟩ | ⟨_, _, e⟩ | ⟨_, _, e⟩ | ⟨_, e⟩ <;> rw [e] at hx <;> simp at hx
    · subst hx; exact sg _ (by omega)
    · rcases hx with rfl | rfl <;> exact sg _ (by omega)
    · rcases hx with rfl | rfl | rfl <;> exact sg _ (by omega)
    · rcases hx with rfl | rfl | rfl | rfl <;> exact sg _ (by omega)
  · show ∀ x ∈ dec n, x ≠ c
    intro x hx
    rcases dec_form n h with ⟨_, e⟩ | ⟨_, _, e⟩ | ⟨_, e⟩ <;> rw [e] at hx <;> simp at hx <;> omega
theorem nump_jnb (b c : Nat) (hc : c = 58 ∨ c = 46) (ns : List Nat) (h : ∀ n ∈ ns, okDig b n) : nump b c (jnb b c ns) = some ns := by
  unfold nump
  cases ns with
  | nil => rfl
  | cons n r =>
    have hne : jnb b c (n :: r) ≠ [] := by
      rw [jnb_cons]
      intro e
      exact dig_ne b n (h n (by simp)) (List.append_eq_nil_iff.1 e).1
    rw [if_neg hne, spl_jnb b c n r (fun m hm => dig_sep b c m (h m hm) hc), allp_map b _ (fun m hm => part_dig b m (h m hm))]
/-- a number that is read is small -/
theorem pu_le (b mx : Nat) : ∀ (l : List Nat) (acc v : Nat), acc ≤ mx → pu b mx acc l = some v → v ≤ mx
  | [], acc, v, h, e => by simp only [pu, Option.some.injEq] at e; omega
  | c :: r, acc, v, h, e => by
    rw [pu] at e
    cases hq : hv b c with
    | none => rw [hq] at e; cases e
    | some d =>
      rw [hq] at e
      simp only at e
      by_cases ho : mx < acc * b + d
      · rw [if_pos ho] at e; cases e
      · rw [if_neg ho] at e
        exact pu_le b mx r _ v (by omega) e
theorem part_le (b : Nat) (l : List Nat) (v : Nat) (h : part_ b l = some v) : v ≤ (if b = 16 then 65535 else 255) := by
  unfold part_ at h
  by_cases e : l = []
  · rw [if_pos e] at h; cases h
  · rw [if_neg e] at h
    exact pu_le b _ l 0 v (by omega) h
theorem allp_le (b : Nat) : ∀ (p : List (List Nat)) (ns : List Nat), allp b p = some ns → ∀ n ∈ ns, n ≤ (if b = 16 then 65535 else 255)
  | [], ns, h => by simp only [allp, Option.some.injEq] at h; subst h; intro n hn; simp at hn
  | y :: q, ns, h => by
    rw [allp] at h
    cases h1 : part_ b y with
    | none => rw [h1] at h; cases h
    | some m =>
      cases h2 : allp b q with
      | none => rw [h1, h2] at h; cases h
      | some ms =>
        rw [h1, h2] at h
        simp only [Option.some.injEq] at h
        subst h
        intro n hn
        rcases List.mem_cons.1 hn with rfl | hn
        · exact part_le b y _ h1
        · exact allp_le b q ms h2 n hn
theorem nump_le {b c : Nat} {l ns : List Nat} (h : nump b c l = some ns) : ∀ n ∈ ns, n ≤ (if b = 16 then 65535 else 255) := by
  unfold nump at h
  by_cases e : l = []
  · rw [if_pos e] at h
    simp only [Option.some.injEq] at h
    subst h
    intro n hn; simp at hn
  · rw [if_neg e] at h
    exact allp_le b _ ns h
/-- numbers as bytes, two each -/
def by2 : List Nat → List Nat
  | [] => []
  | n :: r => n / 256 :: n % 256 :: by2 r
theorem by2_len : ∀ ns : List Nat, (by2 ns).length = 2 * ns.length
  | [] => rfl
  | n :: r => by simp [by2, by2_len r]; omega
theorem by2_get : ∀ (ns : List Nat) (j : Nat), (by2 ns)[j]?.getD 0 = if j % 2 = 0 then ns[j / 2]?.getD 0 / 256 else ns[j / 2]?.getD 0 % 256
  | [], j => by simp [by2]
  | n :: r, 0 => by simp [by2]
  | n :: r, 1 => by simp [by2]
  | n :: r, j + 2 => by
    rw [by2, List.getElem?_cons_succ, List.getElem?_cons_succ, by2_get r j, show (j + 2) % 2 = j % 2 from by omega, show (j + 2) / 2 = j / 2 + 1 from by omega, List.getElem?_cons_succ]
theorem by2_lt : ∀ ns : List Nat, (∀ n ∈ ns, n ≤ 65535) → ∀ x ∈ by2 ns, x < 256
  | [], _ => by intro x hx; simp [by2] at hx
  | n :: r, h => by
    intro x hx
    have hn := h n (by simp)
    rw [by2] at hx
    rcases List.mem_cons.1 hx with rfl | hx
    · omega
    · rcases List.mem_cons.1 hx with rfl | hx
      · omega
      · exact by2_lt r (fun m hm => h m (List.mem_cons_of_mem _ hm)) x hx
def lfour (l : List Nat) : Option Ad := match nump 10 46 l with
  | some ns => if ns.length = 4 then some ⟨false, ns ++ List.replicate 12 0⟩ else none
  | none => none
def mid (xs ys : List Nat) : List Nat := xs ++ List.replicate (8 - (xs.length + ys.length)) 0 ++ ys
def lsix (l : List Nat) : Option Ad := match nump 16 58 (headL l), nump 16 58 (tailL l) with
  | some xs, some ys => if 8 < xs.length + ys.length ∨ (xs.length + ys.length < 8 ∧ gapL l = none) then none else some ⟨true, by2 (mid xs ys)⟩
  | _, _ => none
def loose (l : List Nat) : Option Ad := if 39 < l.length then none else if 58 ∈ l then lsix l else lfour l
theorem lfour_wf {l : List Nat} {a : Ad} (h : lfour l = some a) : a.Wf ∧ a.v6 = false := by
  unfold lfour at h
  cases hn : nump 10 46 l with
  | none => rw [hn] at h; cases h
  | some ns =>
    rw [hn] at h
    simp only at h
    by_cases h4 : ns.length = 4
    · rw [if_pos h4] at h
      simp only [Option.some.injEq] at h
      subst h
      refine ⟨⟨by simp [h4], fun x hx => ?_⟩, rfl⟩
      rcases List.mem_append.1 hx with q | q
      · have := nump_le hn x q; rw [if_neg (by omega)] at this; omega
      · have := (List.mem_replicate.1 q).2; omega
    · rw [if_neg h4] at h; cases h
theorem mid_len {xs ys : List Nat} (h : xs.length + ys.length ≤ 8) : (mid xs ys).length = 8 := by simp [mid]; omega
theorem lsix_wf {l : List Nat} {a : Ad} (h : lsix l = some a) : a.Wf := by
  unfold lsix at h
  cases h1 : nump 16 58 (headL l) with
  | none => rw [h1] at h; cases h
  | some xs =>
    cases h2 : nump 16 58 (tailL l) with
    | none => rw [h1, h2] at h; cases h
    | some ys =>
      rw [h1, h2] at h
      simp only at h
      by_cases hc : 8 < xs.length + ys.length ∨ (xs.length + ys.length < 8 ∧ gapL l = none)
      · rw [if_pos hc] at h; cases h
      · rw [if_neg hc] at h
        simp only [Option.some.injEq] at h
        subst h
        refine ⟨by rw [by2_len, mid_len (by omega)], by2_lt _ fun n hn => ?_⟩
        rcases List.mem_append.1 hn with q | q
        · rcases List.mem_append.1 q with q | q
          · have := nump_le h1 n q; simpa using this
          · have := (List.mem_replicate.1 q).2; omega
        · have := nump_le h2 n q; simpa using this
theorem loose_wf {l : List Nat} {a : Ad} (h : loose l = some a) : a.Wf := by
  unfold loose at h
  split at h
  · cases h
  · split at h
    · exact lsix_wf h
    · exact (lfour_wf h).1
theorem lfour_t4 {a : Ad} (h : a.Wf) (ho : okA a) (hv : a.v6 = false) : lfour (t4 a) = some a := by
  have b := byt_lt h
  have hok : ∀ n ∈ [byt a 0, byt a 1, byt a 2, byt a 3], okDig 10 n := fun n hn => by
    have h0 := b 0; have h1 := b 1; have h2 := b 2; have h3 := b 3
    simp at hn
    rcases hn with rfl | rfl | rfl | rfl <;> exact .inr ⟨rfl, by assumption⟩
  unfold lfour
  rw [← t4_jn, nump_jnb 10 46 (.inr rfl) _ hok]
  simp only [List.length_cons, List.length_nil, Nat.reduceAdd, if_true, Option.some.injEq]
  refine Ad.ext_byt ⟨by simp, fun x hx => ?_⟩ h hv.symm fun i hi => ?_
  · rcases List.mem_append.1 hx with q | q
    · have h0 := b 0; have h1 := b 1; have h2 := b 2; have h3 := b 3
      simp at q
      rcases q with rfl | rfl | rfl | rfl <;> assumption
    · have := (List.mem_replicate.1 q).2; omega
  · have hw : wid a / 8 = 4 := by unfold wid; rw [hv]; rfl
    rcases Nat.lt_or_ge i 4 with q | q
    · rcases (show i = 0 ∨ i = 1 ∨ i = 2 ∨ i = 3 by omega) with rfl | rfl | rfl | rfl <;> rfl
    · rw [ho i (by omega) hi]
      show ([byt a 0, byt a 1, byt a 2, byt a 3] ++ List.replicate 12 0)[i]?.getD 0 = 0
      rw [List.getElem?_append_right (by simp; omega), List.getElem?_replicate]
      split <;> rfl
theorem lsix_eq {l xs ys : List Nat} (h1 : nump 16 58 (headL l) = some xs) (h2 : nump 16 58 (tailL l) = some ys) (hc : ¬ (8 < xs.length + ys.length ∨ (xs.length + ys.length < 8 ∧ gapL l = none))) : lsix l = some ⟨true, by2 (mid xs ys)⟩ := by
  unfold lsix
  rw [h1, h2]
  simp only
  rw [if_neg hc]
theorem mid_get (nm : Nat → Nat) (p n j : Nat) (hp : p + n ≤ 8) (hj : j < 8) (h3 : ∀ i, i < n → nm (p + i) = 0) : (fst nm p ++ List.replicate (8 - (p + (8 - (p + n)))) 0 ++ seg nm (p + n) (8 - (p + n)))[j]?.getD 0 = nm j := by
  have hk : 8 - (p + (8 - (p + n))) = n := by omega
  rw [hk]
  by_cases c1 : j < p
  · rw [List.append_assoc, List.getElem?_append_left (by rw [fst_len]; exact c1), fst_get _ _ _ c1]
  · by_cases c2 : j < p + n
    · rw [List.append_assoc, List.getElem?_append_right (by rw [fst_len]; omega), fst_len, List.getElem?_append_left (by rw [List.length_replicate]; omega), List.getElem?_replicate]
      have := h3 (j - p) (by omega)
      rw [show p + (j - p) = j from by omega] at this
      rw [this]
      split <;> rfl
    · rw [List.getElem?_append_right (by rw [List.length_append, fst_len, List.length_replicate]; omega), List.length_append, fst_len, List.length_replicate, seg_get _ _ _ _ (by omega)]
      exact congrArg nm (by omega)
theorem lsix_t6 {a : Ad} (h : a.Wf) (hv : a.v6 = true) : lsix (t6 (num a)) = some a := by
  have hlt := num_lt h
  have fin : ∀ B : List Nat, B.length = 8 → (∀ n ∈ B, n ≤ 65535) → (∀ j, j < 8 → B[j]?.getD 0 = num a j) → (⟨true, by2 B⟩ : Ad) = a := fun B h1 h2 h3 => by
    refine Ad.ext_byt ⟨by rw [by2_len, h1], by2_lt B h2⟩ h hv.symm fun i hi => ?_
    show (by2 B)[i]?.getD 0 = byt a i
    rw [by2_get, h3 (i / 2) (by omega), ← num_byt h i]
  have okf : ∀ k, ∀ n ∈ fst (num a) k, okDig 16 n := fun k n hn => .inl ⟨rfl, fst_mem hlt k n hn⟩
  have oks : ∀ p k, ∀ n ∈ seg (num a) p k, okDig 16 n := fun p k n hn => .inl ⟨rfl, seg_mem hlt p k n hn⟩
  rcases t6_form (num a) with ⟨p, n, h1, h2, h3, e⟩ | e
  · have hg : gapL (t6 (num a)) = some (jn (fst (num a) p)).length := by
      rw [e, gap_jn _ _ (fst_mem hlt p) (.inr ⟨_, rfl⟩), gapL, if_pos ⟨rfl, rfl⟩]; simp
    have hh : headL (t6 (num a)) = jn (fst (num a) p) := by rw [head_some hg, e, List.take_left]
    have ht : tailL (t6 (num a)) = jn (seg (num a) (p + n) (8 - (p + n))) := by
      rw [tail_some hg, e]
      have : ∀ (X Y : List Nat), (X ++ 58 :: 58 :: Y).drop (X.length + 2) = Y := fun X Y => by
        rw [show X ++ 58 :: 58 :: Y = (X ++ [58, 58]) ++ Y from by simp, show X.length + 2 = (X ++ [58, 58]).length from by simp, List.drop_left]
      exact this _ _
    have n1 := nump_jnb 16 58 (.inl rfl) _ (okf p)
    have n2 := nump_jnb 16 58 (.inl rfl) _ (oks (p + n) (8 - (p + n)))
    rw [jnb_jn] at n1 n2
    rw [lsix_eq (l := t6 (num a)) (xs := fst (num a) p) (ys := seg (num a) (p + n) (8 - (p + n))) (by rw [hh]; exact n1) (by rw [ht]; exact n2) (by rw [fst_len, seg_len, hg]; simp; omega)]
    refine congrArg some ?_
    refine fin _ (mid_len (by rw [fst_len, seg_len]; omega)) (fun q hq => ?_) (fun j hj => ?_)
    · rcases List.mem_append.1 hq with q1 | q1
      · rcases List.mem_append.1 q1 with q2 | q2
        · have := fst_mem hlt p q q2; omega
        · have := (List.mem_replicate.1 q2).2; omega
      · have := seg_mem hlt _ _ q q1; omega
    · unfold mid
      rw [fst_len, seg_len]
      exact mid_get (num a) p n j (by omega) hj h3
  · have hg : gapL (t6 (num a)) = none := by
      have := gap_jn (fst (num a) 8) [] (fst_mem hlt 8) (.inl rfl)
      rw [List.append_nil] at this
      rw [e, this]; rfl
    have hh : headL (t6 (num a)) = jn (fst (num a) 8) := by rw [head_none hg, e]
    have ht : tailL (t6 (num a)) = [] := tail_none hg
    have n1 := nump_jnb 16 58 (.inl rfl) _ (okf 8)
    rw [jnb_jn] at n1
    have n2 : nump 16 58 [] = some [] := rfl
    rw [lsix_eq (l := t6 (num a)) (xs := fst (num a) 8) (ys := []) (by rw [hh]; exact n1) (by rw [ht]; exact n2) (by rw [fst_len]; simp)]
    refine congrArg some ?_
    refine fin _ (mid_len (by rw [fst_len]; simp)) (fun q hq => ?_) (fun j hj => ?_)
    · rcases List.mem_append.1 hq with q1 | q1
      · rcases List.mem_append.1 q1 with q2 | q2
        · have := fst_mem hlt 8 q q2; omega
        · have := (List.mem_replicate.1 q2).2; omega
      · simp at q1
    · unfold mid
      rw [List.append_assoc, List.getElem?_append_left (by rw [fst_len]; exact hj), fst_get _ _ _ hj]
theorem jn_len39 (l : List Nat) (h : l ≠ []) : (jn l).length + 1 ≤ 5 * l.length := by
  have : ∀ l : List Nat, l ≠ [] → (jnb 16 58 l).length + 1 ≤ 5 * l.length := by
    intro l
    induction l with
    | nil => intro h; exact absurd rfl h
    | cons n r ih =>
      intro _
      have := dig_len 16 n
      rw [jnb_cons]
      by_cases e : r = []
      · rw [if_pos e, e]; simp; omega
      · rw [if_neg e]
        have := ih e
        simp
        omega
  rw [← jnb_jn]
  exact this l h
theorem t6_len39 (nm : Nat → Nat) : (t6 nm).length ≤ 39 := by
  have j5 : ∀ l : List Nat, (jn l).length ≤ 5 * l.length := fun l => by rw [← jnb_jn]; exact jnb_len 16 58 l
  rcases t6_form nm with ⟨p, n, h1, h2, _, e⟩ | e
  · rw [e]
    have q1 := j5 (fst nm p)
    have q2 := j5 (seg nm (p + n) (8 - (p + n)))
    rw [fst_len] at q1
    rw [seg_len] at q2
    simp
    omega
  · rw [e]
    have := jn_len39 (fst nm 8) (by simp [fst])
    rw [fst_len] at this
    omega
theorem t4_len15 (a : Ad) : (t4 a).length ≤ 15 := by
  have d := fun n => dg_len 10 3 n
  unfold t4 dec
  have h0 := d (byt a 0); have h1 := d (byt a 1); have h2 := d (byt a 2); have h3 := d (byt a 3)
  simp
  omega
theorem t4_no58 {a : Ad} (h : a.Wf) : ¬ 58 ∈ t4 a := by
  have b := byt_lt h
  have hd : ∀ i, ¬ 58 ∈ dec (byt a i) := fun i q => dig_sep 10 58 _ (.inr ⟨rfl, b i⟩) (.inl rfl) 58 q rfl
  unfold t4
  simp [hd]
/-- what is an address's text is read as it -/
theorem loose_text {a : Ad} (h : a.Wf) (ho : okA a) : loose (atext a) = some a := by
  unfold loose atext
  cases hv : a.v6 with
  | true =>
    simp only [if_true]
    rw [if_neg (by have := t6_len39 (num a); omega), if_pos (t6_colon _)]
    exact lsix_t6 h hv
  | false =>
    simp only [Bool.false_eq_true, if_false]
    rw [if_neg (by have := t4_len15 a; omega), if_neg (t4_no58 h)]
    exact lfour_t4 h ho hv
end Go.Proofs.YtgcdhfpbmcfedaaGreatDoor.pf
end
section
set_option linter.unusedVariables false
set_option linter.unusedSimpArgs false
namespace Go.Proofs.YtgcdhfpbmcfedaaGreatDoor.pf
open Go.RowKit Go.Shelf Go.Proofs.YtgcdhfpbmcfedaaGreatDoor.oc Go.Proofs.YtgcdhfpbmcfedaaGreatDoor.mz Go.Proofs.YtgcdhfpbmcfedaaGreatDoor.wh Go.Proofs.YtgcdhfpbmcfedaaGreatDoor.qk Go.Proofs.YtgcdhfpbmcfedaaGreatDoor.rb
section
variable (w : World)
set_option maxRecDepth 100000 in
set_option maxHeartbeats 1000000 in
theorem numbers0_ (sep : ByteArray) (base bits : Int) : Calls Tryz.prog 87 #[.string (str []), .string sep, .int .i64 base, .int .i64 bits] w fun e w' => e = .returned (.tuple #[.slice none 0 0, .bool true]) ∧ ∀ S, Keeps S w w' := by
  have hemp : (str []).toList.isEmpty = true := by rw [ByteArray.toList_eq]; rfl
  go_enter Tryz.func87, Tryz.ntmps87
  go_wp2
  try rw [Exit.noGoto_ret]
  have e1 := (Blk.new ((w.alloc (.cells #[.int .i64 base] 3)).alloc (.cells #[.int .i64 bits] 3)) 92 #[.slice none 0 0]).alloc (.cells #[.bool true] 4)
  have e2 := Blk.new (((w.alloc (.cells #[.int .i64 base] 3)).alloc (.cells #[.int .i64 bits] 3)).alloc (.cells #[.slice none 0 0] 92)) 4 #[.bool true]
  simp only [World.size_alloc] at e1 e2
  refine bodyPost_ret (np_results _ _ _ _ _ _ _ _ rfl rfl e1 e2) rfl ?_
  exact ⟨rfl, fun S => ((((Keeps.refl S w).alloc _).alloc _).alloc _).alloc _⟩
theorem numsp_ (b c : Nat) (bits : Int) (hb : b = 16 ∧ bits = 16 ∨ b = 10 ∧ bits = 8) (hc : c < 256) (l : List Nat) (hl : ∀ x ∈ l, x < 256) (hn : l.length ≤ 1000000) (henv : Env w) :
    Calls Tryz.prog 87 #[.string (str l), .string (str [c]), .int .i64 (b : Int), .int .i64 bits] w fun e w' => NpAns w (nump b c l) e w' := by
  by_cases hne : l = []
  · subst hne
    refine (numbers0_ w _ _ _).mono ?_
    rintro e w' ⟨rfl, k⟩
    exact ⟨k, none, 0, rfl, .inl ⟨rfl, rfl⟩⟩
  · rw [nump, if_neg hne]
    exact numbersp_ w b c bits hb hc l hl hn hne henv
end
end Go.Proofs.YtgcdhfpbmcfedaaGreatDoor.pf
end
section
set_option linter.unusedVariables false
set_option linter.unusedSimpArgs false
namespace Go.Proofs.YtgcdhfpbmcfedaaGreatDoor.pf
open Go.RowKit Go.Shelf Go.Proofs.YtgcdhfpbmcfedaaGreatDoor.oc Go.Proofs.YtgcdhfpbmcfedaaGreatDoor.mz Go.Proofs.YtgcdhfpbmcfedaaGreatDoor.wh Go.Proofs.YtgcdhfpbmcfedaaGreatDoor.qk Go.Proofs.YtgcdhfpbmcfedaaGreatDoor.rb
/-- what the loose readers answer -/
def LsAns (r : Option Ad) (e : Ending) : Prop := match r with
  | some a => e = .returned (.tuple #[av a, .bool true])
  | none => e = .returned (.tuple #[av zeroA, .bool false])
/-- bytes so far -/
def bsf (ns : List Nat) (k : Nat) : List Nat := ns.take k ++ List.replicate (16 - k) 0
theorem bsf_four {ns : List Nat} (h : ns.length = 4) : bsf ns 4 = ns ++ List.replicate 12 0 := by unfold bsf; rw [List.take_of_length_le (by omega)]
theorem bsf_set {ns : List Nat} {k x : Nat} (h : ns[k]? = some x) (hk : k < 16) : (bsf ns k).set k x = bsf ns (k + 1) := by
  have hl : k < ns.length := (List.getElem?_eq_some_iff.1 h).1
  have hlen : (ns.take k).length = k := by rw [List.length_take]; omega
  unfold bsf
  rw [List.set_append_right _ _ (by omega), hlen, Nat.sub_self, take_snoc h, show 16 - k = (16 - (k + 1)) + 1 from by omega, List.replicate_succ, List.set_cons_zero, List.append_assoc]
  rfl
section
variable (w : World)
set_option maxRecDepth 100000 in
set_option maxHeartbeats 4000000 in
theorem loosefour_ (l : List Nat) (hl : ∀ x ∈ l, x < 256) (hn : l.length ≤ 1000000) (henv : Env w) :
    Calls Tryz.prog 73 #[.string (str l)] w fun e w' => LsAns (lfour l) e ∧ ∀ S, Keeps S w w' := by
  obtain ⟨w1, hw1, B1, K1⟩ := new_zero w
  have HN := Lib.hid (numsp_ w1 10 46 8 (.inr ⟨rfl, rfl⟩) (by omega) l hl hn (henv.keeps K1))
  have HW := Lib.hid hw1
  have KK1 : Hid (∀ S, Keeps S w w1) := Lib.hid K1
  have BR1 := Lib.hid B1
  have hs46 : (⟨#[46]⟩ : ByteArray) = str [46] := rfl
  obtain ⟨r, hr⟩ : ∃ r, r = nump 10 46 l := ⟨_, rfl⟩
  rw [← hr] at HN
  have HR := Lib.hid hr
  obtain ⟨s, hs⟩ : ∃ s, s = str l := ⟨_, rfl⟩
  rw [← hs] at HN ⊢
  clear hw1 B1 K1 hl hn henv hr hs
  cases r with
  | none =>
    have HL := Lib.hid (show lfour l = none from by unfold lfour; rw [← HR.out])
    rw [HL.out]
    go_enter Tryz.func73, Tryz.ntmps73
    go_wp2_with fail
    rw [← HW.out]
    refine HN.out.mono ?_
    rintro e w2 ⟨k2, hans⟩
    have K2 : Hid (∀ S, Keeps S w w2) := Lib.hid (fun S => (KK1.out S).trans (k2 S))
    have BR2 := Lib.hid (Blk.keeps BR1.out (k2 (fun _ => False)) (fun z => z))
    clear k2

    have hans : e = .returned (.tuple #[.slice none 0 0, .bool false]) := hans
    subst hans
    have hz := over_ad zeroA_wf BR2.out rfl
    rw [zeroA_cells] at hz
    have HZ := Lib.hid hz
    have KZ : Hid (∀ S, Keeps S w (w2.setCells w.heap.size 0 [.bool false, .int .u8 0, .int .u8 0, .int .u8 0, .int .u8 0, .int .u8 0, .int .u8 0, .int .u8 0, .int .u8 0, .int .u8 0, .int .u8 0, .int .u8 0, .int .u8 0, .int .u8 0, .int .u8 0, .int .u8 0, .int .u8 0])) := Lib.hid (fun S => by
      have kk := K2.out S
      have k9 := hz.2.2.2.2
      exact ⟨Nat.le_trans kk.size k9.size, fun x hx hs => by rw [k9.block x (Nat.lt_of_lt_of_le hx kk.size) (by omega), kk.block x hx hs], kk.same.trans k9.same⟩)
    clear hz
    go_wp2_with (refine wpList_store_mid rfl 24 _ _ rfl w.heap.size 0 #[.bool false, .int .u8 0, .int .u8 0, .int .u8 0, .int .u8 0, .int .u8 0, .int .u8 0, .int .u8 0, .int .u8 0, .int .u8 0, .int .u8 0, .int .u8 0, .int .u8 0, .int .u8 0, .int .u8 0, .int .u8 0, .int .u8 0] rfl rfl HZ.out.1 HZ.out.2.1 HZ.out.2.2.1 ?_)
    try rw [Exit.noGoto_ret]
    refine bodyPost_ret (wh.ret_cell (p := 2) (u := 3) (ty := 24) (by kernel_rfl) _ _ _ w.heap.size _ _ _ (by rfl) HZ.out.2.2.2.1 Tryz.underlying24 rfl addr_info) rfl ?_
    exact ⟨rfl, KZ.out⟩

  | some ns =>
    by_cases h4 : ns.length = 4
    · obtain ⟨R, hR⟩ : ∃ R : Ad, R = ⟨false, ns ++ List.replicate 12 0⟩ := ⟨_, rfl⟩
      have HRR := Lib.hid hR
      have HL := Lib.hid (show lfour l = some R from by rw [hR]; unfold lfour; rw [← HR.out]; simp only; rw [if_pos h4])
      have HNL := Lib.hid (show ∀ n ∈ ns, n ≤ 255 from fun n hn => by have := nump_le HR.out.symm n hn; rw [if_neg (by omega)] at this; exact this)
      rw [HL.out]
      clear hR
      have H4 := Lib.hid h4
      go_enter Tryz.func73, Tryz.ntmps73
      go_wp2_with fail
      rw [← HW.out]
      refine HN.out.mono ?_
      rintro e w2 ⟨k2, hans⟩
      have K2 : Hid (∀ S, Keeps S w w2) := Lib.hid (fun S => (KK1.out S).trans (k2 S))
      have BR2 := Lib.hid (Blk.keeps BR1.out (k2 (fun _ => False)) (fun z => z))
      clear k2

      obtain ⟨A, c, he, hq⟩ := hans
      rw [h4] at he hq
      subst he
      have HA : Hid (∀ k x, ns[k]? = some x → ∃ g o, A = some ⟨g, o, none⟩ ∧ g < w2.heap.size ∧ w2.cell? ⟨g, o + k, none⟩ = some (.int .u64 ((x : Nat) : Int))) := Lib.hid (fun k x hx => by
        obtain ⟨b, o, e, _, _, hc⟩ := Que.at_ hq (k := k) (x := .int .u64 (x : Int)) (by rw [q64, List.getElem?_map, hx]; rfl)
        exact ⟨b, o, e, cell_lt hc, hc⟩)
      obtain ⟨w3, hw3, B3, K3⟩ := new_zero w2
      have HW3 := Lib.hid hw3
      have HI := Lib.hid (show Blk w3 w2.heap.size 24 (adc ⟨false, bsf ns 0⟩) ∧ Below w2.heap.size w2 w3 from ⟨B3, Keeps.below (K3 (fun _ => False))⟩)
      clear hq h4 hw3 B3 K3
      go_wp2_with fail
      rw [← HW3.out]
      go_loopw [7, 8, 24] (fun a b i wr => ∃ (k : Nat), k ≤ 4 ∧ i = .int .i64 (k : Int) ∧ Blk wr w2.heap.size 24 (adc ⟨false, bsf ns k⟩) ∧ Below w2.heap.size w2 wr) (fun _ _ i _ => 20 - (intOf i).toNat)
      case atStart => exact ⟨0, by omega, rfl, HI.out⟩
      case round =>
        obtain ⟨k, k4, rfl, hb, hw⟩ := hrel
        have k0 : (0 : Int) ≤ (k : Int) := by omega
        have HB := Lib.hid hb
        have HBW := Lib.hid hw
        by_cases hlt : k < 4
        · have hlt' : (k : Int) < 4 := by omega
          obtain ⟨x, hx⟩ : ∃ x, ns[k]? = some x := ⟨_, List.getElem?_eq_getElem (by rw [H4.out]; exact hlt)⟩
          obtain ⟨g, o, hAe, hg, hcell⟩ := HA.out k x hx
          have xk : wr.cell? ⟨g, o + k, none⟩ = some (.int .u64 (x : Int)) := (hw.cell hg).trans hcell
          have hx255 := HNL.out x (List.mem_of_getElem? hx)
          have hwx : IntKind.u8.wrap (x : Int) = (x : Int) := by rw [IntKind.wrap_u8']; omega
          have hnew : Blk (wr.setCell ⟨w2.heap.size, 1 + k, none⟩ (.int .u8 (x : Int))) w2.heap.size 24 (adc ⟨false, bsf ns (k + 1)⟩) := by
            have := HB.out.put (1 + k) (.int .u8 (x : Int))
            rw [← adc_set, bsf_set hx (by omega)] at this
            exact this
          have HNEW := Lib.hid (And.intro hnew (HBW.out.setCell (p := ⟨w2.heap.size, 1 + k, none⟩) (Nat.le_refl _) (.int .u8 (x : Int))))
          have hold := ad_byt (P := w2.heap.size) (a := ⟨false, bsf ns k⟩) ⟨by simp [bsf, H4.out]; omega, fun y hy => by
            rcases List.mem_append.1 hy with q | q
            · have := HNL.out y (List.mem_of_mem_take q); omega
            · have := (List.mem_replicate.1 q).2; omega⟩ HB.out (i := k) (by omega)
          have hfz := HB.out.frozen (1 + k)
          subst hAe
          clear hx hcell hx255 hnew hb hw hlt
          go_wp2_with fail
          go_roundw
          case rel => exact ⟨k + 1, by omega, by go_num, HNEW.out⟩
          case measure => simp [intOf]; omega
        · obtain rfl : k = 4 := by omega
          rw [bsf_four H4.out] at hb
          have hwf : (⟨false, ns ++ List.replicate 12 0⟩ : Ad).Wf := ⟨by simp [H4.out], fun y hy => by
            rcases List.mem_append.1 hy with q | q
            · have := HNL.out y q; omega
            · have := (List.mem_replicate.1 q).2; omega⟩
          have BRR := Blk.keeps BR2.out (of_below hw (fun _ => False)) (fun z => z)
          have hz := over_ad hwf BRR rfl
          have HRG := Lib.hid (wh.Blk.range hb)
          have HSZ := Lib.hid (ad_sz hwf)
          have hav : av ⟨false, ns ++ List.replicate 12 0⟩ = .agg (adc ⟨false, ns ++ List.replicate 12 0⟩).toArray := rfl
          rw [← HRR.out] at hav hz HRG HSZ
          have HAV := Lib.hid hav
          clear hav hwf
          generalize adc R = C at *
          have HZ := Lib.hid hz
          have KZ : Hid (∀ S, Keeps S w (wr.setCells w.heap.size 0 C)) := Lib.hid (fun S => by
            have kk := (K2.out S).trans (of_below hw S)
            have k9 := hz.2.2.2.2
            exact ⟨Nat.le_trans kk.size k9.size, fun x hx hs => by rw [k9.block x (Nat.lt_of_lt_of_le hx kk.size) (by omega), kk.block x hx hs], kk.same.trans k9.same⟩)
          have hlt' : ¬ (4 : Int) < 4 := by omega
          clear hz hb hw BRR hlt
          go_wp2_with (first
            | (refine wpList_load_mid rfl 24 _ rfl w2.heap.size 0 rfl C _ HRG.out Tryz.underlying24 rfl HSZ.out ?_)
            | (refine wpList_store_mid rfl 24 _ _ rfl w.heap.size 0 C.toArray rfl rfl HZ.out.1 HZ.out.2.1 HZ.out.2.2.1 ?_))
          try rw [Exit.noGoto_ret]
          refine bodyPost_ret (wh.ret_cell (p := 2) (u := 3) (ty := 24) (by kernel_rfl) _ _ _ w.heap.size _ _ _ (by rfl) HZ.out.2.2.2.1 Tryz.underlying24 rfl HSZ.out) rfl ?_
          exact ⟨by unfold LsAns; simp only; rw [HAV.out]; rfl, KZ.out⟩
    · have HL := Lib.hid (show lfour l = none from by unfold lfour; rw [← HR.out]; simp only; rw [if_neg h4])
      rw [HL.out]
      go_enter Tryz.func73, Tryz.ntmps73
      go_wp2_with fail
      rw [← HW.out]
      refine HN.out.mono ?_
      rintro e w2 ⟨k2, hans⟩
      have K2 : Hid (∀ S, Keeps S w w2) := Lib.hid (fun S => (KK1.out S).trans (k2 S))
      have BR2 := Lib.hid (Blk.keeps BR1.out (k2 (fun _ => False)) (fun z => z))
      clear k2

      obtain ⟨A, c, he, hq⟩ := hans
      subst he
      have h4' : ¬ (ns.length : Int) = 4 := by omega
      have h4d : (decide ((ns.length : Int) = 4)) = false := decide_eq_false h4'
      clear hq h4
      have hz := over_ad zeroA_wf BR2.out rfl
      rw [zeroA_cells] at hz
      have HZ := Lib.hid hz
      have KZ : Hid (∀ S, Keeps S w (w2.setCells w.heap.size 0 [.bool false, .int .u8 0, .int .u8 0, .int .u8 0, .int .u8 0, .int .u8 0, .int .u8 0, .int .u8 0, .int .u8 0, .int .u8 0, .int .u8 0, .int .u8 0, .int .u8 0, .int .u8 0, .int .u8 0, .int .u8 0, .int .u8 0])) := Lib.hid (fun S => by
        have kk := K2.out S
        have k9 := hz.2.2.2.2
        exact ⟨Nat.le_trans kk.size k9.size, fun x hx hs => by rw [k9.block x (Nat.lt_of_lt_of_le hx kk.size) (by omega), kk.block x hx hs], kk.same.trans k9.same⟩)
      clear hz
      go_wp2_with (refine wpList_store_mid rfl 24 _ _ rfl w.heap.size 0 #[.bool false, .int .u8 0, .int .u8 0, .int .u8 0, .int .u8 0, .int .u8 0, .int .u8 0, .int .u8 0, .int .u8 0, .int .u8 0, .int .u8 0, .int .u8 0, .int .u8 0, .int .u8 0, .int .u8 0, .int .u8 0, .int .u8 0] rfl rfl HZ.out.1 HZ.out.2.1 HZ.out.2.2.1 ?_)
      try rw [Exit.noGoto_ret]
      refine bodyPost_ret (wh.ret_cell (p := 2) (u := 3) (ty := 24) (by kernel_rfl) _ _ _ w.heap.size _ _ _ (by rfl) HZ.out.2.2.2.1 Tryz.underlying24 rfl addr_info) rfl ?_
      exact ⟨rfl, KZ.out⟩

end
end Go.Proofs.YtgcdhfpbmcfedaaGreatDoor.pf
end
section
set_option linter.unusedVariables false
namespace Go.Proofs.YtgcdhfpbmcfedaaGreatDoor.mz
open Go.RowKit
section
variable {P : Program} {w : World}
theorem wp_append_run {o : Oper} {a : Act} {K : Act → World → Prop} {Q : Exit → Act → World → Prop} (s x : Operand) (t : TypeId)
    (ho : o.op = .call { callee := .builtin .append, args := #[s, x], argTypes := #[t, t] }) (sv xv v' : Value) (w' : World) (hs : a.eval s = sv) (hx : a.eval x = xv)
    (hr : (Builtin.append_ #[t, t] o.type #[sv, xv]).run P w = .ok v' w') (h : K (a.put o.dst v') w') : o.wp P a w K Q := by
  unfold Oper.wp execOp
  simp only [ho, resolve, invoke, builtin, Sem.run_bind, Sem.run_pure, Result.andThen_ok, List.map_toArray, List.map_cons, List.map_nil, hs, hx, hr]
  exact h
theorem wpList_append_run {ops : Array Oper} {rest : List Oper} {o : Oper} {a : Act} {Q : Exit → Act → World → Prop} (hgd : o.guard = none) (s x : Operand) (t : TypeId)
    (ho : o.op = .call { callee := .builtin .append, args := #[s, x], argTypes := #[t, t] }) (sv xv v' : Value) (w' : World) (hs : a.eval s = sv) (hx : a.eval x = xv)
    (hr : (Builtin.append_ #[t, t] o.type #[sv, xv]).run P w = .ok v' w') (h : wpList P ops Q rest (a.put o.dst v') w') : wpList P ops Q (o :: rest) a w :=
  wpList_plain hgd fun _ hK => wp_append_run s x t ho sv xv v' w' hs hx hr (hK _ _ h)
end
end Go.Proofs.YtgcdhfpbmcfedaaGreatDoor.mz
end
section
set_option linter.unusedVariables false
namespace Go.Proofs.YtgcdhfpbmcfedaaGreatDoor.oc
open Go.RowKit Go.Proofs.YtgcdhfpbmcfedaaGreatDoor.mz
section
variable {P : Program} {w w' : World} {base : Nat} {e : TypeId} {v : Value} {xs : List Value}
theorem Que.run_appends (t ty : TypeId) (i : TypeInfo) (z : Value) (bytes : Nat) (ht : P.underlying t = some (.slice e)) (hi : P.info? e = some i) (hz : i.zero = some z)
    (hsize : i.size = 1) (hby : i.bytes = bytes) (hzs : z.cells.size = 1) (h : Que w base e v xs) (A : Option Addr) (c : Nat) (us : List Value)
    (hA : ∀ j y, us[j]? = some y → ∃ ad, A = some ad ∧ w.cell? (ad.add j) = some y) (h1 : ∀ y ∈ us, y.oneCell' = true)
    (hn : xs.length + us.length ≤ maxLen) (hb : (xs.length + us.length) * bytes ≤ 140737488355328) (hbase : base ≤ w.heap.size) :
    ∃ v' w', (Builtin.append_ #[t, t] ty #[v, .slice A us.length c]).run P w = .ok v' w' ∧ Que w' base e v' (xs ++ us) ∧ w.grownBy w' v.ownBlock ∧ (v'.ownBlock = v.ownBlock ∨ v'.ownBlock = some w.heap.size) := by
  subst hby
  have hmx : maxLen ≤ 9223372036854775807 := by unfold maxLen; omega
  have hsrc : Src P i.size t (.slice A us.length c) us.length us w := by
    rw [hsize]
    cases A with
    | none =>
      have hz : us = [] := by
        cases us with
        | nil => rfl
        | cons y r => obtain ⟨ad, e, _⟩ := hA 0 y rfl; cases e
      subst hz
      exact Src.ofNil w ht c
    | some ad =>
      refine Src.ofSlice w ht ad us.length c us (by simp) (fun j y hy => ?_) h1
      obtain ⟨ad', e, hc⟩ := hA j y hy
      cases e
      exact hc
  cases us with
  | nil =>
    rw [List.append_nil]
    refine ⟨v, w, ?_, h, ⟨rfl, rfl, rfl, Nat.le_refl _, fun _ _ _ => rfl⟩, .inl rfl⟩
    rcases h with ⟨rfl, rfl⟩ | ⟨g, off, cap, cs, rfl, hg, hblk, hc1, hc2, hc3⟩
    · have hc := hsrc.cells
      have hl := hsrc.len
      simp only [List.length_nil] at hc hl ⊢
      simp [Builtin.append_, run_underlying ht, sizeOf, typeInfo, hi, hl, hc]
    · have hr := run_append_room_src (P := P) w t t ty e i ht hi g off xs.length cap _ 0 [] hsrc (by omega) (fun j hj => by simp at hj) (fun j hj => by simp at hj)
      simpa [World.setCells] using hr
  | cons y0 r0 =>
    obtain ⟨us, hus⟩ : ∃ us, us = y0 :: r0 := ⟨_, rfl⟩
    obtain ⟨ad, hAe, _⟩ := hA 0 y0 rfl
    have hpos : 0 < us.length := by rw [hus]; simp
    rw [← hus] at hA h1 hn hb hsrc ⊢
    clear hus
    subst hAe
    have hnews : ∀ j y, us[j]? = some y → w.cell? (ad.add j) = some y := fun j y hj => by
      obtain ⟨ad', e, hc⟩ := hA j y hj
      cases e
      exact hc
    have hl : us.length = us.length * i.size := by rw [hsize]; simp
    rcases h with ⟨rfl, rfl⟩ | ⟨g, off, cap, cs, rfl, hg, hblk, hc1, hc2, hc3⟩
    · simp only [List.length_nil, Nat.zero_add] at hn hb
      have hr := run_append_nil (P := P) w t ty e i z ht hi hz ad us.length c us hl hnews hpos (by omega) (by omega)
      refine ⟨_, _, hr, .inr ⟨w.heap.size, 0, grownCap w us.length 0 e, (us.toArray ++ Builtin.zeroCells z.cells (grownCap w us.length 0 e - us.length)).toList, by simp, hbase, ?_, ?_, ?_, ?_⟩, ?_, .inr rfl⟩
      · exact Blk.new w.drew e _
      · have := grownCap_ge w us.length 0 e
        simpa using this
      · have := grownCap_ge w us.length 0 e
        simp [size_zeroCells, hzs]
        omega
      · intro k y hk
        have hl2 := (List.getElem?_eq_some_iff.1 hk).1
        simp only [Nat.zero_add, Array.toList_append]
        rw [List.getElem?_append_left (by simpa using hl2)]
        simpa using hk
      · exact ⟨rfl, rfl, rfl, by simp, fun k hk _ => heap_alloc_old w.drew _ hk⟩
    · by_cases hroom : xs.length + us.length ≤ cap
      · have hr := run_append_room_src (P := P) w t t ty e i ht hi g off xs.length cap _ us.length us hsrc hroom
          (fun j hj => by rw [hblk.cell, hsize, List.getElem?_eq_getElem (by omega)]; rfl) (fun j hj => hblk.frozen _)
        rw [hsize, Nat.mul_one] at hr
        have hbm := wh.Blk.setMid us w cs (off + xs.length) hblk (by omega)
        have hlen : (cs.take (off + xs.length)).length = off + xs.length := by rw [List.length_take]; omega
        refine ⟨_, _, hr, .inr ⟨g, off, cap, _, by simp, hg, hbm, by simpa using hroom, by simp; omega, ?_⟩, ?_, .inl rfl⟩
        · intro k y hk
          by_cases q : k < xs.length
          · rw [List.getElem?_append_left q] at hk
            rw [List.append_assoc, List.getElem?_append_left (by rw [hlen]; omega), List.getElem?_take_of_lt (by omega)]
            exact hc3 k y hk
          · rw [List.getElem?_append_right (by omega)] at hk
            have hlt := (List.getElem?_eq_some_iff.1 hk).1
            rw [List.append_assoc, List.getElem?_append_right (by rw [hlen]; omega), hlen, List.getElem?_append_left (by omega), show off + k - (off + xs.length) = k - xs.length from by omega]
            exact hk
        · have hk := wh.keeps_setCells g us w (off + xs.length)
          exact ⟨hk.same.os, hk.same.tape, hk.same.output, hk.size, fun k hk1 hk2 => hk.block k hk1 (fun e => hk2 (by simp [Value.ownBlock, e]))⟩
      · have holds : ∀ j y, xs[j]? = some y → w.cell? ((⟨g, off, none⟩ : Addr).add j) = some y := fun j y hj => by
          rw [Addr.add_lit, hblk.cell]; exact hc3 j y hj
        have hr := run_append_grow (P := P) w t ty e i z ht hi hz ⟨g, off, none⟩ xs.length cap xs (by rw [hsize]; omega) holds ad us.length c us hl hnews (by omega) (by omega) (growslice_fits (by omega) hb)
        refine ⟨_, _, hr, .inr ⟨w.heap.size, 0, grownCap w (xs.length + us.length) cap e, (xs.toArray ++ us.toArray ++ Builtin.zeroCells z.cells (grownCap w (xs.length + us.length) cap e - (xs.length + us.length))).toList, by simp, hbase, ?_, ?_, ?_, ?_⟩, ?_, .inr rfl⟩
        · exact Blk.new w.drew e _
        · have := grownCap_ge w (xs.length + us.length) cap e
          simpa using this
        · have := grownCap_ge w (xs.length + us.length) cap e
          simp [size_zeroCells, hzs]
          omega
        · intro k y hk
          have hl2 := (List.getElem?_eq_some_iff.1 hk).1
          simp only [Nat.zero_add, Array.toList_append]
          rw [List.getElem?_append_left (by simpa using hl2)]
          simpa using hk
        · exact ⟨rfl, rfl, rfl, by simp, fun k hk _ => heap_alloc_old w.drew _ hk⟩
end
end Go.Proofs.YtgcdhfpbmcfedaaGreatDoor.oc
end
section
set_option linter.unusedVariables false
set_option linter.unusedSimpArgs false
namespace Go.Proofs.YtgcdhfpbmcfedaaGreatDoor.pf
open Go.RowKit Go.Shelf Go.Proofs.YtgcdhfpbmcfedaaGreatDoor.oc Go.Proofs.YtgcdhfpbmcfedaaGreatDoor.mz Go.Proofs.YtgcdhfpbmcfedaaGreatDoor.wh Go.Proofs.YtgcdhfpbmcfedaaGreatDoor.qk
theorem of8 {x : Nat} (h : x < 256) : (58 == UInt8.ofNat x) = decide (x = 58) := by
  have : ∀ y : Fin 256, ((58 : UInt8) == UInt8.ofNat y.val) = decide (y.val = 58) := by decide +kernel
  exact this ⟨x, h⟩
theorem index_gap : ∀ l : List Nat, (∀ x ∈ l, x < 256) → Lib.index (l.map (fun x => UInt8.ofNat x)) [58, 58] = match gapL l with | some j => (j : Int) | none => -1
  | [], _ => rfl
  | [x], h => by
    simp [Lib.index, gapL, List.isPrefixOf]
  | x :: y :: r, h => by
    have ih := index_gap (y :: r) (fun z hz => h z (List.mem_cons_of_mem _ hz))
    rw [List.map_cons, Lib.index, ih]
    have hp : List.isPrefixOf [58, 58] (UInt8.ofNat x :: (y :: r).map (fun x => UInt8.ofNat x)) = decide (x = 58 ∧ y = 58) := by
      simp [List.isPrefixOf, of8 (h x (by simp)), of8 (h y (by simp))]
    rw [hp]
    have hg : gapL (x :: y :: r) = if x = 58 ∧ y = 58 then some 0 else (gapL (y :: r)).map (· + 1) := by rw [gapL]
    rw [hg]
    generalize gapL (y :: r) = G
    by_cases c : x = 58 ∧ y = 58
    · simp [c]
    · rw [if_neg (by simpa using c), if_neg c]
      cases G with
      | none => rfl
      | some j =>
        have : ¬ ((j : Int) == -1) = true := by simp
        simp only [Option.map_some, if_neg this]
        simp
theorem str_list8 (l : List Nat) : (str l).data.toList = l.map (fun x => UInt8.ofNat x) := by simp [str]
theorem cut_gap (l : List Nat) (h : ∀ x ∈ l, x < 256) : Lib.cut (str l).data.toList [58, 58] = ((headL l).map (fun x => UInt8.ofNat x), (tailL l).map (fun x => UInt8.ofNat x), (gapL l).isSome) := by
  unfold Lib.cut
  rw [str_list8, index_gap l h]
  unfold headL tailL
  cases gapL l with
  | none => rfl
  | some j => simp [List.map_take, List.map_drop]
section
variable (w : World)
theorem cut2_ (l : List Nat) (h : ∀ x ∈ l, x < 256) (hn : l.length ≤ 1000000) (henv : Env w) : Calls Tryz.prog 56 #[.string (str l), .string ⟨#[58, 58]⟩] w fun e w' => e = .returned (.tuple #[.string (str (headL l)), .string (str (tailL l)), .bool (gapL l).isSome]) ∧ ∀ S, Keeps S w w' := by
  obtain ⟨m, hm⟩ := henv.mx
  refine (Tryz.strings_Cut (str l) ⟨#[58, 58]⟩ m w (by rw [str_size]; omega) hm).mono ?_
  rintro e w' ⟨rfl, n, rfl⟩
  rw [show (⟨#[58, 58]⟩ : ByteArray).data.toList = [58, 58] from rfl, cut_gap l h]
  exact ⟨rfl, fun S => (Keeps.refl S w).trans (Keeps.of_drew _ _)⟩
end
end Go.Proofs.YtgcdhfpbmcfedaaGreatDoor.pf
end
section
namespace Go.Proofs.YtgcdhfpbmcfedaaGreatDoor.oc
open Go.RowKit

theorem byte_info : (Tryz.prog.info? 5).map (fun i => (i.zero, i.size, i.bytes)) = some (some (.int .u8 0), 1, 1) := by kernel_rfl
theorem byte_size : (Tryz.prog.info? 5).map (·.size) = some 1 := by kernel_rfl
set_option maxHeartbeats 400000 in
theorem put16_any (A : Option Addr) (bs : List Nat) (n c B v : Nat) (w : World) (hn : bs.length = n) (hm : n + 2 ≤ 140737488355328) (hv : v < 65536) (hr : Rd w B A (by_ bs)) (hB : B ≤ w.heap.size) :
    Calls Tryz.prog 88 #[.slice A n c, .int .u16 v] w fun e w' =>
      e = .returned (.slice (some ⟨w.heap.size, 0, none⟩) (n + 2) (n + 2)) ∧ Blk w' w.heap.size 5 (by_ (bs ++ be 2 v)) ∧ Below w.heap.size w w' := by
  obtain ⟨i0, hi0, hz0, hz1, hz2⟩ := info_parts byte_info
  have HN := Lib.hid hn
  clear hn
  have hmk : ∀ u : World, (Instr.makeSlice 68 (.int .i64 ((n : Int) + 2)) (.int .i64 ((n : Int) + 2))).run Tryz.prog u =
      .ok (.slice (some ⟨u.heap.size, 0, none⟩) (n + 2) (n + 2)) (u.alloc (.cells (madeCells #[.int .u8 0] (n + 2)) 5)) := fun u => by
    have h := run_make (P := Tryz.prog) u 68 5 i0 (.int .u8 0) Tryz.underlying68 hi0 hz0 .i64 .i64 ((n : Int) + 2) ((n : Int) + 2) (by omega) (Int.le_refl _) (by rw [hz2]; omega) (by omega)
    have e : ((n : Int) + 2).toNat = n + 2 := by omega
    rw [e] at h
    simpa [hz1, Value.cells] using h
  obtain ⟨o1, ho1⟩ : ∃ o : Obj, o = .cells (madeCells #[.int .u8 0] (n + 2)) 5 := ⟨_, rfl⟩
  have hblk : Blk (w.alloc o1) w.heap.size 5 (List.replicate (n + 2) (.int .u8 0)) := by
    have h := Blk.new w 5 (madeCells #[.int .u8 0] (n + 2))
    rw [toList_madeCells_one] at h
    rw [ho1]
    exact h
  rw [← ho1] at hmk
  have HO := Lib.hid ho1
  clear ho1
  have hr1 : Rd (w.alloc o1) B A (by_ bs) := hr.alloc hB _
  have hb1 : Below w.heap.size w (w.alloc o1) := (Below.refl _ _).alloc (Nat.le_refl _) _
  have hc1 : (by_ bs).length = Nat.min n (n + 2) := by rw [by_length, HN.out]; exact (Nat.min_eq_left (by omega)).symm
  have hc2 : 0 < (by_ bs).length → ∃ ad, A = some ad ∧ ∀ j v, (by_ bs)[j]? = some v → (w.alloc o1).cell? (ad.add j) = some v := fun hpos => hr1.src hpos
  have hc3 : 0 + (by_ bs).length ≤ (List.replicate (n + 2) (Value.int .u8 0)).length := by rw [by_length, HN.out, List.length_replicate]; omega
  have HC1 := Lib.hid hc1
  have HC2 := Lib.hid hc2
  have HC3 := Lib.hid hc3
  clear hc1 hc2 hc3
  go_enter Tryz.func88, Tryz.ntmps88
  go_wp2_with (first
    | (go_at_call 83; refine (size16 _).mono ?_; rintro e w' ⟨rfl, rfl⟩)
    | ((with_reducible show wpList _ _ _ (⟨some 15, _, _, _, _, _⟩ :: _) _ _); refine wpList_copy_splice rfl (.tmp 13) (.tmp 14) 68 68 rfl 5 Tryz.underlying68 byte_size (some ⟨w.heap.size, 0, none⟩) A (n + 2) (n + 2) n c rfl rfl w.heap.size 0 (List.replicate (n + 2) (.int .u8 0)) 5 hblk (by_ bs) HC1.out (fun hp => ⟨rfl, HC2.out hp⟩) HC3.out (by_one bs) w.heap.size w hb1 (Nat.le_refl _) ?_; intro w2 hg2 hb2))
  have hg3 : Blk w2 w.heap.size 5 (by_ bs ++ List.replicate 2 (Value.int .u8 0) ++ by_ (be 0 v)) := put_start hg2.out HN.out
  clear hg2 hblk hmk hr1 hb1 HC1 HC2 HC3 HO hi0 hz0 hz1 hz2 hr
  go_loopw [6, 7] (fun r i wr => ∃ j : Nat, j ≤ 2 ∧ r = .int .u64 ((v / 256 ^ (2 - j) : Nat) : Int) ∧ i = .int .i64 (((n + j : Nat) : Int) - 1) ∧
      Blk wr w.heap.size 5 (by_ bs ++ List.replicate j (Value.int .u8 0) ++ by_ (be (2 - j) v)) ∧ Below w.heap.size w wr) (fun _ i _ => (intOf i - n + 1).toNat)
  case atStart => exact ⟨2, Nat.le_refl _, by simp, by simp, hg3, hb2⟩
  case round =>
    obtain ⟨j, hj, rfl, hi, hbl, hbw⟩ := hrel
    rcases j with _ | j
    · subst hi
      have HB := Lib.hid hbl
      clear hbl
      go_wp2
      go_ret
      exact ⟨rfl, by have := HB.out; simpa [by_append] using this, hbw⟩
    · obtain ⟨p, hp⟩ : ∃ p, p = n + j := ⟨_, rfl⟩
      rw [show (((n + (j + 1) : Nat) : Int) - 1) = (p : Int) from by omega] at hi
      subst hi
      have p0 : n ≤ p := by omega
      have p1 : p < n + 2 := by omega
      obtain ⟨q, hq⟩ : ∃ q, q = v / 256 ^ (2 - (j + 1)) := ⟨_, rfl⟩
      have q1 : q < 18446744073709551616 := by
        have := Nat.div_le_self v (256 ^ (2 - (j + 1)))
        omega
      have hat := put_at bs n j (2 - (j + 1)) v HN.out
      have hst := put_step bs n j (2 - (j + 1)) v HN.out
      rw [← hq, ← hp, show 2 - (j + 1) + 1 = 2 - j from by omega] at hst
      rw [← hp] at hat
      have hc := hbl.cell p
      rw [hat] at hc
      have hf := hbl.frozen p
      have hd := div_step v (2 - (j + 1))
      rw [← hq, show 2 - (j + 1) + 1 = 2 - j from by omega] at hd
      rw [← hq]
      have HB := Lib.hid hbl
      have HS := Lib.hid hst
      have HP := Lib.hid hp
      have HD := Lib.hid hd
      clear hbl hst hp hq hat hd
      go_wp2
      go_roundw
      case rel => exact ⟨j, by omega, by rw [← HD.out]; go_num, by rw [← HP.out], by have := HB.out.put p (.int .u8 ((q % 256 : Nat) : Int)); rw [HS.out] at this; exact this, hbw.setCell (Nat.le_refl _) _⟩
      case measure => simp [intOf]; omega



end Go.Proofs.YtgcdhfpbmcfedaaGreatDoor.oc
end
section
set_option linter.unusedVariables false
set_option linter.unusedSimpArgs false
namespace Go.Proofs.YtgcdhfpbmcfedaaGreatDoor.pf
open Go.RowKit Go.Shelf Go.Proofs.YtgcdhfpbmcfedaaGreatDoor.oc Go.Proofs.YtgcdhfpbmcfedaaGreatDoor.mz Go.Proofs.YtgcdhfpbmcfedaaGreatDoor.wh Go.Proofs.YtgcdhfpbmcfedaaGreatDoor.qk
theorem head_mem {l : List Nat} {x : Nat} (h : x ∈ headL l) : x ∈ l := by
  unfold headL at h
  cases hg : gapL l with
  | none => rw [hg] at h; exact h
  | some j => rw [hg] at h; exact List.mem_of_mem_take h
theorem tail_mem {l : List Nat} {x : Nat} (h : x ∈ tailL l) : x ∈ l := by
  unfold tailL at h
  cases hg : gapL l with
  | none => rw [hg] at h; simp at h
  | some j => rw [hg] at h; exact List.mem_of_mem_drop h
theorem head_le (l : List Nat) : (headL l).length ≤ l.length := by
  unfold headL
  cases gapL l with
  | none => exact Nat.le_refl _
  | some j => simp only [List.length_take]; omega
theorem tail_le (l : List Nat) : (tailL l).length ≤ l.length := by
  unfold tailL
  cases gapL l with
  | none => simp
  | some j => simp only [List.length_drop]; omega
theorem nump_len {b c : Nat} {l ns : List Nat} (h : nump b c l = some ns) : ns.length ≤ l.length + 1 := by
  unfold nump at h
  by_cases e : l = []
  · rw [if_pos e] at h
    simp only [Option.some.injEq] at h
    subst h
    simp
  · rw [if_neg e] at h
    rw [allp_len b _ ns h]
    have := spl_len c l
    omega
/-- the blocks that the front's list may lie in, from u to v, or from z on -/
def Fr (u v z : Nat) (b : Nat) : Prop := (u ≤ b ∧ b < v) ∨ z ≤ b
/-- zeros laid behind the front's numbers -/
structure ZB (u v z : Nat) (w0 w : World) (ns : List Nat) (x : Value) : Prop where
  q : Que w u 96 x (q64 ns)
  own : ∀ b, x.ownBlock = some b → Fr u v z b
  kp : Keeps (Fr u v z) w0 w
theorem ZB.next {u v z : Nat} {w0 w w9 : World} {ns us : List Nat} {x x2 : Value} (hz : z ≤ w.heap.size) (h : ZB u v z w0 w ns x) (hq : Que w9 u 96 x2 (q64 ns ++ q64 us)) (hg : w.grownBy w9 x.ownBlock) (hb : x2.ownBlock = x.ownBlock ∨ x2.ownBlock = some w.heap.size) : ZB u v z w0 w9 (ns ++ us) x2 := by
  refine ⟨by rw [show q64 (ns ++ us) = q64 ns ++ q64 us from by simp [q64]]; exact hq, fun b e => ?_, h.kp.trans ((Keeps.of_grown hg).mono (fun b _ e => h.own b e))⟩
  rcases hb with c | c
  · exact h.own b (by rw [← c]; exact e)
  · rw [c] at e
    simp only [Option.some.injEq] at e
    exact .inr (by omega)
theorem ZB.alloc {u v z : Nat} {w0 w : World} {ns : List Nat} {x : Value} (h : ZB u v z w0 w ns x) (o : Obj) : ZB u v z w0 (w.alloc o) ns x := ⟨h.q.alloc o, h.own, h.kp.alloc o⟩
/-- what the bytes lie in -/
def BB (w : World) (k : Nat) (M : List Nat) (x : Value) : Prop := (k = 0 ∧ x = .slice none 0 0) ∨ ∃ g, x = .slice (some ⟨g, 0, none⟩) (2 * k) (2 * k) ∧ Blk w g 5 (by_ (by2 (M.take k)))
theorem BB.arg {w : World} {k : Nat} {M : List Nat} {x : Value} (h : BB w k M x) : ∃ A, x = .slice A (2 * k) (2 * k) ∧ Rd w w.heap.size A (by_ (by2 (M.take k))) := by
  rcases h with ⟨rfl, rfl⟩ | ⟨g, rfl, hb⟩
  · exact ⟨none, rfl, fun k v hk => by simp [by2, by_] at hk⟩
  · refine ⟨_, rfl, fun k v hk => ⟨g, 0, rfl, hb.lt, ?_⟩⟩
    rw [hb.cell, Nat.zero_add]
    exact hk
theorem by2_snoc : ∀ (l : List Nat) (x : Nat), by2 (l ++ [x]) = by2 l ++ [x / 256, x % 256]
  | [], x => rfl
  | n :: r, x => by rw [List.cons_append, by2, by2_snoc r x]; rfl
theorem be_two (x : Nat) (h : x < 65536) : be 2 x = [x / 256, x % 256] := by
  simp [be]; omega
theorem BB.next {w w' : World} {k x : Nat} {M : List Nat} (hx : M[k]? = some x) (hx6 : x < 65536) (hb : Blk w' w.heap.size 5 (by_ (by2 (M.take k) ++ be 2 x))) : BB w' (k + 1) M (.slice (some ⟨w.heap.size, 0, none⟩) (2 * k + 2) (2 * k + 2)) := by
  refine .inr ⟨w.heap.size, rfl, ?_⟩
  rw [take_snoc hx, by2_snoc, ← be_two x hx6]
  exact hb
theorem mid_lt {l xs ys : List Nat} (h1 : nump 16 58 (headL l) = some xs) (h2 : nump 16 58 (tailL l) = some ys) : ∀ x ∈ mid xs ys, x < 65536 := fun x hx => by
  rcases List.mem_append.1 hx with q | q
  · rcases List.mem_append.1 q with q | q
    · have := nump_le h1 x q; simp at this; omega
    · have := (List.mem_replicate.1 q).2; omega
  · have := nump_le h2 x q; simp at this; omega
theorem lsix_none1 {l : List Nat} (h : nump 16 58 (headL l) = none) : lsix l = none := by unfold lsix; rw [h]
theorem lsix_none2 {l : List Nat} (h : nump 16 58 (tailL l) = none) : lsix l = none := by
  unfold lsix
  rw [h]
  cases nump 16 58 (headL l) <;> rfl
theorem lsix_none3 {l xs ys : List Nat} (h1 : nump 16 58 (headL l) = some xs) (h2 : nump 16 58 (tailL l) = some ys) (hc : 8 < xs.length + ys.length ∨ (xs.length + ys.length < 8 ∧ gapL l = none)) : lsix l = none := by
  unfold lsix
  rw [h1, h2]
  simp only
  rw [if_pos hc]
section
variable (w : World)

set_option maxRecDepth 100000 in
set_option maxHeartbeats 4000000 in
theorem loosesix_n1n2 (l : List Nat) (hl : ∀ x ∈ l, x < 256) (hn : l.length ≤ 1000000) (henv : Env w) (h1 : nump 16 58 (headL l) = none) (h2 : nump 16 58 (tailL l) = none) :
    Calls Tryz.prog 72 #[.string (str l)] w fun e w' => LsAns (lsix l) e ∧ ∀ S, Keeps S w w' := by
  obtain ⟨w1, hw1, B1, K1⟩ := new_zero w
  have HC := Lib.hid (cut2_ w1 l hl hn (henv.keeps K1))
  have HN1 := fun w (h : Env w) => Lib.hid (numsp_ w 16 58 16 (.inl ⟨rfl, rfl⟩) (by omega) (headL l) (fun x hx => hl x (head_mem hx)) (by have := head_le l; omega) h)
  have HN2 := fun w (h : Env w) => Lib.hid (numsp_ w 16 58 16 (.inl ⟨rfl, rfl⟩) (by omega) (tailL l) (fun x hx => hl x (tail_mem hx)) (by have := tail_le l; omega) h)
  rw [lsix_none1 h1]
  rw [h1] at HN1
  rw [h2] at HN2
  clear h1 h2
  have HE := Lib.hid henv
  have HW := Lib.hid hw1
  have KK1 : Hid (∀ S, Keeps S w w1) := Lib.hid K1
  have BR1 := Lib.hid B1
  have hs58 : (⟨#[58]⟩ : ByteArray) = str [58] := rfl
  generalize (gapL l).isSome = sh at *
  generalize str (headL l) = s1 at *
  generalize str (tailL l) = s2 at *
  generalize str l = s at *
  clear hw1 B1 K1 hl hn henv
  go_enter Tryz.func72, Tryz.ntmps72
  go_wp2_with fail
  rw [← HW.out]
  refine HC.out.mono ?_
  rintro e w2 ⟨rfl, k2⟩
  have K2 : Hid (∀ S, Keeps S w w2) := Lib.hid (fun S => (KK1.out S).trans (k2 S))
  have BR2 := Lib.hid (Blk.keeps BR1.out (k2 (fun _ => False)) (fun z => z))
  have HQ1 := Lib.hid (HN1 w2 (HE.out.keeps K2.out)).out
  clear k2 HC HN1
  go_wp2_with fail
  try rw [hs58]
  refine HQ1.out.mono ?_
  rintro e w3 ⟨k3, hans1⟩
  have hans1 : e = .returned (.tuple #[.slice none 0 0, .bool false]) := hans1
  subst hans1
  have K3 : Hid (∀ S, Keeps S w w3) := Lib.hid (fun S => (K2.out S).trans (k3 S))
  have HQ2 := Lib.hid (HN2 w3 (HE.out.keeps K3.out)).out
  have KA3 : Hid (∀ S, Keeps S w2 w3) := Lib.hid k3
  clear k3 HQ1 HN2
  go_wp2_with fail
  try rw [hs58]
  refine HQ2.out.mono ?_
  rintro e w4 ⟨k4, hans2⟩
  have hans2 : e = .returned (.tuple #[.slice none 0 0, .bool false]) := hans2
  subst hans2
  have K4 : Hid (∀ S, Keeps S w w4) := Lib.hid (fun S => (K3.out S).trans (k4 S))
  have KA4 : Hid (∀ S, Keeps S w3 w4) := Lib.hid k4
  have BR4 := Lib.hid (Blk.keeps (Blk.keeps BR2.out (KA3.out (fun _ => False)) (fun z => z)) (k4 (fun _ => False)) (fun z => z))
  clear k4 HQ2
  have hz := over_ad zeroA_wf BR4.out rfl
  rw [zeroA_cells] at hz
  have HZ := Lib.hid hz
  have KZ : Hid (∀ S, Keeps S w (w4.setCells w.heap.size 0 [.bool false, .int .u8 0, .int .u8 0, .int .u8 0, .int .u8 0, .int .u8 0, .int .u8 0, .int .u8 0, .int .u8 0, .int .u8 0, .int .u8 0, .int .u8 0, .int .u8 0, .int .u8 0, .int .u8 0, .int .u8 0, .int .u8 0])) := Lib.hid (fun S => by
    have kk := K4.out S
    have k9 := hz.2.2.2.2
    exact ⟨Nat.le_trans kk.size k9.size, fun x hx hs => by rw [k9.block x (Nat.lt_of_lt_of_le hx kk.size) (by omega), kk.block x hx hs], kk.same.trans k9.same⟩)
  clear hz
  go_wp2_with (refine wpList_store_mid rfl 24 _ _ rfl w.heap.size 0 #[.bool false, .int .u8 0, .int .u8 0, .int .u8 0, .int .u8 0, .int .u8 0, .int .u8 0, .int .u8 0, .int .u8 0, .int .u8 0, .int .u8 0, .int .u8 0, .int .u8 0, .int .u8 0, .int .u8 0, .int .u8 0, .int .u8 0] rfl rfl HZ.out.1 HZ.out.2.1 HZ.out.2.2.1 ?_)
  try rw [Exit.noGoto_ret]
  refine bodyPost_ret (wh.ret_cell (p := 2) (u := 3) (ty := 24) (by kernel_rfl) _ _ _ w.heap.size _ _ _ (by rfl) HZ.out.2.2.2.1 Tryz.underlying24 rfl addr_info) rfl ?_
  exact ⟨rfl, KZ.out⟩

set_option maxRecDepth 100000 in
set_option maxHeartbeats 4000000 in
theorem loosesix_n1 (l : List Nat) (hl : ∀ x ∈ l, x < 256) (hn : l.length ≤ 1000000) (henv : Env w) (ys : List Nat) (h1 : nump 16 58 (headL l) = none) (h2 : nump 16 58 (tailL l) = some ys) :
    Calls Tryz.prog 72 #[.string (str l)] w fun e w' => LsAns (lsix l) e ∧ ∀ S, Keeps S w w' := by
  obtain ⟨w1, hw1, B1, K1⟩ := new_zero w
  have HC := Lib.hid (cut2_ w1 l hl hn (henv.keeps K1))
  have HN1 := fun w (h : Env w) => Lib.hid (numsp_ w 16 58 16 (.inl ⟨rfl, rfl⟩) (by omega) (headL l) (fun x hx => hl x (head_mem hx)) (by have := head_le l; omega) h)
  have HN2 := fun w (h : Env w) => Lib.hid (numsp_ w 16 58 16 (.inl ⟨rfl, rfl⟩) (by omega) (tailL l) (fun x hx => hl x (tail_mem hx)) (by have := tail_le l; omega) h)
  have z2 : (ys.length : Int) ≤ 1000001 := by have := nump_len h2; have := tail_le l; omega
  have p2 : (0 : Int) ≤ (ys.length : Int) := by omega
  rw [lsix_none1 h1]
  rw [h1] at HN1
  rw [h2] at HN2
  clear h1 h2
  have HE := Lib.hid henv
  have HW := Lib.hid hw1
  have KK1 : Hid (∀ S, Keeps S w w1) := Lib.hid K1
  have BR1 := Lib.hid B1
  have hs58 : (⟨#[58]⟩ : ByteArray) = str [58] := rfl
  generalize (gapL l).isSome = sh at *
  generalize str (headL l) = s1 at *
  generalize str (tailL l) = s2 at *
  generalize str l = s at *
  clear hw1 B1 K1 hl hn henv
  go_enter Tryz.func72, Tryz.ntmps72
  go_wp2_with fail
  rw [← HW.out]
  refine HC.out.mono ?_
  rintro e w2 ⟨rfl, k2⟩
  have K2 : Hid (∀ S, Keeps S w w2) := Lib.hid (fun S => (KK1.out S).trans (k2 S))
  have BR2 := Lib.hid (Blk.keeps BR1.out (k2 (fun _ => False)) (fun z => z))
  have HQ1 := Lib.hid (HN1 w2 (HE.out.keeps K2.out)).out
  clear k2 HC HN1
  go_wp2_with fail
  try rw [hs58]
  refine HQ1.out.mono ?_
  rintro e w3 ⟨k3, hans1⟩
  have hans1 : e = .returned (.tuple #[.slice none 0 0, .bool false]) := hans1
  subst hans1
  have K3 : Hid (∀ S, Keeps S w w3) := Lib.hid (fun S => (K2.out S).trans (k3 S))
  have HQ2 := Lib.hid (HN2 w3 (HE.out.keeps K3.out)).out
  have KA3 : Hid (∀ S, Keeps S w2 w3) := Lib.hid k3
  clear k3 HQ1 HN2
  go_wp2_with fail
  try rw [hs58]
  refine HQ2.out.mono ?_
  rintro e w4 ⟨k4, hans2⟩
  obtain ⟨A2, c2, he, hq2⟩ := hans2
  subst he
  have HL2 := Lib.hid hq2
  clear hq2
  have K4 : Hid (∀ S, Keeps S w w4) := Lib.hid (fun S => (K3.out S).trans (k4 S))
  have KA4 : Hid (∀ S, Keeps S w3 w4) := Lib.hid k4
  have BR4 := Lib.hid (Blk.keeps (Blk.keeps BR2.out (KA3.out (fun _ => False)) (fun z => z)) (k4 (fun _ => False)) (fun z => z))
  clear k4 HQ2
  generalize ys.length = m2 at *
  have v2 : wrap64 (8 - (m2 : Int)) = 8 - (m2 : Int) := by unfold wrap64; omega
  have hz := over_ad zeroA_wf BR4.out rfl
  rw [zeroA_cells] at hz
  have HZ := Lib.hid hz
  have KZ : Hid (∀ S, Keeps S w (w4.setCells w.heap.size 0 [.bool false, .int .u8 0, .int .u8 0, .int .u8 0, .int .u8 0, .int .u8 0, .int .u8 0, .int .u8 0, .int .u8 0, .int .u8 0, .int .u8 0, .int .u8 0, .int .u8 0, .int .u8 0, .int .u8 0, .int .u8 0, .int .u8 0])) := Lib.hid (fun S => by
    have kk := K4.out S
    have k9 := hz.2.2.2.2
    exact ⟨Nat.le_trans kk.size k9.size, fun x hx hs => by rw [k9.block x (Nat.lt_of_lt_of_le hx kk.size) (by omega), kk.block x hx hs], kk.same.trans k9.same⟩)
  clear hz
  go_wp2_with (refine wpList_store_mid rfl 24 _ _ rfl w.heap.size 0 #[.bool false, .int .u8 0, .int .u8 0, .int .u8 0, .int .u8 0, .int .u8 0, .int .u8 0, .int .u8 0, .int .u8 0, .int .u8 0, .int .u8 0, .int .u8 0, .int .u8 0, .int .u8 0, .int .u8 0, .int .u8 0, .int .u8 0] rfl rfl HZ.out.1 HZ.out.2.1 HZ.out.2.2.1 ?_)
  try rw [Exit.noGoto_ret]
  refine bodyPost_ret (wh.ret_cell (p := 2) (u := 3) (ty := 24) (by kernel_rfl) _ _ _ w.heap.size _ _ _ (by rfl) HZ.out.2.2.2.1 Tryz.underlying24 rfl addr_info) rfl ?_
  exact ⟨rfl, KZ.out⟩

set_option maxRecDepth 100000 in
set_option maxHeartbeats 4000000 in
theorem loosesix_n2 (l : List Nat) (hl : ∀ x ∈ l, x < 256) (hn : l.length ≤ 1000000) (henv : Env w) (xs : List Nat) (h1 : nump 16 58 (headL l) = some xs) (h2 : nump 16 58 (tailL l) = none) :
    Calls Tryz.prog 72 #[.string (str l)] w fun e w' => LsAns (lsix l) e ∧ ∀ S, Keeps S w w' := by
  obtain ⟨w1, hw1, B1, K1⟩ := new_zero w
  have HC := Lib.hid (cut2_ w1 l hl hn (henv.keeps K1))
  have HN1 := fun w (h : Env w) => Lib.hid (numsp_ w 16 58 16 (.inl ⟨rfl, rfl⟩) (by omega) (headL l) (fun x hx => hl x (head_mem hx)) (by have := head_le l; omega) h)
  have HN2 := fun w (h : Env w) => Lib.hid (numsp_ w 16 58 16 (.inl ⟨rfl, rfl⟩) (by omega) (tailL l) (fun x hx => hl x (tail_mem hx)) (by have := tail_le l; omega) h)
  have z1 : (xs.length : Int) ≤ 1000001 := by have := nump_len h1; have := head_le l; omega
  have p1 : (0 : Int) ≤ (xs.length : Int) := by omega
  rw [lsix_none2 h2]
  rw [h1] at HN1
  rw [h2] at HN2
  clear h1 h2
  have HE := Lib.hid henv
  have HW := Lib.hid hw1
  have KK1 : Hid (∀ S, Keeps S w w1) := Lib.hid K1
  have BR1 := Lib.hid B1
  have hs58 : (⟨#[58]⟩ : ByteArray) = str [58] := rfl
  generalize (gapL l).isSome = sh at *
  generalize str (headL l) = s1 at *
  generalize str (tailL l) = s2 at *
  generalize str l = s at *
  clear hw1 B1 K1 hl hn henv
  go_enter Tryz.func72, Tryz.ntmps72
  go_wp2_with fail
  rw [← HW.out]
  refine HC.out.mono ?_
  rintro e w2 ⟨rfl, k2⟩
  have K2 : Hid (∀ S, Keeps S w w2) := Lib.hid (fun S => (KK1.out S).trans (k2 S))
  have BR2 := Lib.hid (Blk.keeps BR1.out (k2 (fun _ => False)) (fun z => z))
  have HQ1 := Lib.hid (HN1 w2 (HE.out.keeps K2.out)).out
  clear k2 HC HN1
  go_wp2_with fail
  try rw [hs58]
  refine HQ1.out.mono ?_
  rintro e w3 ⟨k3, hans1⟩
  obtain ⟨A1, c1, he, hq1⟩ := hans1
  subst he
  have HL1 := Lib.hid hq1
  clear hq1
  have K3 : Hid (∀ S, Keeps S w w3) := Lib.hid (fun S => (K2.out S).trans (k3 S))
  have HQ2 := Lib.hid (HN2 w3 (HE.out.keeps K3.out)).out
  have KA3 : Hid (∀ S, Keeps S w2 w3) := Lib.hid k3
  clear k3 HQ1 HN2
  go_wp2_with fail
  try rw [hs58]
  refine HQ2.out.mono ?_
  rintro e w4 ⟨k4, hans2⟩
  have hans2 : e = .returned (.tuple #[.slice none 0 0, .bool false]) := hans2
  subst hans2
  have K4 : Hid (∀ S, Keeps S w w4) := Lib.hid (fun S => (K3.out S).trans (k4 S))
  have KA4 : Hid (∀ S, Keeps S w3 w4) := Lib.hid k4
  have BR4 := Lib.hid (Blk.keeps (Blk.keeps BR2.out (KA3.out (fun _ => False)) (fun z => z)) (k4 (fun _ => False)) (fun z => z))
  clear k4 HQ2
  generalize xs.length = m1 at *
  have v1 : wrap64 (8 - (m1 : Int)) = 8 - (m1 : Int) := by unfold wrap64; omega
  have hz := over_ad zeroA_wf BR4.out rfl
  rw [zeroA_cells] at hz
  have HZ := Lib.hid hz
  have KZ : Hid (∀ S, Keeps S w (w4.setCells w.heap.size 0 [.bool false, .int .u8 0, .int .u8 0, .int .u8 0, .int .u8 0, .int .u8 0, .int .u8 0, .int .u8 0, .int .u8 0, .int .u8 0, .int .u8 0, .int .u8 0, .int .u8 0, .int .u8 0, .int .u8 0, .int .u8 0, .int .u8 0])) := Lib.hid (fun S => by
    have kk := K4.out S
    have k9 := hz.2.2.2.2
    exact ⟨Nat.le_trans kk.size k9.size, fun x hx hs => by rw [k9.block x (Nat.lt_of_lt_of_le hx kk.size) (by omega), kk.block x hx hs], kk.same.trans k9.same⟩)
  clear hz
  go_wp2_with (refine wpList_store_mid rfl 24 _ _ rfl w.heap.size 0 #[.bool false, .int .u8 0, .int .u8 0, .int .u8 0, .int .u8 0, .int .u8 0, .int .u8 0, .int .u8 0, .int .u8 0, .int .u8 0, .int .u8 0, .int .u8 0, .int .u8 0, .int .u8 0, .int .u8 0, .int .u8 0, .int .u8 0] rfl rfl HZ.out.1 HZ.out.2.1 HZ.out.2.2.1 ?_)
  try rw [Exit.noGoto_ret]
  refine bodyPost_ret (wh.ret_cell (p := 2) (u := 3) (ty := 24) (by kernel_rfl) _ _ _ w.heap.size _ _ _ (by rfl) HZ.out.2.2.2.1 Tryz.underlying24 rfl addr_info) rfl ?_
  exact ⟨rfl, KZ.out⟩

set_option maxRecDepth 100000 in
set_option maxHeartbeats 4000000 in
theorem loosesix_many (l : List Nat) (hl : ∀ x ∈ l, x < 256) (hn : l.length ≤ 1000000) (henv : Env w) (xs ys : List Nat) (h1 : nump 16 58 (headL l) = some xs) (h2 : nump 16 58 (tailL l) = some ys) (hc : 8 < xs.length + ys.length) :
    Calls Tryz.prog 72 #[.string (str l)] w fun e w' => LsAns (lsix l) e ∧ ∀ S, Keeps S w w' := by
  obtain ⟨w1, hw1, B1, K1⟩ := new_zero w
  have HC := Lib.hid (cut2_ w1 l hl hn (henv.keeps K1))
  have HN1 := fun w (h : Env w) => Lib.hid (numsp_ w 16 58 16 (.inl ⟨rfl, rfl⟩) (by omega) (headL l) (fun x hx => hl x (head_mem hx)) (by have := head_le l; omega) h)
  have HN2 := fun w (h : Env w) => Lib.hid (numsp_ w 16 58 16 (.inl ⟨rfl, rfl⟩) (by omega) (tailL l) (fun x hx => hl x (tail_mem hx)) (by have := tail_le l; omega) h)
  have z1 : (xs.length : Int) ≤ 1000001 := by have := nump_len h1; have := head_le l; omega
  have p1 : (0 : Int) ≤ (xs.length : Int) := by omega
  have z2 : (ys.length : Int) ≤ 1000001 := by have := nump_len h2; have := tail_le l; omega
  have p2 : (0 : Int) ≤ (ys.length : Int) := by omega
  rw [lsix_none3 h1 h2 (.inl hc)]
  rw [h1] at HN1
  rw [h2] at HN2
  obtain ⟨m1, hm1⟩ : ∃ m, m = xs.length := ⟨_, rfl⟩
  obtain ⟨m2, hm2⟩ : ∃ m, m = ys.length := ⟨_, rfl⟩
  have HM := Lib.hid (And.intro hm1 hm2)
  rw [← hm1] at z1 p1
  rw [← hm2] at z2 p2
  have hneg : 8 - (m1 : Int) - (m2 : Int) < 0 := by omega
  clear h1 h2 hm1 hm2 hc
  have HE := Lib.hid henv
  have HW := Lib.hid hw1
  have KK1 : Hid (∀ S, Keeps S w w1) := Lib.hid K1
  have BR1 := Lib.hid B1
  have hs58 : (⟨#[58]⟩ : ByteArray) = str [58] := rfl
  generalize (gapL l).isSome = sh at *
  generalize str (headL l) = s1 at *
  generalize str (tailL l) = s2 at *
  generalize str l = s at *
  clear hw1 B1 K1 hl hn henv
  go_enter Tryz.func72, Tryz.ntmps72
  go_wp2_with fail
  rw [← HW.out]
  refine HC.out.mono ?_
  rintro e w2 ⟨rfl, k2⟩
  have K2 : Hid (∀ S, Keeps S w w2) := Lib.hid (fun S => (KK1.out S).trans (k2 S))
  have BR2 := Lib.hid (Blk.keeps BR1.out (k2 (fun _ => False)) (fun z => z))
  have HQ1 := Lib.hid (HN1 w2 (HE.out.keeps K2.out)).out
  clear k2 HC HN1
  go_wp2_with fail
  try rw [hs58]
  refine HQ1.out.mono ?_
  rintro e w3 ⟨k3, hans1⟩
  obtain ⟨A1, c1, he, hq1⟩ := hans1
  subst he
  have HL1 := Lib.hid hq1
  clear hq1
  have K3 : Hid (∀ S, Keeps S w w3) := Lib.hid (fun S => (K2.out S).trans (k3 S))
  have HQ2 := Lib.hid (HN2 w3 (HE.out.keeps K3.out)).out
  have KA3 : Hid (∀ S, Keeps S w2 w3) := Lib.hid k3
  clear k3 HQ1 HN2
  go_wp2_with fail
  try rw [hs58]
  refine HQ2.out.mono ?_
  rintro e w4 ⟨k4, hans2⟩
  obtain ⟨A2, c2, he, hq2⟩ := hans2
  subst he
  have HL2 := Lib.hid hq2
  clear hq2
  have K4 : Hid (∀ S, Keeps S w w4) := Lib.hid (fun S => (K3.out S).trans (k4 S))
  have KA4 : Hid (∀ S, Keeps S w3 w4) := Lib.hid k4
  have BR4 := Lib.hid (Blk.keeps (Blk.keeps BR2.out (KA3.out (fun _ => False)) (fun z => z)) (k4 (fun _ => False)) (fun z => z))
  clear k4 HQ2
  rw [← HM.out.1, ← HM.out.2]
  have v1 : wrap64 (8 - (m1 : Int)) = 8 - (m1 : Int) := by unfold wrap64; omega
  have v2 : wrap64 (8 - (m1 : Int) - (m2 : Int)) = 8 - (m1 : Int) - (m2 : Int) := by unfold wrap64; omega
  have hz := over_ad zeroA_wf BR4.out rfl
  rw [zeroA_cells] at hz
  have HZ := Lib.hid hz
  have KZ : Hid (∀ S, Keeps S w (w4.setCells w.heap.size 0 [.bool false, .int .u8 0, .int .u8 0, .int .u8 0, .int .u8 0, .int .u8 0, .int .u8 0, .int .u8 0, .int .u8 0, .int .u8 0, .int .u8 0, .int .u8 0, .int .u8 0, .int .u8 0, .int .u8 0, .int .u8 0, .int .u8 0])) := Lib.hid (fun S => by
    have kk := K4.out S
    have k9 := hz.2.2.2.2
    exact ⟨Nat.le_trans kk.size k9.size, fun x hx hs => by rw [k9.block x (Nat.lt_of_lt_of_le hx kk.size) (by omega), kk.block x hx hs], kk.same.trans k9.same⟩)
  clear hz
  go_wp2_with (refine wpList_store_mid rfl 24 _ _ rfl w.heap.size 0 #[.bool false, .int .u8 0, .int .u8 0, .int .u8 0, .int .u8 0, .int .u8 0, .int .u8 0, .int .u8 0, .int .u8 0, .int .u8 0, .int .u8 0, .int .u8 0, .int .u8 0, .int .u8 0, .int .u8 0, .int .u8 0, .int .u8 0] rfl rfl HZ.out.1 HZ.out.2.1 HZ.out.2.2.1 ?_)
  try rw [Exit.noGoto_ret]
  refine bodyPost_ret (wh.ret_cell (p := 2) (u := 3) (ty := 24) (by kernel_rfl) _ _ _ w.heap.size _ _ _ (by rfl) HZ.out.2.2.2.1 Tryz.underlying24 rfl addr_info) rfl ?_
  exact ⟨rfl, KZ.out⟩

set_option maxRecDepth 100000 in
set_option maxHeartbeats 4000000 in
theorem loosesix_few (l : List Nat) (hl : ∀ x ∈ l, x < 256) (hn : l.length ≤ 1000000) (henv : Env w) (xs ys : List Nat) (h1 : nump 16 58 (headL l) = some xs) (h2 : nump 16 58 (tailL l) = some ys) (hc : xs.length + ys.length < 8 ∧ gapL l = none) :
    Calls Tryz.prog 72 #[.string (str l)] w fun e w' => LsAns (lsix l) e ∧ ∀ S, Keeps S w w' := by
  obtain ⟨w1, hw1, B1, K1⟩ := new_zero w
  have HC := Lib.hid (cut2_ w1 l hl hn (henv.keeps K1))
  have HN1 := fun w (h : Env w) => Lib.hid (numsp_ w 16 58 16 (.inl ⟨rfl, rfl⟩) (by omega) (headL l) (fun x hx => hl x (head_mem hx)) (by have := head_le l; omega) h)
  have HN2 := fun w (h : Env w) => Lib.hid (numsp_ w 16 58 16 (.inl ⟨rfl, rfl⟩) (by omega) (tailL l) (fun x hx => hl x (tail_mem hx)) (by have := tail_le l; omega) h)
  have z1 : (xs.length : Int) ≤ 1000001 := by have := nump_len h1; have := head_le l; omega
  have p1 : (0 : Int) ≤ (xs.length : Int) := by omega
  have z2 : (ys.length : Int) ≤ 1000001 := by have := nump_len h2; have := tail_le l; omega
  have p2 : (0 : Int) ≤ (ys.length : Int) := by omega
  rw [lsix_none3 h1 h2 (.inr hc)]
  rw [h1] at HN1
  rw [h2] at HN2
  obtain ⟨m1, hm1⟩ : ∃ m, m = xs.length := ⟨_, rfl⟩
  obtain ⟨m2, hm2⟩ : ∃ m, m = ys.length := ⟨_, rfl⟩
  have HM := Lib.hid (And.intro hm1 hm2)
  rw [← hm1] at z1 p1
  rw [← hm2] at z2 p2
  have hpos : 0 < 8 - (m1 : Int) - (m2 : Int) := by omega
  have hneg : ¬ 8 - (m1 : Int) - (m2 : Int) < 0 := by omega
  have hg0 : (gapL l).isSome = false := by rw [hc.2]; rfl
  clear h1 h2 hm1 hm2 hc
  have HE := Lib.hid henv
  have HW := Lib.hid hw1
  have KK1 : Hid (∀ S, Keeps S w w1) := Lib.hid K1
  have BR1 := Lib.hid B1
  have hs58 : (⟨#[58]⟩ : ByteArray) = str [58] := rfl
  generalize (gapL l).isSome = sh at *
  generalize str (headL l) = s1 at *
  generalize str (tailL l) = s2 at *
  generalize str l = s at *
  clear hw1 B1 K1 hl hn henv
  go_enter Tryz.func72, Tryz.ntmps72
  go_wp2_with fail
  rw [← HW.out]
  refine HC.out.mono ?_
  rintro e w2 ⟨rfl, k2⟩
  have K2 : Hid (∀ S, Keeps S w w2) := Lib.hid (fun S => (KK1.out S).trans (k2 S))
  have BR2 := Lib.hid (Blk.keeps BR1.out (k2 (fun _ => False)) (fun z => z))
  have HQ1 := Lib.hid (HN1 w2 (HE.out.keeps K2.out)).out
  clear k2 HC HN1
  go_wp2_with fail
  try rw [hs58]
  refine HQ1.out.mono ?_
  rintro e w3 ⟨k3, hans1⟩
  obtain ⟨A1, c1, he, hq1⟩ := hans1
  subst he
  have HL1 := Lib.hid hq1
  clear hq1
  have K3 : Hid (∀ S, Keeps S w w3) := Lib.hid (fun S => (K2.out S).trans (k3 S))
  have HQ2 := Lib.hid (HN2 w3 (HE.out.keeps K3.out)).out
  have KA3 : Hid (∀ S, Keeps S w2 w3) := Lib.hid k3
  clear k3 HQ1 HN2
  go_wp2_with fail
  try rw [hs58]
  refine HQ2.out.mono ?_
  rintro e w4 ⟨k4, hans2⟩
  obtain ⟨A2, c2, he, hq2⟩ := hans2
  subst he
  have HL2 := Lib.hid hq2
  clear hq2
  have K4 : Hid (∀ S, Keeps S w w4) := Lib.hid (fun S => (K3.out S).trans (k4 S))
  have KA4 : Hid (∀ S, Keeps S w3 w4) := Lib.hid k4
  have BR4 := Lib.hid (Blk.keeps (Blk.keeps BR2.out (KA3.out (fun _ => False)) (fun z => z)) (k4 (fun _ => False)) (fun z => z))
  clear k4 HQ2
  rw [← HM.out.1, ← HM.out.2]
  have v1 : wrap64 (8 - (m1 : Int)) = 8 - (m1 : Int) := by unfold wrap64; omega
  have v2 : wrap64 (8 - (m1 : Int) - (m2 : Int)) = 8 - (m1 : Int) - (m2 : Int) := by unfold wrap64; omega
  have hz := over_ad zeroA_wf BR4.out rfl
  rw [zeroA_cells] at hz
  have HZ := Lib.hid hz
  have KZ : Hid (∀ S, Keeps S w (w4.setCells w.heap.size 0 [.bool false, .int .u8 0, .int .u8 0, .int .u8 0, .int .u8 0, .int .u8 0, .int .u8 0, .int .u8 0, .int .u8 0, .int .u8 0, .int .u8 0, .int .u8 0, .int .u8 0, .int .u8 0, .int .u8 0, .int .u8 0, .int .u8 0])) := Lib.hid (fun S => by
    have kk := K4.out S
    have k9 := hz.2.2.2.2
    exact ⟨Nat.le_trans kk.size k9.size, fun x hx hs => by rw [k9.block x (Nat.lt_of_lt_of_le hx kk.size) (by omega), kk.block x hx hs], kk.same.trans k9.same⟩)
  clear hz
  go_wp2_with (refine wpList_store_mid rfl 24 _ _ rfl w.heap.size 0 #[.bool false, .int .u8 0, .int .u8 0, .int .u8 0, .int .u8 0, .int .u8 0, .int .u8 0, .int .u8 0, .int .u8 0, .int .u8 0, .int .u8 0, .int .u8 0, .int .u8 0, .int .u8 0, .int .u8 0, .int .u8 0, .int .u8 0] rfl rfl HZ.out.1 HZ.out.2.1 HZ.out.2.2.1 ?_)
  try rw [Exit.noGoto_ret]
  refine bodyPost_ret (wh.ret_cell (p := 2) (u := 3) (ty := 24) (by kernel_rfl) _ _ _ w.heap.size _ _ _ (by rfl) HZ.out.2.2.2.1 Tryz.underlying24 rfl addr_info) rfl ?_
  exact ⟨rfl, KZ.out⟩

set_option maxRecDepth 100000 in
set_option maxHeartbeats 4000000 in
theorem loosesix_full (l : List Nat) (hl : ∀ x ∈ l, x < 256) (hn : l.length ≤ 1000000) (henv : Env w) (xs ys : List Nat) (h1 : nump 16 58 (headL l) = some xs) (h2 : nump 16 58 (tailL l) = some ys) (hc : xs.length + ys.length = 8) :
    Calls Tryz.prog 72 #[.string (str l)] w fun e w' => LsAns (lsix l) e ∧ ∀ S, Keeps S w w' := by
  obtain ⟨w1, hw1, B1, K1⟩ := new_zero w
  have HC := Lib.hid (cut2_ w1 l hl hn (henv.keeps K1))
  have HN1 := fun w (h : Env w) => Lib.hid (numsp_ w 16 58 16 (.inl ⟨rfl, rfl⟩) (by omega) (headL l) (fun x hx => hl x (head_mem hx)) (by have := head_le l; omega) h)
  have HN2 := fun w (h : Env w) => Lib.hid (numsp_ w 16 58 16 (.inl ⟨rfl, rfl⟩) (by omega) (tailL l) (fun x hx => hl x (tail_mem hx)) (by have := tail_le l; omega) h)
  have z1 : (xs.length : Int) ≤ 1000001 := by have := nump_len h1; have := head_le l; omega
  have p1 : (0 : Int) ≤ (xs.length : Int) := by omega
  have z2 : (ys.length : Int) ≤ 1000001 := by have := nump_len h2; have := tail_le l; omega
  have p2 : (0 : Int) ≤ (ys.length : Int) := by omega
  rw [lsix_eq h1 h2 (by omega)]
  rw [h1] at HN1
  rw [h2] at HN2
  obtain ⟨m1, hm1⟩ : ∃ m, m = xs.length := ⟨_, rfl⟩
  obtain ⟨m2, hm2⟩ : ∃ m, m = ys.length := ⟨_, rfl⟩
  have HM := Lib.hid (And.intro hm1 hm2)
  rw [← hm1] at z1 p1
  rw [← hm2] at z2 p2
  obtain ⟨sp, hs8⟩ : ∃ sp : Nat, m1 + m2 + sp = 8 := ⟨8 - (m1 + m2), by omega⟩
  have HS8 := Lib.hid hs8
  have H8 : Hid (∀ x ∈ mid xs ys, x < 65536) := Lib.hid (mid_lt h1 h2)
  have hneg : ¬ (sp : Int) < 0 := by omega
  have hpos : ¬ 0 < (sp : Int) := by omega
  clear h1 h2 hm1 hm2 hc
  have HE := Lib.hid henv
  have HW := Lib.hid hw1
  have KK1 : Hid (∀ S, Keeps S w w1) := Lib.hid K1
  have BR1 := Lib.hid B1
  have hs58 : (⟨#[58]⟩ : ByteArray) = str [58] := rfl
  generalize (gapL l).isSome = sh at *
  generalize str (headL l) = s1 at *
  generalize str (tailL l) = s2 at *
  generalize str l = s at *
  clear hw1 B1 K1 hl hn henv
  go_enter Tryz.func72, Tryz.ntmps72
  go_wp2_with fail
  rw [← HW.out]
  refine HC.out.mono ?_
  rintro e w2 ⟨rfl, k2⟩
  have K2 : Hid (∀ S, Keeps S w w2) := Lib.hid (fun S => (KK1.out S).trans (k2 S))
  have BR2 := Lib.hid (Blk.keeps BR1.out (k2 (fun _ => False)) (fun z => z))
  have HQ1 := Lib.hid (HN1 w2 (HE.out.keeps K2.out)).out
  clear k2 HC HN1
  go_wp2_with fail
  try rw [hs58]
  refine HQ1.out.mono ?_
  rintro e w3 ⟨k3, hans1⟩
  obtain ⟨A1, c1, he, hq1⟩ := hans1
  subst he
  have HL1 := Lib.hid hq1
  clear hq1
  have K3 : Hid (∀ S, Keeps S w w3) := Lib.hid (fun S => (K2.out S).trans (k3 S))
  have HQ2 := Lib.hid (HN2 w3 (HE.out.keeps K3.out)).out
  have KA3 : Hid (∀ S, Keeps S w2 w3) := Lib.hid k3
  clear k3 HQ1 HN2
  go_wp2_with fail
  try rw [hs58]
  refine HQ2.out.mono ?_
  rintro e w4 ⟨k4, hans2⟩
  obtain ⟨A2, c2, he, hq2⟩ := hans2
  subst he
  have HL2 := Lib.hid hq2
  clear hq2
  have K4 : Hid (∀ S, Keeps S w w4) := Lib.hid (fun S => (K3.out S).trans (k4 S))
  have KA4 : Hid (∀ S, Keeps S w3 w4) := Lib.hid k4
  have BR4 := Lib.hid (Blk.keeps (Blk.keeps BR2.out (KA3.out (fun _ => False)) (fun z => z)) (k4 (fun _ => False)) (fun z => z))
  clear k4 HQ2
  rw [← HM.out.1, ← HM.out.2]
  have v1 : wrap64 (8 - (m1 : Int)) = 8 - (m1 : Int) := by unfold wrap64; omega
  have v2 : wrap64 (8 - (m1 : Int) - (m2 : Int)) = (sp : Int) := by unfold wrap64; omega
  obtain ⟨i0, hi, hz0, hz1, hz2⟩ := info_parts u64_info
  have HIZ := Lib.hid (show ZB w2.heap.size w3.heap.size w4.heap.size w4 w4 xs (.slice A1 m1 c1) from by
    rw [HM.out.1]
    exact ⟨HL1.out.keeps (KA4.out (fun _ => False)) (fun _ _ z => z), fun b e => .inl (HL1.out.lt e), Keeps.refl _ _⟩)
  have HTL := Lib.hid (show Que w4 w3.heap.size 96 (.slice A2 m2 c2) (q64 ys) from by rw [HM.out.2]; exact HL2.out)
  have HSZ := Lib.hid (show w.heap.size < w2.heap.size ∧ w2.heap.size ≤ w3.heap.size ∧ w3.heap.size ≤ w4.heap.size from ⟨BR2.out.lt, (KA3.out (fun _ => False)).size, (KA4.out (fun _ => False)).size⟩)
  clear HL1 HL2 KA3 KA4 BR1 BR2 KK1 K2 K3
  go_wp2_with fail
  go_loopw [7, 57] (fun x i wr => ∃ (k : Nat) (xx : Value), xx = x ∧ k ≤ sp ∧ i = .int .i64 (k : Int) ∧ ZB w2.heap.size w3.heap.size w4.heap.size w4 wr (xs ++ List.replicate k 0) xx) (fun _ i _ => 20 - (intOf i).toNat)
  case atStart => exact ⟨0, _, rfl, by omega, rfl, by simpa using HIZ.out⟩
  case round =>
    obtain ⟨k, x, hx, hk, rfl, hz⟩ := hrel
    subst hx
    have k0 : (0 : Int) ≤ (k : Int) := by omega
    have HZ := Lib.hid hz
    have HWR : Hid (w4.heap.size ≤ wr.heap.size) := Lib.hid hz.kp.size
    have hlen : (q64 (xs ++ List.replicate k 0)).length = m1 + k := by rw [q64_len, HM.out.1]; simp
    have HLN := Lib.hid hlen
    clear hz hlen
    by_cases hlt : k < sp
    · exact absurd hlt (by omega)
    · obtain rfl : k = sp := by omega
      have hlt' : ¬ (k : Int) < (k : Int) := by omega
      have hT := HTL.out.keeps HZ.out.kp (fun b e => by
        have := HTL.out.lt e
        unfold Fr
        omega)
      have hA2 : ∀ j y, (q64 ys)[j]? = some y → ∃ ad, A2 = some ad ∧ wr.cell? (ad.add j) = some y := fun j y hj => by
        obtain ⟨b, o, e, _, _, hc⟩ := Que.at_ hT hj
        exact ⟨_, e, by rw [Addr.add_lit]; exact hc⟩
      have hl2 : (q64 ys).length = m2 := by rw [q64_len, HM.out.2]
      have hm8 : m1 + k + m2 = 8 := by have := HS8.out; omega
      obtain ⟨x5, w5, hr5, hq5, hg5, hb5⟩ := HZ.out.q.run_appends (P := Tryz.prog) 92 92 i0 _ 8 Tryz.underlying92 hi hz0 hz1 hz2 rfl A2 c2 (q64 ys) hA2 (fun y hy => by
        obtain ⟨n, _, rfl⟩ := List.mem_map.1 hy; rfl) (by rw [HLN.out, hl2]; unfold maxLen; omega) (by rw [HLN.out, hl2]; omega) (by have := HWR.out; have := HSZ.out; omega)
      have hz5 := HZ.out.next (us := ys) HWR.out hq5 hg5 hb5
      rw [hl2] at hr5
      obtain ⟨M, hM⟩ : ∃ M, M = mid xs ys := ⟨_, rfl⟩
      have hMM : xs ++ List.replicate k 0 ++ ys = M := by
        rw [hM, mid, ← HM.out.1, ← HM.out.2, show 8 - (m1 + m2) = k from by omega]
      rw [hMM] at hz5
      have hM8 : M.length = 8 := by rw [← hMM]; simp [← HM.out.1, ← HM.out.2]; omega
      have HML := Lib.hid (show ∀ y ∈ M, y < 65536 from by rw [hM]; exact H8.out)
      obtain ⟨A5, c5, hf5⟩ := hz5.q.form
      rw [q64_len, hM8] at hf5
      subst hf5
      have HA5 : Hid (∀ k x, M[k]? = some x → ∃ g o, A5 = some ⟨g, o, none⟩ ∧ g < w5.heap.size ∧ w5.cell? ⟨g, o + k, none⟩ = some (.int .u64 ((x : Nat) : Int))) := Lib.hid (fun k x hx => by
        obtain ⟨b, o, e, _, _, hc⟩ := Que.at_ hz5.q (k := k) (x := .int .u64 (x : Int)) (by rw [q64, List.getElem?_map, hx]; rfl)
        exact ⟨b, o, e, cell_lt hc, hc⟩)
      have K5 : Hid (∀ S, Keeps S w w5) := Lib.hid (fun S => by
        have kk := K4.out S
        have k9 := hz5.kp
        have := HSZ.out
        exact ⟨Nat.le_trans kk.size k9.size, fun x hx hs => by rw [k9.block x (Nat.lt_of_lt_of_le hx kk.size) (by unfold Fr; omega), kk.block x hx hs], kk.same.trans k9.same⟩)
      have BR5 := Lib.hid (Blk.keeps BR4.out hz5.kp (by have := HSZ.out; unfold Fr; omega))
      have HR5 := Lib.hid hr5
      have HMX := Lib.hid hM
      have HM8 := Lib.hid hM8
      clear hz5 hr5 hq5 hg5 hb5 hA2 hT hl2 hm8 hM hMM hM8 hlt hk K4 BR4 HTL HIZ
      go_wp2_with (at_builtin; refine mz.wpList_append_run rfl _ _ 92 rfl _ _ _ _ rfl rfl HR5.out ?_)
      go_loopw [12, 67] (fun x i wr => ∃ (j : Nat) (xx : Value), xx = x ∧ j ≤ 8 ∧ i = .int .i64 (j : Int) ∧ BB wr j M xx ∧ Below w5.heap.size w5 wr) (fun _ i _ => 20 - (intOf i).toNat)
      case atStart => exact ⟨0, _, rfl, by omega, rfl, .inl ⟨rfl, rfl⟩, Below.refl _ _⟩
      case round =>
        obtain ⟨j, x, hx, hj, rfl, hb, hbe⟩ := hrel
        subst hx
        have j0 : (0 : Int) ≤ (j : Int) := by omega
        have HBE := Lib.hid hbe
        by_cases hlt : j < 8
        · have hlt' : (j : Int) < 8 := by omega
          obtain ⟨y, hy⟩ : ∃ y, M[j]? = some y := ⟨_, List.getElem?_eq_getElem (by rw [HM8.out]; exact hlt)⟩
          obtain ⟨g, o, hAe, hg, hcell⟩ := HA5.out j y hy
          have xk : wr.cell? ⟨g, o + j, none⟩ = some (.int .u64 (y : Int)) := (hbe.cell hg).trans hcell
          have hy6 := HML.out y (List.mem_of_getElem? hy)
          have hwx : IntKind.u16.wrap (y : Int) = (y : Int) := by rw [IntKind.wrap_u16]; omega
          obtain ⟨AA, hxe, hrd⟩ := hb.arg
          have HP := Lib.hid (put16_any AA (by2 (M.take j)) (2 * j) (2 * j) wr.heap.size y wr (by rw [by2_len, List.length_take, HM8.out, Nat.min_eq_left (by omega)]) (by omega) hy6 hrd (Nat.le_refl _))
          have HY := Lib.hid (And.intro hy hy6)
          subst hAe
          subst hxe
          clear hy hcell hy6 hb hbe hlt hrd
          go_wp2_with fail
          refine HP.out.mono ?_
          rintro e w9 ⟨rfl, hb9, hbe9⟩
          have hbn := Lib.hid (And.intro (BB.next HY.out.1 HY.out.2 hb9) (HBE.out.trans (hbe9.mono HBE.out.size)))
          clear hb9 hbe9 HP
          go_wp2_with fail
          go_roundw
          case rel => exact ⟨j + 1, _, rfl, by omega, by go_num, hbn.out⟩
          case measure => simp [intOf]; omega
        · obtain rfl : j = 8 := by omega
          have hlt' : ¬ (8 : Int) < 8 := by omega
          rcases hb with ⟨h0, _⟩ | ⟨g, rfl, hb⟩
          · omega
          rw [List.take_of_length_le (by rw [HM8.out]; exact Nat.le_refl 8)] at hb
          obtain ⟨q0, q1, q2, q3, q4, q5, q6, q7, q8, q9, q10, q11, q12, q13, q14, q15, hQ⟩ := sixteen (l := by2 M) (by rw [by2_len, HM8.out])
          have hR : av ⟨true, by2 (mid xs ys)⟩ = .agg #[.bool true, .int .u8 (q0 : Int), .int .u8 (q1 : Int), .int .u8 (q2 : Int), .int .u8 (q3 : Int), .int .u8 (q4 : Int), .int .u8 (q5 : Int), .int .u8 (q6 : Int), .int .u8 (q7 : Int), .int .u8 (q8 : Int), .int .u8 (q9 : Int), .int .u8 (q10 : Int), .int .u8 (q11 : Int), .int .u8 (q12 : Int), .int .u8 (q13 : Int), .int .u8 (q14 : Int), .int .u8 (q15 : Int)] := by rw [← HMX.out, hQ]; rfl
          have hwf : (⟨true, by2 (mid xs ys)⟩ : Ad).Wf := by
            rw [← HMX.out]
            exact ⟨by rw [by2_len, HM8.out], by2_lt M (fun n hn => by have := HML.out n hn; omega)⟩
          rw [hQ] at hb
          have HRG := Lib.hid (wh.Blk.range hb)
          have BRR := Blk.keeps BR5.out (of_below hbe (fun _ => False)) (fun z => z)
          have hz := over_ad hwf BRR rfl
          rw [show adc ⟨true, by2 (mid xs ys)⟩ = [.bool true, .int .u8 (q0 : Int), .int .u8 (q1 : Int), .int .u8 (q2 : Int), .int .u8 (q3 : Int), .int .u8 (q4 : Int), .int .u8 (q5 : Int), .int .u8 (q6 : Int), .int .u8 (q7 : Int), .int .u8 (q8 : Int), .int .u8 (q9 : Int), .int .u8 (q10 : Int), .int .u8 (q11 : Int), .int .u8 (q12 : Int), .int .u8 (q13 : Int), .int .u8 (q14 : Int), .int .u8 (q15 : Int)] from by rw [← HMX.out, hQ]; rfl] at hz
          have HZ9 := Lib.hid hz
          have HRR := Lib.hid hR
          have KZ : Hid (∀ S, Keeps S w (wr.setCells w.heap.size 0 [.bool true, .int .u8 (q0 : Int), .int .u8 (q1 : Int), .int .u8 (q2 : Int), .int .u8 (q3 : Int), .int .u8 (q4 : Int), .int .u8 (q5 : Int), .int .u8 (q6 : Int), .int .u8 (q7 : Int), .int .u8 (q8 : Int), .int .u8 (q9 : Int), .int .u8 (q10 : Int), .int .u8 (q11 : Int), .int .u8 (q12 : Int), .int .u8 (q13 : Int), .int .u8 (q14 : Int), .int .u8 (q15 : Int)])) := Lib.hid (fun S => by
            have kk := (K5.out S).trans (of_below hbe S)
            have k9 := hz.2.2.2.2
            exact ⟨Nat.le_trans kk.size k9.size, fun x hx hs => by rw [k9.block x (Nat.lt_of_lt_of_le hx kk.size) (by omega), kk.block x hx hs], kk.same.trans k9.same⟩)
          have HAN : Hid (LsAns (some ⟨true, by2 (mid xs ys)⟩) (.returned (.tuple #[.agg #[.bool true, .int .u8 (q0 : Int), .int .u8 (q1 : Int), .int .u8 (q2 : Int), .int .u8 (q3 : Int), .int .u8 (q4 : Int), .int .u8 (q5 : Int), .int .u8 (q6 : Int), .int .u8 (q7 : Int), .int .u8 (q8 : Int), .int .u8 (q9 : Int), .int .u8 (q10 : Int), .int .u8 (q11 : Int), .int .u8 (q12 : Int), .int .u8 (q13 : Int), .int .u8 (q14 : Int), .int .u8 (q15 : Int)], .bool true]))) := Lib.hid (by unfold LsAns; simp only; rw [HRR.out])
          have hat : (Instr.arrayAt 22 (.slice (some ⟨g, 0, none⟩) 16 16)).run Tryz.prog wr = .ok (.pointer (some ⟨g, 0, none⟩)) wr := by
            simp [Instr.arrayAt, run_underlying Tryz.underlying22]
          clear hb hbe hz hR hwf hlt BRR HRR hQ
          go_wp2_with (first
            | (refine wpList_load_mid rfl 22 _ rfl g 0 rfl [.int .u8 (q0 : Int), .int .u8 (q1 : Int), .int .u8 (q2 : Int), .int .u8 (q3 : Int), .int .u8 (q4 : Int), .int .u8 (q5 : Int), .int .u8 (q6 : Int), .int .u8 (q7 : Int), .int .u8 (q8 : Int), .int .u8 (q9 : Int), .int .u8 (q10 : Int), .int .u8 (q11 : Int), .int .u8 (q12 : Int), .int .u8 (q13 : Int), .int .u8 (q14 : Int), .int .u8 (q15 : Int)] _ HRG.out Tryz.underlying22 rfl arr_info ?_)
            | (refine wpList_store_mid rfl 24 _ _ rfl w.heap.size 0 #[.bool true, .int .u8 (q0 : Int), .int .u8 (q1 : Int), .int .u8 (q2 : Int), .int .u8 (q3 : Int), .int .u8 (q4 : Int), .int .u8 (q5 : Int), .int .u8 (q6 : Int), .int .u8 (q7 : Int), .int .u8 (q8 : Int), .int .u8 (q9 : Int), .int .u8 (q10 : Int), .int .u8 (q11 : Int), .int .u8 (q12 : Int), .int .u8 (q13 : Int), .int .u8 (q14 : Int), .int .u8 (q15 : Int)] rfl rfl HZ9.out.1 HZ9.out.2.1 HZ9.out.2.2.1 ?_))
          try rw [Exit.noGoto_ret]
          refine bodyPost_ret (wh.ret_cell (p := 2) (u := 3) (ty := 24) (by kernel_rfl) _ _ _ w.heap.size _ _ _ (by rfl) HZ9.out.2.2.2.1 Tryz.underlying24 rfl addr_info) rfl ?_
          exact ⟨HAN.out, KZ.out⟩

set_option maxRecDepth 100000 in
set_option maxHeartbeats 4000000 in
theorem loosesix_gap (l : List Nat) (hl : ∀ x ∈ l, x < 256) (hn : l.length ≤ 1000000) (henv : Env w) (xs ys : List Nat) (h1 : nump 16 58 (headL l) = some xs) (h2 : nump 16 58 (tailL l) = some ys) (hc : xs.length + ys.length < 8 ∧ ¬ gapL l = none) :
    Calls Tryz.prog 72 #[.string (str l)] w fun e w' => LsAns (lsix l) e ∧ ∀ S, Keeps S w w' := by
  obtain ⟨w1, hw1, B1, K1⟩ := new_zero w
  have HC := Lib.hid (cut2_ w1 l hl hn (henv.keeps K1))
  have HN1 := fun w (h : Env w) => Lib.hid (numsp_ w 16 58 16 (.inl ⟨rfl, rfl⟩) (by omega) (headL l) (fun x hx => hl x (head_mem hx)) (by have := head_le l; omega) h)
  have HN2 := fun w (h : Env w) => Lib.hid (numsp_ w 16 58 16 (.inl ⟨rfl, rfl⟩) (by omega) (tailL l) (fun x hx => hl x (tail_mem hx)) (by have := tail_le l; omega) h)
  have z1 : (xs.length : Int) ≤ 1000001 := by have := nump_len h1; have := head_le l; omega
  have p1 : (0 : Int) ≤ (xs.length : Int) := by omega
  have z2 : (ys.length : Int) ≤ 1000001 := by have := nump_len h2; have := tail_le l; omega
  have p2 : (0 : Int) ≤ (ys.length : Int) := by omega
  rw [lsix_eq h1 h2 (fun z => by rcases z with z | z; exact absurd hc.1 (by omega); exact hc.2 z.2)]
  rw [h1] at HN1
  rw [h2] at HN2
  obtain ⟨m1, hm1⟩ : ∃ m, m = xs.length := ⟨_, rfl⟩
  obtain ⟨m2, hm2⟩ : ∃ m, m = ys.length := ⟨_, rfl⟩
  have HM := Lib.hid (And.intro hm1 hm2)
  rw [← hm1] at z1 p1
  rw [← hm2] at z2 p2
  obtain ⟨sp, hs8⟩ : ∃ sp : Nat, m1 + m2 + sp = 8 := ⟨8 - (m1 + m2), by omega⟩
  have HS8 := Lib.hid hs8
  have H8 : Hid (∀ x ∈ mid xs ys, x < 65536) := Lib.hid (mid_lt h1 h2)
  have hneg : ¬ (sp : Int) < 0 := by omega
  have hpos : 0 < (sp : Int) := by omega
  have hg0 : (gapL l).isSome = true := by
    cases hg : gapL l with
    | none => exact absurd hg hc.2
    | some j => rfl
  clear h1 h2 hm1 hm2 hc
  have HE := Lib.hid henv
  have HW := Lib.hid hw1
  have KK1 : Hid (∀ S, Keeps S w w1) := Lib.hid K1
  have BR1 := Lib.hid B1
  have hs58 : (⟨#[58]⟩ : ByteArray) = str [58] := rfl
  generalize (gapL l).isSome = sh at *
  generalize str (headL l) = s1 at *
  generalize str (tailL l) = s2 at *
  generalize str l = s at *
  clear hw1 B1 K1 hl hn henv
  go_enter Tryz.func72, Tryz.ntmps72
  go_wp2_with fail
  rw [← HW.out]
  refine HC.out.mono ?_
  rintro e w2 ⟨rfl, k2⟩
  have K2 : Hid (∀ S, Keeps S w w2) := Lib.hid (fun S => (KK1.out S).trans (k2 S))
  have BR2 := Lib.hid (Blk.keeps BR1.out (k2 (fun _ => False)) (fun z => z))
  have HQ1 := Lib.hid (HN1 w2 (HE.out.keeps K2.out)).out
  clear k2 HC HN1
  go_wp2_with fail
  try rw [hs58]
  refine HQ1.out.mono ?_
  rintro e w3 ⟨k3, hans1⟩
  obtain ⟨A1, c1, he, hq1⟩ := hans1
  subst he
  have HL1 := Lib.hid hq1
  clear hq1
  have K3 : Hid (∀ S, Keeps S w w3) := Lib.hid (fun S => (K2.out S).trans (k3 S))
  have HQ2 := Lib.hid (HN2 w3 (HE.out.keeps K3.out)).out
  have KA3 : Hid (∀ S, Keeps S w2 w3) := Lib.hid k3
  clear k3 HQ1 HN2
  go_wp2_with fail
  try rw [hs58]
  refine HQ2.out.mono ?_
  rintro e w4 ⟨k4, hans2⟩
  obtain ⟨A2, c2, he, hq2⟩ := hans2
  subst he
  have HL2 := Lib.hid hq2
  clear hq2
  have K4 : Hid (∀ S, Keeps S w w4) := Lib.hid (fun S => (K3.out S).trans (k4 S))
  have KA4 : Hid (∀ S, Keeps S w3 w4) := Lib.hid k4
  have BR4 := Lib.hid (Blk.keeps (Blk.keeps BR2.out (KA3.out (fun _ => False)) (fun z => z)) (k4 (fun _ => False)) (fun z => z))
  clear k4 HQ2
  rw [← HM.out.1, ← HM.out.2]
  have v1 : wrap64 (8 - (m1 : Int)) = 8 - (m1 : Int) := by unfold wrap64; omega
  have v2 : wrap64 (8 - (m1 : Int) - (m2 : Int)) = (sp : Int) := by unfold wrap64; omega
  obtain ⟨i0, hi, hz0, hz1, hz2⟩ := info_parts u64_info
  have HIZ := Lib.hid (show ZB w2.heap.size w3.heap.size w4.heap.size w4 w4 xs (.slice A1 m1 c1) from by
    rw [HM.out.1]
    exact ⟨HL1.out.keeps (KA4.out (fun _ => False)) (fun _ _ z => z), fun b e => .inl (HL1.out.lt e), Keeps.refl _ _⟩)
  have HTL := Lib.hid (show Que w4 w3.heap.size 96 (.slice A2 m2 c2) (q64 ys) from by rw [HM.out.2]; exact HL2.out)
  have HSZ := Lib.hid (show w.heap.size < w2.heap.size ∧ w2.heap.size ≤ w3.heap.size ∧ w3.heap.size ≤ w4.heap.size from ⟨BR2.out.lt, (KA3.out (fun _ => False)).size, (KA4.out (fun _ => False)).size⟩)
  clear HL1 HL2 KA3 KA4 BR1 BR2 KK1 K2 K3
  go_wp2_with fail
  go_loopw [7, 57] (fun x i wr => ∃ (k : Nat) (xx : Value), xx = x ∧ k ≤ sp ∧ i = .int .i64 (k : Int) ∧ ZB w2.heap.size w3.heap.size w4.heap.size w4 wr (xs ++ List.replicate k 0) xx) (fun _ i _ => 20 - (intOf i).toNat)
  case atStart => exact ⟨0, _, rfl, by omega, rfl, by simpa using HIZ.out⟩
  case round =>
    obtain ⟨k, x, hx, hk, rfl, hz⟩ := hrel
    subst hx
    have k0 : (0 : Int) ≤ (k : Int) := by omega
    have HZ := Lib.hid hz
    have HWR : Hid (w4.heap.size ≤ wr.heap.size) := Lib.hid hz.kp.size
    have hlen : (q64 (xs ++ List.replicate k 0)).length = m1 + k := by rw [q64_len, HM.out.1]; simp
    have HLN := Lib.hid hlen
    clear hz hlen
    by_cases hlt : k < sp
    · have hlt' : (k : Int) < (sp : Int) := by omega
      have HK8 := Lib.hid (show m1 + k < 8 from by have := HS8.out; omega)
      clear hlt hk
      go_wp2_with (at_builtin; refine Que.wpList_append rfl _ _ 92 rfl i0 _ 8 Tryz.underlying92 hi hz0 hz1 hz2 rfl rfl (HZ.out.q.alloc _) ⟨wr.heap.size, 0, none⟩ 1 (.int .u64 0) rfl (by rw [(Blk.new wr 96 #[.int .u64 0]).cell]; rfl) rfl (by rw [HLN.out]; have := HK8.out; unfold maxLen; omega) (by rw [HLN.out]; have := HK8.out; omega) (by simp; have := HWR.out; have := HSZ.out; omega) ?_)
      intro x2 w9 hq9 hg9 hat9
      have hn := (HZ.out.alloc _).next (us := [0]) (by simp; have := HWR.out; omega) hq9 hg9 (by simpa using hat9)
      rw [List.append_assoc, ← List.replicate_succ'] at hn
      clear hq9 hg9 hat9
      go_wp2_with fail
      go_roundw
      case rel => exact ⟨k + 1, _, rfl, by omega, by go_num, hn⟩
      case measure => have := HS8.out; simp [intOf]; omega
    · obtain rfl : k = sp := by omega
      have hlt' : ¬ (k : Int) < (k : Int) := by omega
      have hT := HTL.out.keeps HZ.out.kp (fun b e => by
        have := HTL.out.lt e
        unfold Fr
        omega)
      have hA2 : ∀ j y, (q64 ys)[j]? = some y → ∃ ad, A2 = some ad ∧ wr.cell? (ad.add j) = some y := fun j y hj => by
        obtain ⟨b, o, e, _, _, hc⟩ := Que.at_ hT hj
        exact ⟨_, e, by rw [Addr.add_lit]; exact hc⟩
      have hl2 : (q64 ys).length = m2 := by rw [q64_len, HM.out.2]
      have hm8 : m1 + k + m2 = 8 := by have := HS8.out; omega
      obtain ⟨x5, w5, hr5, hq5, hg5, hb5⟩ := HZ.out.q.run_appends (P := Tryz.prog) 92 92 i0 _ 8 Tryz.underlying92 hi hz0 hz1 hz2 rfl A2 c2 (q64 ys) hA2 (fun y hy => by
        obtain ⟨n, _, rfl⟩ := List.mem_map.1 hy; rfl) (by rw [HLN.out, hl2]; unfold maxLen; omega) (by rw [HLN.out, hl2]; omega) (by have := HWR.out; have := HSZ.out; omega)
      have hz5 := HZ.out.next (us := ys) HWR.out hq5 hg5 hb5
      rw [hl2] at hr5
      obtain ⟨M, hM⟩ : ∃ M, M = mid xs ys := ⟨_, rfl⟩
      have hMM : xs ++ List.replicate k 0 ++ ys = M := by
        rw [hM, mid, ← HM.out.1, ← HM.out.2, show 8 - (m1 + m2) = k from by omega]
      rw [hMM] at hz5
      have hM8 : M.length = 8 := by rw [← hMM]; simp [← HM.out.1, ← HM.out.2]; omega
      have HML := Lib.hid (show ∀ y ∈ M, y < 65536 from by rw [hM]; exact H8.out)
      obtain ⟨A5, c5, hf5⟩ := hz5.q.form
      rw [q64_len, hM8] at hf5
      subst hf5
      have HA5 : Hid (∀ k x, M[k]? = some x → ∃ g o, A5 = some ⟨g, o, none⟩ ∧ g < w5.heap.size ∧ w5.cell? ⟨g, o + k, none⟩ = some (.int .u64 ((x : Nat) : Int))) := Lib.hid (fun k x hx => by
        obtain ⟨b, o, e, _, _, hc⟩ := Que.at_ hz5.q (k := k) (x := .int .u64 (x : Int)) (by rw [q64, List.getElem?_map, hx]; rfl)
        exact ⟨b, o, e, cell_lt hc, hc⟩)
      have K5 : Hid (∀ S, Keeps S w w5) := Lib.hid (fun S => by
        have kk := K4.out S
        have k9 := hz5.kp
        have := HSZ.out
        exact ⟨Nat.le_trans kk.size k9.size, fun x hx hs => by rw [k9.block x (Nat.lt_of_lt_of_le hx kk.size) (by unfold Fr; omega), kk.block x hx hs], kk.same.trans k9.same⟩)
      have BR5 := Lib.hid (Blk.keeps BR4.out hz5.kp (by have := HSZ.out; unfold Fr; omega))
      have HR5 := Lib.hid hr5
      have HMX := Lib.hid hM
      have HM8 := Lib.hid hM8
      clear hz5 hr5 hq5 hg5 hb5 hA2 hT hl2 hm8 hM hMM hM8 hlt hk K4 BR4 HTL HIZ
      go_wp2_with (at_builtin; refine mz.wpList_append_run rfl _ _ 92 rfl _ _ _ _ rfl rfl HR5.out ?_)
      go_loopw [12, 67] (fun x i wr => ∃ (j : Nat) (xx : Value), xx = x ∧ j ≤ 8 ∧ i = .int .i64 (j : Int) ∧ BB wr j M xx ∧ Below w5.heap.size w5 wr) (fun _ i _ => 20 - (intOf i).toNat)
      case atStart => exact ⟨0, _, rfl, by omega, rfl, .inl ⟨rfl, rfl⟩, Below.refl _ _⟩
      case round =>
        obtain ⟨j, x, hx, hj, rfl, hb, hbe⟩ := hrel
        subst hx
        have j0 : (0 : Int) ≤ (j : Int) := by omega
        have HBE := Lib.hid hbe
        by_cases hlt : j < 8
        · have hlt' : (j : Int) < 8 := by omega
          obtain ⟨y, hy⟩ : ∃ y, M[j]? = some y := ⟨_, List.getElem?_eq_getElem (by rw [HM8.out]; exact hlt)⟩
          obtain ⟨g, o, hAe, hg, hcell⟩ := HA5.out j y hy
          have xk : wr.cell? ⟨g, o + j, none⟩ = some (.int .u64 (y : Int)) := (hbe.cell hg).trans hcell
          have hy6 := HML.out y (List.mem_of_getElem? hy)
          have hwx : IntKind.u16.wrap (y : Int) = (y : Int) := by rw [IntKind.wrap_u16]; omega
          obtain ⟨AA, hxe, hrd⟩ := hb.arg
          have HP := Lib.hid (put16_any AA (by2 (M.take j)) (2 * j) (2 * j) wr.heap.size y wr (by rw [by2_len, List.length_take, HM8.out, Nat.min_eq_left (by omega)]) (by omega) hy6 hrd (Nat.le_refl _))
          have HY := Lib.hid (And.intro hy hy6)
          subst hAe
          subst hxe
          clear hy hcell hy6 hb hbe hlt hrd
          go_wp2_with fail
          refine HP.out.mono ?_
          rintro e w9 ⟨rfl, hb9, hbe9⟩
          have hbn := Lib.hid (And.intro (BB.next HY.out.1 HY.out.2 hb9) (HBE.out.trans (hbe9.mono HBE.out.size)))
          clear hb9 hbe9 HP
          go_wp2_with fail
          go_roundw
          case rel => exact ⟨j + 1, _, rfl, by omega, by go_num, hbn.out⟩
          case measure => simp [intOf]; omega
        · obtain rfl : j = 8 := by omega
          have hlt' : ¬ (8 : Int) < 8 := by omega
          rcases hb with ⟨h0, _⟩ | ⟨g, rfl, hb⟩
          · omega
          rw [List.take_of_length_le (by rw [HM8.out]; exact Nat.le_refl 8)] at hb
          obtain ⟨q0, q1, q2, q3, q4, q5, q6, q7, q8, q9, q10, q11, q12, q13, q14, q15, hQ⟩ := sixteen (l := by2 M) (by rw [by2_len, HM8.out])
          have hR : av ⟨true, by2 (mid xs ys)⟩ = .agg #[.bool true, .int .u8 (q0 : Int), .int .u8 (q1 : Int), .int .u8 (q2 : Int), .int .u8 (q3 : Int), .int .u8 (q4 : Int), .int .u8 (q5 : Int), .int .u8 (q6 : Int), .int .u8 (q7 : Int), .int .u8 (q8 : Int), .int .u8 (q9 : Int), .int .u8 (q10 : Int), .int .u8 (q11 : Int), .int .u8 (q12 : Int), .int .u8 (q13 : Int), .int .u8 (q14 : Int), .int .u8 (q15 : Int)] := by rw [← HMX.out, hQ]; rfl
          have hwf : (⟨true, by2 (mid xs ys)⟩ : Ad).Wf := by
            rw [← HMX.out]
            exact ⟨by rw [by2_len, HM8.out], by2_lt M (fun n hn => by have := HML.out n hn; omega)⟩
          rw [hQ] at hb
          have HRG := Lib.hid (wh.Blk.range hb)
          have BRR := Blk.keeps BR5.out (of_below hbe (fun _ => False)) (fun z => z)
          have hz := over_ad hwf BRR rfl
          rw [show adc ⟨true, by2 (mid xs ys)⟩ = [.bool true, .int .u8 (q0 : Int), .int .u8 (q1 : Int), .int .u8 (q2 : Int), .int .u8 (q3 : Int), .int .u8 (q4 : Int), .int .u8 (q5 : Int), .int .u8 (q6 : Int), .int .u8 (q7 : Int), .int .u8 (q8 : Int), .int .u8 (q9 : Int), .int .u8 (q10 : Int), .int .u8 (q11 : Int), .int .u8 (q12 : Int), .int .u8 (q13 : Int), .int .u8 (q14 : Int), .int .u8 (q15 : Int)] from by rw [← HMX.out, hQ]; rfl] at hz
          have HZ9 := Lib.hid hz
          have HRR := Lib.hid hR
          have KZ : Hid (∀ S, Keeps S w (wr.setCells w.heap.size 0 [.bool true, .int .u8 (q0 : Int), .int .u8 (q1 : Int), .int .u8 (q2 : Int), .int .u8 (q3 : Int), .int .u8 (q4 : Int), .int .u8 (q5 : Int), .int .u8 (q6 : Int), .int .u8 (q7 : Int), .int .u8 (q8 : Int), .int .u8 (q9 : Int), .int .u8 (q10 : Int), .int .u8 (q11 : Int), .int .u8 (q12 : Int), .int .u8 (q13 : Int), .int .u8 (q14 : Int), .int .u8 (q15 : Int)])) := Lib.hid (fun S => by
            have kk := (K5.out S).trans (of_below hbe S)
            have k9 := hz.2.2.2.2
            exact ⟨Nat.le_trans kk.size k9.size, fun x hx hs => by rw [k9.block x (Nat.lt_of_lt_of_le hx kk.size) (by omega), kk.block x hx hs], kk.same.trans k9.same⟩)
          have HAN : Hid (LsAns (some ⟨true, by2 (mid xs ys)⟩) (.returned (.tuple #[.agg #[.bool true, .int .u8 (q0 : Int), .int .u8 (q1 : Int), .int .u8 (q2 : Int), .int .u8 (q3 : Int), .int .u8 (q4 : Int), .int .u8 (q5 : Int), .int .u8 (q6 : Int), .int .u8 (q7 : Int), .int .u8 (q8 : Int), .int .u8 (q9 : Int), .int .u8 (q10 : Int), .int .u8 (q11 : Int), .int .u8 (q12 : Int), .int .u8 (q13 : Int), .int .u8 (q14 : Int), .int .u8 (q15 : Int)], .bool true]))) := Lib.hid (by unfold LsAns; simp only; rw [HRR.out])
          have hat : (Instr.arrayAt 22 (.slice (some ⟨g, 0, none⟩) 16 16)).run Tryz.prog wr = .ok (.pointer (some ⟨g, 0, none⟩)) wr := by
            simp [Instr.arrayAt, run_underlying Tryz.underlying22]
          clear hb hbe hz hR hwf hlt BRR HRR hQ
          go_wp2_with (first
            | (refine wpList_load_mid rfl 22 _ rfl g 0 rfl [.int .u8 (q0 : Int), .int .u8 (q1 : Int), .int .u8 (q2 : Int), .int .u8 (q3 : Int), .int .u8 (q4 : Int), .int .u8 (q5 : Int), .int .u8 (q6 : Int), .int .u8 (q7 : Int), .int .u8 (q8 : Int), .int .u8 (q9 : Int), .int .u8 (q10 : Int), .int .u8 (q11 : Int), .int .u8 (q12 : Int), .int .u8 (q13 : Int), .int .u8 (q14 : Int), .int .u8 (q15 : Int)] _ HRG.out Tryz.underlying22 rfl arr_info ?_)
            | (refine wpList_store_mid rfl 24 _ _ rfl w.heap.size 0 #[.bool true, .int .u8 (q0 : Int), .int .u8 (q1 : Int), .int .u8 (q2 : Int), .int .u8 (q3 : Int), .int .u8 (q4 : Int), .int .u8 (q5 : Int), .int .u8 (q6 : Int), .int .u8 (q7 : Int), .int .u8 (q8 : Int), .int .u8 (q9 : Int), .int .u8 (q10 : Int), .int .u8 (q11 : Int), .int .u8 (q12 : Int), .int .u8 (q13 : Int), .int .u8 (q14 : Int), .int .u8 (q15 : Int)] rfl rfl HZ9.out.1 HZ9.out.2.1 HZ9.out.2.2.1 ?_))
          try rw [Exit.noGoto_ret]
          refine bodyPost_ret (wh.ret_cell (p := 2) (u := 3) (ty := 24) (by kernel_rfl) _ _ _ w.heap.size _ _ _ (by rfl) HZ9.out.2.2.2.1 Tryz.underlying24 rfl addr_info) rfl ?_
          exact ⟨HAN.out, KZ.out⟩

theorem loosesix_ (l : List Nat) (hl : ∀ x ∈ l, x < 256) (hn : l.length ≤ 1000000) (henv : Env w) :
    Calls Tryz.prog 72 #[.string (str l)] w fun e w' => LsAns (lsix l) e ∧ ∀ S, Keeps S w w' := by
  cases h1 : nump 16 58 (headL l) with
  | none =>
    cases h2 : nump 16 58 (tailL l) with
    | none => exact loosesix_n1n2 w l hl hn henv h1 h2
    | some ys => exact loosesix_n1 w l hl hn henv ys h1 h2
  | some xs =>
    cases h2 : nump 16 58 (tailL l) with
    | none => exact loosesix_n2 w l hl hn henv xs h1 h2
    | some ys =>
      by_cases c1 : 8 < xs.length + ys.length
      · exact loosesix_many w l hl hn henv xs ys h1 h2 c1
      · by_cases c2 : xs.length + ys.length = 8
        · exact loosesix_full w l hl hn henv xs ys h1 h2 c2
        · by_cases c3 : gapL l = none
          · exact loosesix_few w l hl hn henv xs ys h1 h2 ⟨by omega, c3⟩
          · exact loosesix_gap w l hl hn henv xs ys h1 h2 ⟨by omega, c3⟩

end
end Go.Proofs.YtgcdhfpbmcfedaaGreatDoor.pf
end
section
set_option linter.unusedVariables false
set_option linter.unusedSimpArgs false
namespace Go.Proofs.YtgcdhfpbmcfedaaGreatDoor.pf
open Go.RowKit Go.Proofs.YtgcdhfpbmcfedaaGreatDoor.oc Go.Proofs.YtgcdhfpbmcfedaaGreatDoor.mz Go.Proofs.YtgcdhfpbmcfedaaGreatDoor.wh Go.Proofs.YtgcdhfpbmcfedaaGreatDoor.qk
theorem Que.cap_le {w : World} {base : Nat} {e : TypeId} {A : Option Addr} {n c : Nat} {xs : List Value} (h : Que w base e (.slice A n c) xs) : xs.length ≤ c := by
  rcases h with ⟨_, rfl⟩ | ⟨g, off, cap, cs, e, _, _, q, _⟩
  · simp
  · injection e with e1 e2 e3; omega
theorem num_two {a : Ad} (ha : a.Wf) {k : Nat} (hk : k < 8) : oc.num ((a.B.drop (2 * k)).take 2) = pf.num a k := by
  have h0 := byt_some ha (i := 2 * k) (by omega)
  have h1 := byt_some ha (i := 2 * k + 1) (by omega)
  have e : (a.B.drop (2 * k)).take 2 = [byt a (2 * k), byt a (2 * k + 1)] := by
    rw [List.drop_eq_getElem_cons (by rw [ha.len]; omega), List.drop_eq_getElem_cons (by rw [ha.len]; omega)]
    rw [List.getElem?_eq_getElem (by rw [ha.len]; omega)] at h0 h1
    simp only [Option.some.injEq] at h0 h1
    simp [h0, h1]
  rw [e]
  simp [oc.num, pf.num]
theorem t6_long (nm : Nat → Nat) (h : 1 < (rowUp nm 8).2) : t6 nm = jn (fst nm (rowUp nm 8).1) ++ [58, 58] ++ jn (seg nm ((rowUp nm 8).1 + (rowUp nm 8).2) (8 - ((rowUp nm 8).1 + (rowUp nm 8).2))) := by
  have hle := (rowUp_le nm 8 (Nat.le_refl _)).1
  have hb := t6_behind nm (rowUp nm 8).1 (rowUp nm 8).2 h (8 - ((rowUp nm 8).1 + (rowUp nm 8).2))
  rw [show (rowUp nm 8).1 + (rowUp nm 8).2 + (8 - ((rowUp nm 8).1 + (rowUp nm 8).2)) = 8 from by omega] at hb
  exact hb
theorem t6_short (nm : Nat → Nat) (h : ¬ 1 < (rowUp nm 8).2) : t6 nm = jn (fst nm 8) := t6_plain nm _ _ h 8
theorem fst_take (nm : Nat → Nat) (f : Nat) (h : f ≤ 8) : (fst nm 8).take f = fst nm f := by
  unfold fst
  rw [← List.map_take, List.take_range, Nat.min_eq_left h]
theorem fst_drop (nm : Nat → Nat) (g : Nat) (h : g ≤ 8) : (fst nm 8).drop g = seg nm g (8 - g) := by
  refine List.ext_getElem (by simp [fst, seg]) fun i h1 h2 => ?_
  simp [fst, seg]
section
variable (w : World)

set_option maxRecDepth 100000 in
set_option maxHeartbeats 4000000 in
theorem sixtext_ (a : Ad) (ha : a.Wf) (henv : Env w) : Calls Tryz.prog 49 #[av a] w fun e w' => e = .returned (.string (str (t6 (pf.num a)))) ∧ ∀ S, Keeps S w w' := by
  obtain ⟨w1, hw1, k1, b1⟩ := enter_blk w (adc a).toArray 24
  have HI := Lib.hid (show TB w w1 a [] (.slice none 0 0) from ⟨b1, Que.nil_ _ _ _, k1⟩)
  have HW := Lib.hid hw1
  have HA := Lib.hid ha
  have HE := Lib.hid henv
  obtain ⟨i0, hi, hz0, hz1, hz2⟩ := info_parts u64_info
  unfold av
  generalize hC : (adc a).toArray = C at *
  obtain ⟨nm, hnm⟩ : ∃ nm, nm = pf.num a := ⟨_, rfl⟩
  have HNM := Lib.hid hnm
  rw [← hnm]
  clear hw1 k1 b1 ha henv hC hnm
  go_enter Tryz.func49, Tryz.ntmps49
  go_wp2_with fail
  rw [← HW.out]
  go_loopw [3, 9] (fun v i wr => ∃ (k : Nat) (vv : Value), vv = v ∧ k ≤ 8 ∧ i = .int .i64 (k : Int) ∧ TB w wr a (fst nm k) vv) (fun _ i _ => 20 - (intOf i).toNat)
  case atStart => exact ⟨0, _, rfl, by omega, rfl, HI.out⟩
  case round =>
    obtain ⟨k, v, hv, h4, rfl, ht⟩ := hrel
    subst hv
    have k0 : (0 : Int) ≤ (k : Int) := by omega
    have k4 : (k : Int) ≤ 8 := by omega
    have HT := Lib.hid ht
    by_cases hlt : k < 8
    · have hlt' : (k : Int) < 8 := by omega
      have htk := take16_yes (some ⟨w.heap.size, 1, none⟩) a.B 16 16 (w.heap.size + 1) (2 * k) wr HA.out.len (by omega) (by omega) (by omega) HA.out.sm (fun j v' hj => by
        have hc := ad_bytes ht.bl j v' hj
        exact ⟨w.heap.size, 1, rfl, by omega, hc⟩) (by omega)
      rw [num_two HA.out hlt, ← HNM.out, show ((2 * k : Nat) : Int) = 2 * (k : Int) from by omega] at htk
      have HTK := Lib.hid htk
      have HS := Lib.hid (fst_succ nm k)
      have hlen : (q64 (fst nm k)).length = k := by rw [q64_len]; simp [fst]
      have HL := Lib.hid hlen
      have hbx := num_lt HA.out k
      rw [← HNM.out] at hbx
      clear ht hlt hlen htk
      generalize nm k = x at *
      have hwx : IntKind.u64.wrap (x : Int) = (x : Int) := by rw [mz.wrap_u64]; omega
      clear hbx
      go_wp2_with fail
      refine HTK.out.mono ?_
      rintro e w' ⟨rfl, rfl⟩
      go_wp2_with (at_builtin; refine Que.wpList_append rfl _ _ 92 rfl i0 _ 8 Tryz.underlying92 hi hz0 hz1 hz2 rfl rfl (HT.out.q.alloc _) ⟨wr.heap.size, 0, none⟩ 1 (.int .u64 ((x : Nat) : Int)) rfl (by rw [(Blk.new wr 96 #[.int .u64 ((x : Nat) : Int)]).cell]; rfl) rfl (by rw [HL.out]; unfold maxLen; omega) (by rw [HL.out]; omega) (by simp; have := HT.out.bl.lt; omega) ?_)
      intro v2 w9 hq9 hg9 hat9
      have hn := HT.out.next hq9 hg9
      rw [← HS.out] at hn
      clear hq9 hg9 hat9
      go_wp2_with fail
      go_roundw
      case rel => exact ⟨k + 1, _, rfl, by omega, by go_num, hn⟩
      case measure => simp [intOf]; omega
    · obtain rfl : k = 8 := by omega
      obtain ⟨A, c, hf⟩ := ht.q.form
      have hfl : (fst nm 8).length = 8 := by simp [fst]
      have hf2 : v = .slice A 8 c := by rw [hf, q64_len, hfl]
      subst hf2
      have hli := ht.list.2
      have hlr := longestrow_ wr (fst nm 8) A c (by omega) hli
      rw [hfl] at hlr
      rw [lrow_congr (g := nm) 8 (fun i hi => by simp [fst, hi]), rows_same nm] at hlr
      have hok : ∀ x ∈ fst nm 8, okDig 16 x := fun x hx => .inl ⟨rfl, by
        simp only [fst, List.mem_map] at hx
        obtain ⟨i, _, rfl⟩ := hx
        rw [HNM.out]; exact num_lt HA.out i⟩
      have henv9 := HE.out.keeps ht.kp
      have hs58 : (⟨#[58]⟩ : ByteArray) = str [58] := rfl
      have KT := Lib.hid ht.kp
      have hlt' : ¬ (8 : Int) < 8 := by omega
      by_cases hlong : 1 < (rowUp nm 8).2
      · rw [if_pos hlong] at hlr
        have hle := (rowUp_le nm 8 (Nat.le_refl _)).1
        obtain ⟨f, hff⟩ : ∃ f, f = (rowUp nm 8).1 := ⟨_, rfl⟩
        obtain ⟨n, hn⟩ : ∃ n, n = (rowUp nm 8).2 := ⟨_, rfl⟩
        have HT6 := Lib.hid (t6_long nm hlong)
        rw [← hff, ← hn] at hlr hle HT6
        rw [← hn] at hlong
        have HLR := Lib.hid hlr
        have hc8 : 8 ≤ c := by have := Que.cap_le HT.out.q; rw [q64_len, hfl] at this; exact this
        have hfc : f ≤ c := by omega
        have hf8n : f ≤ 8 := by omega
        have f0 : (0 : Int) ≤ (f : Int) := by omega
        have f8 : (f : Int) ≤ 8 := by omega
        have n0 : ((n : Int) == 0) = false := by rw [beq_eq_false_iff_ne]; omega
        have g8 : (f : Int) + (n : Int) ≤ 8 := by omega
        have g0 : (0 : Int) ≤ (f : Int) + (n : Int) := by omega
        have HJ1' : Hid (∀ wq, Old wr wq → Hid (Calls Tryz.prog 69 #[.slice A f c, .string ⟨#[58]⟩, .int .i64 16] wq fun e w' => e = .returned (.string (str (jn (fst nm f)))) ∧ ∀ S, Keeps S wq w')) := Lib.hid (fun wq ho => Lib.hid (by
          have hj := joined_ wq 16 58 (fst nm f) A c ⟨#[58]⟩ rfl (fun x hx => hok x (by rw [← fst_take nm f hf8n] at hx; exact List.mem_of_mem_take hx)) (by omega) (by simp [fst]; omega) (fun k x hx => by
            rw [← fst_take nm f hf8n] at hx
            have hk : k < f := by
              have := (List.getElem?_eq_some_iff.1 hx).1
              rw [List.length_take] at this
              omega
            rw [List.getElem?_take_of_lt hk] at hx
            obtain ⟨g, o, h1, h2⟩ := hli k x hx
            exact ⟨g, o, h1, Keeps.cell ho h2 (fun z => z)⟩) (henv9.old ho)
          rw [jnb_jn, show (fst nm f).length = f from by simp [fst]] at hj
          exact hj))
        have HJ2' : Hid (∀ g, g ≤ 8 → ∀ wq, Old wr wq → Hid (Calls Tryz.prog 69 #[.slice (if c = g then A else Option.map (fun x => x.add g) A) (8 - g) (c - g), .string ⟨#[58]⟩, .int .i64 16] wq fun e w' => e = .returned (.string (str (jn (seg nm g (8 - g))))) ∧ ∀ S, Keeps S wq w')) := Lib.hid (fun g hg wq ho => Lib.hid (by
          have hsl : (seg nm g (8 - g)).length = 8 - g := by simp [seg]
          have hj := joined_ wq 16 58 (seg nm g (8 - g)) (if c = g then A else Option.map (fun x => x.add g) A) (c - g) ⟨#[58]⟩ rfl (fun x hx => hok x (by rw [← fst_drop nm g hg] at hx; exact List.mem_of_mem_drop hx)) (by omega) (by omega) (fun k x hx => by
            have hk : k < 8 - g := by
              have := (List.getElem?_eq_some_iff.1 hx).1
              omega
            rw [← fst_drop nm g hg, List.getElem?_drop] at hx
            obtain ⟨gb, o, h1, h2⟩ := hli (g + k) x hx
            rw [if_neg (by omega), h1]
            exact ⟨gb, o + g, by rw [Option.map_some, Addr.add_lit], by rw [Nat.add_assoc]; exact Keeps.cell ho h2 (fun z => z)⟩) (henv9.old ho)
          rw [jnb_jn, hsl] at hj
          exact hj))
        have HF := Lib.hid (And.intro f0 (And.intro f8 (And.intro g8 (And.intro g0 (And.intro hfc (And.intro hf8n hle))))))
        have HC8 := Lib.hid hc8
        clear hlr hlong hff hn hf ht hlt f0 f8 g8 g0 hfc hf8n hle hc8 hli hok henv9 hfl h4 k0 k4
        go_wp2_with fail
        refine HLR.out.mono ?_
        rintro e w9 ⟨rfl, rfl⟩
        go_wp2_with fail
        obtain ⟨f0, f8, g8, g0, hfc, hf8n, hle⟩ := HF.out
        obtain ⟨g, hg⟩ : ∃ g, g = f + n := ⟨_, rfl⟩
        have hfg : (f : Int) + (n : Int) = (g : Int) := by omega
        have hg8 : (g : Int) ≤ 8 := by omega
        have hg0 : (0 : Int) ≤ (g : Int) := by omega
        have hgn : g ≤ 8 := by omega
        obtain ⟨S1, hS1⟩ : ∃ S1, S1 = str (jn (fst nm f)) := ⟨_, rfl⟩
        have hz1 : S1.size ≤ 40 := by rw [hS1, str_size, ← jnb_jn]; have := jnb_len 16 58 (fst nm f); rw [show (fst nm f).length = f from by simp [fst]] at this; omega
        have hs1 : ¬ 9223372036854775807 < S1.size + 2 := by omega
        have HG := Lib.hid (And.intro hg (And.intro hS1 hz1))
        have hgw : IntKind.i64.wrap (g : Int) = (g : Int) := by rw [IntKind.wrap_i64]; omega
        obtain ⟨S3, hS3⟩ : ∃ S3, S3 = str (jn (seg nm g (8 - g))) := ⟨_, rfl⟩
        have hz3 : S3.size ≤ 40 := by rw [hS3, str_size, ← jnb_jn]; have := jnb_len 16 58 (seg nm g (8 - g)); rw [show (seg nm g (8 - g)).length = 8 - g from by simp [seg]] at this; omega
        have hs3 : ¬ 9223372036854775807 < S1.size + 2 + S3.size := by omega
        have HG3 := Lib.hid hS3
        have HJ2 := HJ2'.out g hgn
        rw [← hS3] at HJ2
        clear hS3 hz3
        have HJ1 := HJ1'.out
        rw [← hS1] at HJ1
        clear hg hS1 hz1 hle g8 g0 hf8n
        refine q_region (by kernel_rfl) (by kernel_rfl) (Old.refl wr) ?_
        --@0
        refine q_any (by kernel_rfl) ?_ (fun wq hC => ?_) ?_
        rotate_left
        · (go_simp) <;> (try (with_reducible rfl))
        try simp only [Act.put, Array.getInternal_eq_getElem, List.getElem_toArray, List.getElem_cons_zero, List.getElem_cons_succ, List.setIfInBounds_toArray, List.set_cons_zero, List.set_cons_succ]
        --@1
        refine q_any (by kernel_rfl) ?_ (fun wq hC => ?_) ?_
        rotate_left
        · (go_simp) <;> (try (with_reducible rfl))
        try simp only [Act.put, Array.getInternal_eq_getElem, List.getElem_toArray, List.getElem_cons_zero, List.getElem_cons_succ, List.setIfInBounds_toArray, List.set_cons_zero, List.set_cons_succ]
        --@2
        refine q_any (by kernel_rfl) ?_ (fun wq hC => ?_) ?_
        rotate_left
        · (go_simp) <;> (try (with_reducible rfl))
        try simp only [Act.put, Array.getInternal_eq_getElem, List.getElem_toArray, List.getElem_cons_zero, List.getElem_cons_succ, List.setIfInBounds_toArray, List.set_cons_zero, List.set_cons_succ]
        --@3
        refine q_call (by kernel_rfl) (fun wq hC => old_call hC (HJ1 wq hC).out) (fun wq => ?_) ?_
        · go_simp <;> (try (with_reducible rfl))
        try simp only [Act.put, Array.getInternal_eq_getElem, List.getElem_toArray, List.getElem_cons_zero, List.getElem_cons_succ, List.setIfInBounds_toArray, List.set_cons_zero, List.set_cons_succ]
        --@4
        refine q_any (by kernel_rfl) ?_ (fun wq hC => ?_) ?_
        rotate_left
        · (go_simp) <;> (try (with_reducible rfl))
        try simp only [Act.put, Array.getInternal_eq_getElem, List.getElem_toArray, List.getElem_cons_zero, List.getElem_cons_succ, List.setIfInBounds_toArray, List.set_cons_zero, List.set_cons_succ]
        --@5
        refine q_any (by kernel_rfl) ?_ (fun wq hC => ?_) ?_
        rotate_left
        · (go_simp) <;> (try (with_reducible rfl))
        try simp only [Act.put, Array.getInternal_eq_getElem, List.getElem_toArray, List.getElem_cons_zero, List.getElem_cons_succ, List.setIfInBounds_toArray, List.set_cons_zero, List.set_cons_succ]
        --@6
        refine q_any (by kernel_rfl) ?_ (fun wq hC => ?_) ?_
        rotate_left
        · (go_simp) <;> (try (with_reducible rfl))
        try simp only [Act.put, Array.getInternal_eq_getElem, List.getElem_toArray, List.getElem_cons_zero, List.getElem_cons_succ, List.setIfInBounds_toArray, List.set_cons_zero, List.set_cons_succ]
        --@7
        refine q_any (by kernel_rfl) ?_ (fun wq hC => ?_) ?_
        rotate_left
        · (go_simp) <;> (try (with_reducible rfl))
        try simp only [Act.put, Array.getInternal_eq_getElem, List.getElem_toArray, List.getElem_cons_zero, List.getElem_cons_succ, List.setIfInBounds_toArray, List.set_cons_zero, List.set_cons_succ]
        --@8
        refine q_any (by kernel_rfl) ?_ (fun wq hC => ?_) ?_
        rotate_left
        · (go_simp) <;> (try (with_reducible rfl))
        try simp only [Act.put, Array.getInternal_eq_getElem, List.getElem_toArray, List.getElem_cons_zero, List.getElem_cons_succ, List.setIfInBounds_toArray, List.set_cons_zero, List.set_cons_succ]
        --@9
        refine q_any (by kernel_rfl) ?_ (fun wq hC => ?_) ?_
        rotate_left
        · (go_simp) <;> (try (with_reducible rfl))
        try simp only [Act.put, Array.getInternal_eq_getElem, List.getElem_toArray, List.getElem_cons_zero, List.getElem_cons_succ, List.setIfInBounds_toArray, List.set_cons_zero, List.set_cons_succ]
        --@10
        refine q_call (by kernel_rfl) (fun wq hC => old_call hC (HJ2 wq hC).out) (fun wq => ?_) ?_
        · go_simp <;> (try (with_reducible rfl))
        try simp only [Act.put, Array.getInternal_eq_getElem, List.getElem_toArray, List.getElem_cons_zero, List.getElem_cons_succ, List.setIfInBounds_toArray, List.set_cons_zero, List.set_cons_succ]
        --@11
        refine q_any (by kernel_rfl) ?_ (fun wq hC => ?_) ?_
        rotate_left
        · (go_simp) <;> (try (with_reducible rfl))
        try simp only [Act.put, Array.getInternal_eq_getElem, List.getElem_toArray, List.getElem_cons_zero, List.getElem_cons_succ, List.setIfInBounds_toArray, List.set_cons_zero, List.set_cons_succ]
        --@12
        refine q_any (by kernel_rfl) ?_ (fun wq hC => ?_) ?_
        rotate_left
        · (go_simp) <;> (try (with_reducible rfl))
        try simp only [Act.put, Array.getInternal_eq_getElem, List.getElem_toArray, List.getElem_cons_zero, List.getElem_cons_succ, List.setIfInBounds_toArray, List.set_cons_zero, List.set_cons_succ]
        refine q_nil ?_
        intro wz kwz
        clear HJ1 HJ2
        have KZ : Hid (∀ S, Keeps S w wz) := Lib.hid (fun S => (KT.out S).trans (kwz.all S))
        clear kwz hs1 hs3 hfg hg8 hg0 hgn hgw f0 f8 hfc n0 HJ1' HJ2'
        generalize (if c = g then A else Option.map (fun x => x.add g) A) = A2
        go_wp2
        go_ret
        exact ⟨by rw [HT6.out, ← HG.out.1, ← str_append, ← str_append, ← HG.out.2.1, ← HG3.out]; rfl, KZ.out⟩
      · rw [if_neg hlong] at hlr
        have hj := joined_ wr 16 58 (fst nm 8) A c (str [58]) rfl hok (by omega) (by omega) hli henv9
        rw [jnb_jn, hfl] at hj
        have HT6 := Lib.hid (t6_short nm hlong)
        have HJ := Lib.hid hj
        have HLR := Lib.hid hlr
        clear hj hlr hok henv9 hli hf ht hlt hfl hlong
        generalize hT : jn (fst nm 8) = T at *
        have HTT := Lib.hid hT
        clear hT
        go_wp2_with fail
        refine HLR.out.mono ?_
        rintro e w9 ⟨rfl, rfl⟩
        go_wp2_with fail
        refine HJ.out.mono ?_
        rintro e w9 ⟨rfl, k9⟩
        have K9 : Hid (∀ S, Keeps S w w9) := Lib.hid (fun S => (KT.out S).trans (k9 S))
        clear k9
        go_wp2
        go_ret
        exact ⟨by rw [HT6.out]; rfl, K9.out⟩

end
end Go.Proofs.YtgcdhfpbmcfedaaGreatDoor.pf
end
section
set_option linter.unusedVariables false
set_option linter.unusedSimpArgs false
namespace Go.Proofs.YtgcdhfpbmcfedaaGreatDoor.pf
open Go.RowKit Go.Proofs.YtgcdhfpbmcfedaaGreatDoor.oc Go.Proofs.YtgcdhfpbmcfedaaGreatDoor.mz Go.Proofs.YtgcdhfpbmcfedaaGreatDoor.wh Go.Proofs.YtgcdhfpbmcfedaaGreatDoor.qk
section
variable (w : World)

set_option maxRecDepth 100000 in
set_option maxHeartbeats 4000000 in
theorem paddrtext_bad (a : Ad) (ha : a.Wf) (henv : Env w) (ho : ¬ okA a) : Calls Tryz.prog 27 #[av a] w fun e w' => e = .returned (.tuple #[.string (str []), .int .i64 150]) ∧ ∀ S, Keeps S w w' := by
  obtain ⟨w1, hw1, k1, b1⟩ := enter_blk w (adc a).toArray 24
  have HCA := Lib.hid (pcheckaddr_ w1 a ha)
  have HSA := Lib.hid (ad_sz ha)
  have HB1 := Lib.hid (wh.Blk.range b1)
  have BL := Lib.hid b1
  have HE := Lib.hid henv
  have HA := Lib.hid ha
  have HW := Lib.hid hw1
  have K1 := Lib.hid k1
  rw [errA_no ho] at HCA
  unfold av at HCA
  unfold av
  clear hw1 k1 b1 ha henv ho HA
  generalize adc a = C at *
  go_enter Tryz.func27, Tryz.ntmps27
  go_wp2_with (first | (rw [← HW.out]; refine wpList_load_mid rfl 24 _ rfl w.heap.size 0 rfl C _ HB1.out Tryz.underlying24 rfl HSA.out ?_))
  refine HCA.out.mono ?_
  rintro e w2 ⟨rfl, k2⟩
  have K2 : Hid (∀ S, Keeps S w w2) := Lib.hid (fun S => (K1.out S).trans (k2 S))
  clear k2
  go_wp2
  go_ret2
  exact ⟨rfl, K2.out⟩

set_option maxRecDepth 100000 in
set_option maxHeartbeats 4000000 in
theorem paddrtext_four (a : Ad) (ha : a.Wf) (henv : Env w) (ho : okA a) (h6 : a.v6 = false) : Calls Tryz.prog 27 #[av a] w fun e w' => e = .returned (.tuple #[.string (str (atext a)), .int .i64 0]) ∧ ∀ S, Keeps S w w' := by
  obtain ⟨w1, hw1, k1, b1⟩ := enter_blk w (adc a).toArray 24
  have HCA := Lib.hid (pcheckaddr_ w1 a ha)
  have HSA := Lib.hid (ad_sz ha)
  have HB1 := Lib.hid (wh.Blk.range b1)
  have BL := Lib.hid b1
  have HE := Lib.hid henv
  have HA := Lib.hid ha
  have HW := Lib.hid hw1
  have K1 := Lib.hid k1
  rw [errA_ok ho] at HCA
  have HV : ∀ w', Blk w' w.heap.size 24 (adc a) → w'.cell? ⟨w.heap.size, 0, none⟩ = some (.bool false) := fun w' h => by have := ad_v6 h; rw [h6] at this; exact this
  have HT := fun w (h : Env w) => Lib.hid (fourtext_ w a ha h)
  have HAT := Lib.hid (show atext a = t4 a from by unfold atext; rw [h6]; rfl)
  rw [HAT.out]
  unfold av at HT HCA
  unfold av
  clear hw1 k1 b1 ha henv ho HA
  generalize adc a = C at *
  generalize hT : t4 a = T at *
  have HTT := Lib.hid hT
  clear hT HAT
  generalize a.v6 = v6 at *
  go_enter Tryz.func27, Tryz.ntmps27
  go_wp2_with (first | (rw [← HW.out]; refine wpList_load_mid rfl 24 _ rfl w.heap.size 0 rfl C _ HB1.out Tryz.underlying24 rfl HSA.out ?_))
  refine HCA.out.mono ?_
  rintro e w2 ⟨rfl, k2⟩
  have K2 : Hid (∀ S, Keeps S w w2) := Lib.hid (fun S => (K1.out S).trans (k2 S))
  have b2 := Blk.keeps BL.out (k2 (fun _ => False)) (fun z => z)
  have HB2 := Lib.hid (wh.Blk.range b2)
  have x6 : w2.cell? ⟨w.heap.size, 0, none⟩ = some (.bool false) := by
    have := HV w2 b2
    exact this
  have HT2 := Lib.hid (HT w2 (HE.out.keeps K2.out)).out
  clear k2 b2 HT
  go_wp2_with (refine wpList_load_mid rfl 24 _ rfl w.heap.size 0 rfl C _ HB2.out Tryz.underlying24 rfl HSA.out ?_)
  refine HT2.out.mono ?_
  rintro e w3 ⟨rfl, k3⟩
  have K3 : Hid (∀ S, Keeps S w w3) := Lib.hid (fun S => (K2.out S).trans (k3 S))
  clear k3 x6
  go_wp2
  go_ret2
  exact ⟨rfl, K3.out⟩

set_option maxRecDepth 100000 in
set_option maxHeartbeats 4000000 in
theorem paddrtext_six (a : Ad) (ha : a.Wf) (henv : Env w) (ho : okA a) (h6 : a.v6 = true) : Calls Tryz.prog 27 #[av a] w fun e w' => e = .returned (.tuple #[.string (str (atext a)), .int .i64 0]) ∧ ∀ S, Keeps S w w' := by
  obtain ⟨w1, hw1, k1, b1⟩ := enter_blk w (adc a).toArray 24
  have HCA := Lib.hid (pcheckaddr_ w1 a ha)
  have HSA := Lib.hid (ad_sz ha)
  have HB1 := Lib.hid (wh.Blk.range b1)
  have BL := Lib.hid b1
  have HE := Lib.hid henv
  have HA := Lib.hid ha
  have HW := Lib.hid hw1
  have K1 := Lib.hid k1
  rw [errA_ok ho] at HCA
  have HV : ∀ w', Blk w' w.heap.size 24 (adc a) → w'.cell? ⟨w.heap.size, 0, none⟩ = some (.bool true) := fun w' h => by have := ad_v6 h; rw [h6] at this; exact this
  have HT := fun w (h : Env w) => Lib.hid (sixtext_ w a ha h)
  have HAT := Lib.hid (show atext a = t6 (pf.num a) from by unfold atext; rw [h6]; rfl)
  rw [HAT.out]
  unfold av at HT HCA
  unfold av
  clear hw1 k1 b1 ha henv ho HA
  generalize adc a = C at *
  generalize hT : t6 (pf.num a) = T at *
  have HTT := Lib.hid hT
  clear hT HAT
  generalize a.v6 = v6 at *
  go_enter Tryz.func27, Tryz.ntmps27
  go_wp2_with (first | (rw [← HW.out]; refine wpList_load_mid rfl 24 _ rfl w.heap.size 0 rfl C _ HB1.out Tryz.underlying24 rfl HSA.out ?_))
  refine HCA.out.mono ?_
  rintro e w2 ⟨rfl, k2⟩
  have K2 : Hid (∀ S, Keeps S w w2) := Lib.hid (fun S => (K1.out S).trans (k2 S))
  have b2 := Blk.keeps BL.out (k2 (fun _ => False)) (fun z => z)
  have HB2 := Lib.hid (wh.Blk.range b2)
  have x6 : w2.cell? ⟨w.heap.size, 0, none⟩ = some (.bool true) := by
    have := HV w2 b2
    exact this
  have HT2 := Lib.hid (HT w2 (HE.out.keeps K2.out)).out
  clear k2 b2 HT
  go_wp2_with (refine wpList_load_mid rfl 24 _ rfl w.heap.size 0 rfl C _ HB2.out Tryz.underlying24 rfl HSA.out ?_)
  refine HT2.out.mono ?_
  rintro e w3 ⟨rfl, k3⟩
  have K3 : Hid (∀ S, Keeps S w w3) := Lib.hid (fun S => (K2.out S).trans (k3 S))
  clear k3 x6
  go_wp2
  go_ret2
  exact ⟨rfl, K3.out⟩

theorem paddrtext_ok (a : Ad) (ha : a.Wf) (henv : Env w) (ho : okA a) : Calls Tryz.prog 27 #[av a] w fun e w' => e = .returned (.tuple #[.string (str (atext a)), .int .i64 0]) ∧ ∀ S, Keeps S w w' := by
  cases h6 : a.v6 with
  | true => exact paddrtext_six w a ha henv ho h6
  | false => exact paddrtext_four w a ha henv ho h6

set_option maxRecDepth 100000 in
set_option maxHeartbeats 4000000 in
theorem ptext_no (p : Px) (hp : p.a.Wf) (henv : Env w) (ho : ¬ okP p) : Calls Tryz.prog 29 #[pv p] w fun e w' => e = .returned (.tuple #[.string (str []), .int .i64 151]) ∧ ∀ S, Keeps S w w' := by
  obtain ⟨w1, hw1, k1, b1⟩ := enter_blk w (pxc p).toArray 28
  have HCP := Lib.hid (pcheck_ w1 p hp)
  have HSP := Lib.hid (px_sz hp)
  have HSA := Lib.hid (ad_sz hp)
  have HB1 := Lib.hid (wh.Blk.range b1)
  have BL := Lib.hid b1
  have HE := Lib.hid henv
  have HW := Lib.hid hw1
  have K1 := Lib.hid k1
  rw [errP_no ho] at HCP
  unfold pv at HCP
  unfold pv
  clear hw1 k1 b1 hp henv ho
  generalize pxc p = CP at *
  go_enter Tryz.func29, Tryz.ntmps29
  go_wp2_with (first | (rw [← HW.out]; refine wpList_load_mid rfl 28 _ rfl w.heap.size 0 rfl CP _ HB1.out Tryz.underlying28 rfl HSP.out ?_))
  refine HCP.out.mono ?_
  rintro e w2 ⟨rfl, k2⟩
  have K2 : Hid (∀ S, Keeps S w w2) := Lib.hid (fun S => (K1.out S).trans (k2 S))
  clear k2
  go_wp2
  go_ret2
  exact ⟨rfl, K2.out⟩

set_option maxRecDepth 100000 in
set_option maxHeartbeats 4000000 in
theorem ptext_ok (p : Px) (hp : p.a.Wf) (henv : Env w) (ho : okP p) : Calls Tryz.prog 29 #[pv p] w fun e w' => e = .returned (.tuple #[.string (str (ptext p)), .int .i64 0]) ∧ ∀ S, Keeps S w w' := by
  obtain ⟨w1, hw1, k1, b1⟩ := enter_blk w (pxc p).toArray 28
  have HCP := Lib.hid (pcheck_ w1 p hp)
  have HSP := Lib.hid (px_sz hp)
  have HSA := Lib.hid (ad_sz hp)
  have HB1 := Lib.hid (wh.Blk.range b1)
  have BL := Lib.hid b1
  have HE := Lib.hid henv
  have HW := Lib.hid hw1
  have K1 := Lib.hid k1
  rw [errP_ok ho] at HCP
  obtain ⟨n, hn, hn2, hn3, hn4⟩ := okP_nat ho
  have HT := fun w (h : Env w) => Lib.hid (paddrtext_ok w p.a hp h ho.1)
  have HI := fun w (h : Env w) => Lib.hid (itoa_ w n hn4 h)
  have HF : ∀ w', Blk w' w.heap.size 28 (pxc p) → w'.rangeAt w.heap.size 0 (adc p.a) ∧ w'.cell? ⟨w.heap.size, 17, none⟩ = some (.int .i64 (n : Int)) := fun w' h => ⟨px_addr hp h, by rw [← hn]; exact px_bits hp h⟩
  have HPT := Lib.hid (show ptext p = atext p.a ++ 47 :: dec n from by unfold ptext; rw [hn2])
  rw [HPT.out]
  have hz1 : (str (atext p.a)).size ≤ 56 := by rw [str_size]; exact atext_len p.a
  have hz2 : (str (dec n)).size ≤ 3 := by rw [str_size]; exact dg_len 10 3 n
  obtain ⟨S1, hS1⟩ : ∃ S1, S1 = str (atext p.a) := ⟨_, rfl⟩
  obtain ⟨S2, hS2⟩ : ∃ S2, S2 = str (dec n) := ⟨_, rfl⟩
  have HS := Lib.hid (show S1 ++ ⟨#[47]⟩ ++ S2 = str (atext p.a ++ 47 :: dec n) from by
    rw [hS1, hS2, show (⟨#[47]⟩ : ByteArray) = str [47] from rfl, str_append, str_append]; simp)
  rw [← HS.out]
  rw [← hS1] at hz1 HT
  rw [← hS2] at hz2 HI
  have hs1 : ¬ 9223372036854775807 < S1.size + 1 := by omega
  have hs2 : ¬ 9223372036854775807 < S1.size + 1 + S2.size := by omega
  have HZ := Lib.hid (And.intro hs1 hs2)
  clear hz1 hz2 hS1 hS2 HS HPT hn hn2 hn3 hn4 hs1 hs2
  unfold av at HT
  generalize adc p.a = C at *
  unfold pv at HCP
  unfold pv
  clear hw1 k1 b1 hp henv ho
  generalize pxc p = CP at *
  go_enter Tryz.func29, Tryz.ntmps29
  go_wp2_with (first | (rw [← HW.out]; refine wpList_load_mid rfl 28 _ rfl w.heap.size 0 rfl CP _ HB1.out Tryz.underlying28 rfl HSP.out ?_))
  refine HCP.out.mono ?_
  rintro e w2 ⟨rfl, k2⟩
  have K2 : Hid (∀ S, Keeps S w w2) := Lib.hid (fun S => (K1.out S).trans (k2 S))
  have b2 := Blk.keeps BL.out (k2 (fun _ => False)) (fun z => z)
  have HB2 := Lib.hid (HF w2 b2)
  have HT2 := Lib.hid (HT w2 (HE.out.keeps K2.out)).out
  have BL2 := Lib.hid b2
  clear k2 b2 HT
  go_wp2_with (refine wpList_load_mid rfl 24 _ rfl w.heap.size 0 rfl C _ HB2.out.1 Tryz.underlying24 rfl HSA.out ?_)
  refine HT2.out.mono ?_
  rintro e w3 ⟨rfl, k3⟩
  have b3 := Blk.keeps BL2.out (k3 (fun _ => False)) (fun z => z)
  have x17 := (HF w3 b3).2
  have K3 : Hid (∀ S, Keeps S w w3) := Lib.hid (fun S => (K2.out S).trans (k3 S))
  have HI3 := Lib.hid (HI w3 (HE.out.keeps K3.out)).out
  clear k3 b3 HI HF
  obtain ⟨hs1, hs2⟩ := HZ.out
  go_wp2_with fail
  refine HI3.out.mono ?_
  rintro e w4 ⟨rfl, k4⟩
  have K4 : Hid (∀ S, Keeps S w w4) := Lib.hid (fun S => (K3.out S).trans (k4 S))
  clear k4 x17
  go_wp2
  go_ret2
  exact ⟨rfl, K4.out⟩

theorem ptext_ (p : Px) (hp : p.a.Wf) (henv : Env w) : Calls Tryz.prog 29 #[pv p] w fun e w' => ((okP p ∧ e = .returned (.tuple #[.string (str (ptext p)), .int .i64 0])) ∨ (¬ okP p ∧ e = .returned (.tuple #[.string (str []), .int .i64 151]))) ∧ ∀ S, Keeps S w w' := by
  by_cases ho : okP p
  · exact (ptext_ok w p hp henv ho).mono fun e w' h => ⟨.inl ⟨ho, h.1⟩, h.2⟩
  · exact (ptext_no w p hp henv ho).mono fun e w' h => ⟨.inr ⟨ho, h.1⟩, h.2⟩
theorem paddrtext_ (a : Ad) (ha : a.Wf) (henv : Env w) : Calls Tryz.prog 27 #[av a] w fun e w' => (okA a ∧ e = .returned (.tuple #[.string (str (atext a)), .int .i64 0]) ∨ ¬ okA a ∧ e = .returned (.tuple #[.string (str []), .int .i64 150])) ∧ ∀ S, Keeps S w w' := by
  by_cases ho : okA a
  · exact (paddrtext_ok w a ha henv ho).mono fun e w' h => ⟨.inl ⟨ho, h.1⟩, h.2⟩
  · exact (paddrtext_bad w a ha henv ho).mono fun e w' h => ⟨.inr ⟨ho, h.1⟩, h.2⟩
end
end Go.Proofs.YtgcdhfpbmcfedaaGreatDoor.pf
end
section
set_option linter.unusedVariables false
set_option linter.unusedSimpArgs false
namespace Go.Proofs.YtgcdhfpbmcfedaaGreatDoor.pf
open Go.RowKit Go.Shelf Go.Proofs.YtgcdhfpbmcfedaaGreatDoor.oc Go.Proofs.YtgcdhfpbmcfedaaGreatDoor.mz Go.Proofs.YtgcdhfpbmcfedaaGreatDoor.wh Go.Proofs.YtgcdhfpbmcfedaaGreatDoor.qk
theorem LsAns.to {r : Option Ad} {e : Ending} (h : LsAns r e) : e = .returned (.tuple #[av (r.getD zeroA), .bool r.isSome]) := by
  cases r with
  | none => exact h
  | some a => exact h
theorem LsAns.back {r : Option Ad} {e : Ending} (h : e = .returned (.tuple #[av (r.getD zeroA), .bool r.isSome])) : LsAns r e := by
  cases r with
  | none => exact h
  | some a => exact h
theorem lfour_wf0 (l : List Nat) : ((lfour l).getD zeroA).Wf := by
  cases h : lfour l with
  | none => exact zeroA_wf
  | some a => exact (lfour_wf h).1
theorem lsix_wf0 (l : List Nat) : ((lsix l).getD zeroA).Wf := by
  cases h : lsix l with
  | none => exact zeroA_wf
  | some a => exact lsix_wf h
theorem ix_mem (c : Nat) : ∀ l : List Nat, (match ix c l with | some i => (0 : Int) ≤ (i : Int) | none => False) ↔ c ∈ l
  | [] => by simp [ix]
  | x :: r => by
    have ih := ix_mem c r
    rw [ix]
    by_cases hx : x = c
    · simp [hx]
    · have hx' : ¬ c = x := fun e => hx e.symm
      simp only [hx, if_false, List.mem_cons, hx', false_or]
      cases h : ix c r with
      | none => rw [h] at ih; simpa using ih
      | some i => rw [h] at ih; simp at ih ⊢; first | exact ih | (exact (iff_of_true (by omega) ih))
theorem colon_in (l : List Nat) (h : ∀ x ∈ l, x < 256) : decide (0 ≤ Lib.indexByte (str l).data.toList 58) = decide (58 ∈ l) := by
  rw [str_list8, show (58 : UInt8) = UInt8.ofNat 58 from rfl, ix_lib 58 (by omega) l h]
  have := ix_mem 58 l
  cases hi : ix 58 l with
  | none => rw [hi] at this; simp at this; simp [this]
  | some i => rw [hi] at this; simp at this ⊢; exact this
section
variable (w : World)
theorem contains_ (l : List Nat) (h : ∀ x ∈ l, x < 256) : Calls Tryz.prog 71 #[.string (str l), .string ⟨#[58]⟩] w fun e w' => e = .returned (.bool (decide (58 ∈ l))) ∧ w' = w := by
  have := Tryz.strings_Contains_one (str l) 58 w
  rw [colon_in l h] at this
  exact this

set_option maxRecDepth 100000 in
set_option maxHeartbeats 4000000 in
theorem looseaddr_long (l : List Nat) (hl : ∀ x ∈ l, x < 256) (hn : l.length < 140737488355328) (henv : Env w) (hc : 39 < l.length) :
    Calls Tryz.prog 55 #[.string (str l)] w fun e w' => LsAns (loose l) e ∧ ∀ S, Keeps S w w' := by
  obtain ⟨w1, hw1, B1, K1⟩ := new_zero w
  have HW := Lib.hid hw1
  have KK1 : Hid (∀ S, Keeps S w w1) := Lib.hid K1
  have BR1 := Lib.hid B1
  have hsz : ((str l).size : Int) = (l.length : Int) := by rw [str_size]
  have hlt : 39 < (l.length : Int) := by omega
  have hz := over_ad zeroA_wf B1 rfl
  rw [zeroA_cells] at hz
  have HZ := Lib.hid hz
  have KZ : Hid (∀ S, Keeps S w (w1.setCells w.heap.size 0 [.bool false, .int .u8 0, .int .u8 0, .int .u8 0, .int .u8 0, .int .u8 0, .int .u8 0, .int .u8 0, .int .u8 0, .int .u8 0, .int .u8 0, .int .u8 0, .int .u8 0, .int .u8 0, .int .u8 0, .int .u8 0, .int .u8 0])) := Lib.hid (fun S => by
    have kk := K1 S
    have k9 := hz.2.2.2.2
    exact ⟨Nat.le_trans kk.size k9.size, fun x hx hs => by rw [k9.block x (Nat.lt_of_lt_of_le hx kk.size) (by omega), kk.block x hx hs], kk.same.trans k9.same⟩)
  rw [show loose l = none from by unfold loose; rw [if_pos hc]]
  generalize str l = s at *
  clear hw1 K1 B1 hl henv hz
  go_enter Tryz.func55, Tryz.ntmps55
  go_wp2_with (first | (rw [← HW.out]; refine wpList_store_mid rfl 24 _ _ rfl w.heap.size 0 #[.bool false, .int .u8 0, .int .u8 0, .int .u8 0, .int .u8 0, .int .u8 0, .int .u8 0, .int .u8 0, .int .u8 0, .int .u8 0, .int .u8 0, .int .u8 0, .int .u8 0, .int .u8 0, .int .u8 0, .int .u8 0, .int .u8 0] rfl rfl HZ.out.1 HZ.out.2.1 HZ.out.2.2.1 ?_) | (refine wpList_store_mid rfl 24 _ _ rfl w.heap.size 0 #[.bool false, .int .u8 0, .int .u8 0, .int .u8 0, .int .u8 0, .int .u8 0, .int .u8 0, .int .u8 0, .int .u8 0, .int .u8 0, .int .u8 0, .int .u8 0, .int .u8 0, .int .u8 0, .int .u8 0, .int .u8 0, .int .u8 0] rfl rfl HZ.out.1 HZ.out.2.1 HZ.out.2.2.1 ?_))
  try rw [Exit.noGoto_ret]
  refine bodyPost_ret (wh.ret_cell (p := 2) (u := 3) (ty := 24) (by kernel_rfl) _ _ _ w.heap.size _ _ _ (by rfl) HZ.out.2.2.2.1 Tryz.underlying24 rfl addr_info) rfl ?_
  exact ⟨rfl, KZ.out⟩

set_option maxRecDepth 100000 in
set_option maxHeartbeats 4000000 in
theorem looseaddr_six (l : List Nat) (hl : ∀ x ∈ l, x < 256) (hn : l.length < 140737488355328) (henv : Env w) (hn1 : ¬ 39 < l.length) (hc : 58 ∈ l) :
    Calls Tryz.prog 55 #[.string (str l)] w fun e w' => LsAns (loose l) e ∧ ∀ S, Keeps S w w' := by
  obtain ⟨w1, hw1, B1, K1⟩ := new_zero w
  have HW := Lib.hid hw1
  have KK1 : Hid (∀ S, Keeps S w w1) := Lib.hid K1
  have BR1 := Lib.hid B1
  have hsz : ((str l).size : Int) = (l.length : Int) := by rw [str_size]
  have hlt : ¬ 39 < (l.length : Int) := by omega
  have HC := fun w => Lib.hid (contains_ w l hl)
  rw [decide_eq_true hc] at HC
  have HS := fun w (h : Env w) => Lib.hid (loosesix_ w l hl (by omega) h)
  have hwf := lsix_wf0 l
  rw [show loose l = lsix l from by unfold loose; rw [if_neg hn1, if_pos hc]]
  have HE := Lib.hid henv
  generalize lsix l = r at *
  obtain ⟨c, hcc⟩ : ∃ c, c = r.getD zeroA := ⟨_, rfl⟩
  have HCC := Lib.hid hcc
  rw [← hcc] at hwf
  have HWF := Lib.hid hwf
  generalize str l = s at *
  clear hw1 K1 B1 hl henv hn1 hcc hwf
  go_enter Tryz.func55, Tryz.ntmps55
  go_wp2_with fail
  rw [← HW.out]
  refine (HC _).out.mono ?_
  rintro e w2 ⟨rfl, rfl⟩
  have HQ := Lib.hid (HS w2 (HE.out.keeps KK1.out)).out
  clear HC HS
  go_wp2_with fail
  refine HQ.out.mono ?_
  rintro e w3 ⟨hans, k3⟩
  have hans := hans.to
  rw [← HCC.out] at hans
  subst hans
  have BR3 := Blk.keeps BR1.out (k3 (fun _ => False)) (fun z => z)
  have hz := over_ad HWF.out BR3 rfl
  have HSZ := Lib.hid (ad_sz HWF.out)
  have HAV := Lib.hid (show av c = .agg (adc c).toArray from rfl)
  rw [HAV.out]
  generalize adc c = C at *
  have HZ := Lib.hid hz
  have KZ : Hid (∀ S, Keeps S w (w3.setCells w.heap.size 0 C)) := Lib.hid (fun S => by
    have kk := (KK1.out S).trans (k3 S)
    have k9 := hz.2.2.2.2
    exact ⟨Nat.le_trans kk.size k9.size, fun x hx hs => by rw [k9.block x (Nat.lt_of_lt_of_le hx kk.size) (by omega), kk.block x hx hs], kk.same.trans k9.same⟩)
  clear hz BR3 k3 HQ
  go_wp2_with (refine wpList_store_mid rfl 24 _ _ rfl w.heap.size 0 C.toArray rfl rfl HZ.out.1 HZ.out.2.1 HZ.out.2.2.1 ?_)
  try rw [Exit.noGoto_ret]
  refine bodyPost_ret (wh.ret_cell (p := 2) (u := 3) (ty := 24) (by kernel_rfl) _ _ _ w.heap.size _ _ _ (by rfl) HZ.out.2.2.2.1 Tryz.underlying24 rfl HSZ.out) rfl ?_
  exact ⟨LsAns.back (by rw [← HCC.out, HAV.out]; rfl), KZ.out⟩

set_option maxRecDepth 100000 in
set_option maxHeartbeats 4000000 in
theorem looseaddr_four (l : List Nat) (hl : ∀ x ∈ l, x < 256) (hn : l.length < 140737488355328) (henv : Env w) (hn1 : ¬ 39 < l.length) (hc : ¬ 58 ∈ l) :
    Calls Tryz.prog 55 #[.string (str l)] w fun e w' => LsAns (loose l) e ∧ ∀ S, Keeps S w w' := by
  obtain ⟨w1, hw1, B1, K1⟩ := new_zero w
  have HW := Lib.hid hw1
  have KK1 : Hid (∀ S, Keeps S w w1) := Lib.hid K1
  have BR1 := Lib.hid B1
  have hsz : ((str l).size : Int) = (l.length : Int) := by rw [str_size]
  have hlt : ¬ 39 < (l.length : Int) := by omega
  have HC := fun w => Lib.hid (contains_ w l hl)
  rw [decide_eq_false hc] at HC
  have HS := fun w (h : Env w) => Lib.hid (loosefour_ w l hl (by omega) h)
  have hwf := lfour_wf0 l
  rw [show loose l = lfour l from by unfold loose; rw [if_neg hn1, if_neg hc]]
  have HE := Lib.hid henv
  generalize lfour l = r at *
  obtain ⟨c, hcc⟩ : ∃ c, c = r.getD zeroA := ⟨_, rfl⟩
  have HCC := Lib.hid hcc
  rw [← hcc] at hwf
  have HWF := Lib.hid hwf
  generalize str l = s at *
  clear hw1 K1 B1 hl henv hn1 hcc hwf
  go_enter Tryz.func55, Tryz.ntmps55
  go_wp2_with fail
  rw [← HW.out]
  refine (HC _).out.mono ?_
  rintro e w2 ⟨rfl, rfl⟩
  have HQ := Lib.hid (HS w2 (HE.out.keeps KK1.out)).out
  clear HC HS
  go_wp2_with fail
  refine HQ.out.mono ?_
  rintro e w3 ⟨hans, k3⟩
  have hans := hans.to
  rw [← HCC.out] at hans
  subst hans
  have BR3 := Blk.keeps BR1.out (k3 (fun _ => False)) (fun z => z)
  have hz := over_ad HWF.out BR3 rfl
  have HSZ := Lib.hid (ad_sz HWF.out)
  have HAV := Lib.hid (show av c = .agg (adc c).toArray from rfl)
  rw [HAV.out]
  generalize adc c = C at *
  have HZ := Lib.hid hz
  have KZ : Hid (∀ S, Keeps S w (w3.setCells w.heap.size 0 C)) := Lib.hid (fun S => by
    have kk := (KK1.out S).trans (k3 S)
    have k9 := hz.2.2.2.2
    exact ⟨Nat.le_trans kk.size k9.size, fun x hx hs => by rw [k9.block x (Nat.lt_of_lt_of_le hx kk.size) (by omega), kk.block x hx hs], kk.same.trans k9.same⟩)
  clear hz BR3 k3 HQ
  go_wp2_with (refine wpList_store_mid rfl 24 _ _ rfl w.heap.size 0 C.toArray rfl rfl HZ.out.1 HZ.out.2.1 HZ.out.2.2.1 ?_)
  try rw [Exit.noGoto_ret]
  refine bodyPost_ret (wh.ret_cell (p := 2) (u := 3) (ty := 24) (by kernel_rfl) _ _ _ w.heap.size _ _ _ (by rfl) HZ.out.2.2.2.1 Tryz.underlying24 rfl HSZ.out) rfl ?_
  exact ⟨LsAns.back (by rw [← HCC.out, HAV.out]; rfl), KZ.out⟩

theorem looseaddr_ (l : List Nat) (hl : ∀ x ∈ l, x < 256) (hn : l.length < 140737488355328) (henv : Env w) :
    Calls Tryz.prog 55 #[.string (str l)] w fun e w' => LsAns (loose l) e ∧ ∀ S, Keeps S w w' := by
  by_cases h1 : 39 < l.length
  · exact looseaddr_long w l hl hn henv h1
  · by_cases h2 : 58 ∈ l
    · exact looseaddr_six w l hl hn henv h1 h2
    · exact looseaddr_four w l hl hn henv h1 h2

end
end Go.Proofs.YtgcdhfpbmcfedaaGreatDoor.pf
end
section
set_option linter.unusedVariables false
set_option linter.unusedSimpArgs false
namespace Go.Proofs.YtgcdhfpbmcfedaaGreatDoor.pf
open Go.RowKit Go.Shelf Go.Proofs.YtgcdhfpbmcfedaaGreatDoor.oc Go.Proofs.YtgcdhfpbmcfedaaGreatDoor.mz Go.Proofs.YtgcdhfpbmcfedaaGreatDoor.wh Go.Proofs.YtgcdhfpbmcfedaaGreatDoor.qk
theorem IsText.loose {l : List Nat} {a : Ad} (h : IsText l a) : pf.loose l = some a := by rw [← h.2.2]; exact loose_text h.1 h.2.1
theorem glue_all {w w5 w6 : World} {P : Nat} (hP : w.heap.size ≤ P) (k : ∀ S, Keeps S w w5) (k9 : Keeps (· = P) w5 w6) : ∀ S, Keeps S w w6 := fun S => by
  have kk := k S
  exact ⟨Nat.le_trans kk.size k9.size, fun x hx hs => by rw [k9.block x (Nat.lt_of_lt_of_le hx kk.size) (by omega), kk.block x hx hs], kk.same.trans k9.same⟩
section
variable (w : World)

set_option maxRecDepth 100000 in
set_option maxHeartbeats 4000000 in
theorem preadaddr_none (l : List Nat) (hl : ∀ x ∈ l, x < 256) (hn : l.length < 140737488355328) (henv : Env w) (hlo : loose l = none) :
    Calls Tryz.prog 32 #[.string (str l)] w fun e w' => RdA l e ∧ ∀ S, Keeps S w w' := by
  obtain ⟨w1, hw1, B1, K1⟩ := new_zero w
  have HLS := Lib.hid (looseaddr_ w1 l hl hn (henv.keeps K1))
  rw [hlo] at HLS
  have HW := Lib.hid hw1
  have KK1 : Hid (∀ S, Keeps S w w1) := Lib.hid K1
  have BR1 := Lib.hid B1
  have HE := Lib.hid henv
  have HB : Hid (∀ x ∈ l, x < 256) := Lib.hid hl
  have HWF := Lib.hid zeroA_wf
  have HLO := Lib.hid hlo
  obtain ⟨s, hs⟩ : ∃ s, s = str l := ⟨_, rfl⟩
  have HS := Lib.hid hs
  rw [← hs] at HLS ⊢
  clear hw1 K1 B1 hl hn henv hlo hs
  go_enter Tryz.func32, Tryz.ntmps32
  go_wp2_with fail
  rw [← HW.out]
  refine HLS.out.mono ?_
  rintro e w2 ⟨hans, k2⟩
  have hans : e = .returned (.tuple #[av zeroA, .bool false]) := hans
  subst hans
  have K2 : Hid (∀ S, Keeps S w w2) := Lib.hid (fun S => (KK1.out S).trans (k2 S))
  have BR2 := Lib.hid (Blk.keeps BR1.out (k2 (fun _ => False)) (fun z => z))
  have HPQ := Lib.hid (show w.heap.size < w2.heap.size from BR2.out.lt)
  clear k2 HLS
  obtain ⟨w3, hw3, B3, K3⟩ := new_zero w2
  obtain ⟨o1, o2, o3, o5, o6⟩ := over_ad HWF.out B3 rfl
  obtain ⟨w4, hw4⟩ : ∃ w4, w4 = w3.setCells w2.heap.size 0 (adc zeroA) := ⟨_, rfl⟩
  rw [← hw4] at o5 o6
  have BR4 := Lib.hid (Blk.keeps (Blk.keeps BR2.out (K3 (fun _ => False)) (fun z => z)) o6 (by have := HPQ.out; omega))
  have K4 : Hid (∀ S, Keeps S w w4) := Lib.hid (glue_all (Nat.le_of_lt HPQ.out) (fun S => (K2.out S).trans (K3 S)) o6)
  have HT := Lib.hid (And.intro o1 (And.intro o2 o3))
  have BQ := Lib.hid o5
  have HW4 := Lib.hid hw4
  have HSX := Lib.hid (ad_sz HWF.out)
  have HLQ := Lib.hid (Blk.range BQ.out)
  unfold av
  subst hw3
  clear o1 o2 o3 o5 o6 B3 K3 hw4
  have hcl : (adc zeroA).length = 17 := rfl
  generalize adc zeroA = C at *
  have HNO : Hid (∀ a, ¬ IsText l a) := Lib.hid (fun a ha => by have := ha.loose; rw [HLO.out] at this; cases this)
  have hz := over_ad zeroA_wf BR4.out hcl
  rw [zeroA_cells] at hz
  have HZ := Lib.hid hz
  have KZ := Lib.hid (glue_all (Nat.le_refl _) K4.out hz.2.2.2.2)
  clear hz
  go_wp2_with (first
    | (refine wpList_store_mid rfl 24 _ _ rfl w2.heap.size 0 C.toArray rfl rfl HT.out.1 HT.out.2.1 HT.out.2.2 ?_; rw [← HW4.out])
    | (refine wpList_store_mid rfl 24 _ _ rfl w.heap.size 0 #[.bool false, .int .u8 0, .int .u8 0, .int .u8 0, .int .u8 0, .int .u8 0, .int .u8 0, .int .u8 0, .int .u8 0, .int .u8 0, .int .u8 0, .int .u8 0, .int .u8 0, .int .u8 0, .int .u8 0, .int .u8 0, .int .u8 0] rfl rfl HZ.out.1 HZ.out.2.1 HZ.out.2.2.1 ?_))
  try rw [Exit.noGoto_ret]
  refine bodyPost_ret (wh.ret_cell (p := 2) (u := 3) (ty := 24) (by kernel_rfl) _ _ _ w.heap.size _ _ _ (by rfl) HZ.out.2.2.2.1 Tryz.underlying24 rfl addr_info) rfl ?_
  exact ⟨.inr ⟨HNO.out, rfl⟩, KZ.out⟩

set_option maxRecDepth 100000 in
set_option maxHeartbeats 4000000 in
theorem preadaddr_some (l : List Nat) (hl : ∀ x ∈ l, x < 256) (hn : l.length < 140737488355328) (henv : Env w) (c : Ad) (hlo : loose l = some c) :
    Calls Tryz.prog 32 #[.string (str l)] w fun e w' => RdA l e ∧ ∀ S, Keeps S w w' := by
  obtain ⟨w1, hw1, B1, K1⟩ := new_zero w
  have HLS := Lib.hid (looseaddr_ w1 l hl hn (henv.keeps K1))
  rw [hlo] at HLS
  have HW := Lib.hid hw1
  have KK1 : Hid (∀ S, Keeps S w w1) := Lib.hid K1
  have BR1 := Lib.hid B1
  have HE := Lib.hid henv
  have HB : Hid (∀ x ∈ l, x < 256) := Lib.hid hl
  have HWF := Lib.hid (loose_wf hlo)
  have HLO := Lib.hid hlo
  have HAT := fun c (hc : Ad.Wf c) w (h : Env w) => Lib.hid (paddrtext_ w c hc h)
  obtain ⟨s, hs⟩ : ∃ s, s = str l := ⟨_, rfl⟩
  have HS := Lib.hid hs
  rw [← hs] at HLS ⊢
  clear hw1 K1 B1 hl hn henv hlo hs
  go_enter Tryz.func32, Tryz.ntmps32
  go_wp2_with fail
  rw [← HW.out]
  refine HLS.out.mono ?_
  rintro e w2 ⟨hans, k2⟩
  have hans : e = .returned (.tuple #[av c, .bool true]) := hans
  subst hans
  have K2 : Hid (∀ S, Keeps S w w2) := Lib.hid (fun S => (KK1.out S).trans (k2 S))
  have BR2 := Lib.hid (Blk.keeps BR1.out (k2 (fun _ => False)) (fun z => z))
  have HPQ := Lib.hid (show w.heap.size < w2.heap.size from BR2.out.lt)
  clear k2 HLS
  obtain ⟨w3, hw3, B3, K3⟩ := new_zero w2
  obtain ⟨o1, o2, o3, o5, o6⟩ := over_ad HWF.out B3 rfl
  obtain ⟨w4, hw4⟩ : ∃ w4, w4 = w3.setCells w2.heap.size 0 (adc c) := ⟨_, rfl⟩
  rw [← hw4] at o5 o6
  have BR4 := Lib.hid (Blk.keeps (Blk.keeps BR2.out (K3 (fun _ => False)) (fun z => z)) o6 (by have := HPQ.out; omega))
  have K4 : Hid (∀ S, Keeps S w w4) := Lib.hid (glue_all (Nat.le_of_lt HPQ.out) (fun S => (K2.out S).trans (K3 S)) o6)
  have HT := Lib.hid (And.intro o1 (And.intro o2 o3))
  have BQ := Lib.hid o5
  have HW4 := Lib.hid hw4
  have HSX := Lib.hid (ad_sz HWF.out)
  have HLQ := Lib.hid (Blk.range BQ.out)
  unfold av
  subst hw3
  clear o1 o2 o3 o5 o6 B3 K3 hw4
  have HAV := Lib.hid (show av c = .agg (adc c).toArray from rfl)
  have HAC := Lib.hid ((HAT c HWF.out w4 (HE.out.keeps K4.out)).out)
  rw [HAV.out] at HAC
  obtain ⟨C, hC⟩ : ∃ C, C = adc c := ⟨_, rfl⟩
  have HCA : Hid (adc c = C) := Lib.hid hC.symm
  rw [← hC] at HT HW4 BQ HSX HLQ HAV HAC ⊢
  clear hC
  go_wp2_with (first
    | (refine wpList_store_mid rfl 24 _ _ rfl w2.heap.size 0 C.toArray rfl rfl HT.out.1 HT.out.2.1 HT.out.2.2 ?_; rw [← HW4.out])
    | (refine wpList_load_mid rfl 24 _ rfl w2.heap.size 0 rfl C _ HLQ.out Tryz.underlying24 rfl HSX.out ?_))
  refine HAC.out.mono ?_
  rintro e w5 ⟨hans, k5⟩
  have K5 : Hid (∀ S, Keeps S w w5) := Lib.hid (fun S => (K4.out S).trans (k5 S))
  have BR5 := Lib.hid (Blk.keeps BR4.out (k5 (fun _ => False)) (fun z => z))
  have BQ5 := Lib.hid (Blk.keeps BQ.out (k5 (fun _ => False)) (fun z => z))
  clear k5 HLQ BQ BR4 HAC HAT
  rcases hans with ⟨ho, rfl⟩ | ⟨ho, rfl⟩
  · by_cases ht : atext c = l
    · have HY := Lib.hid (show IsText l c from ⟨HWF.out, ho, ht⟩)
      have hts : str (atext c) = s := by rw [ht, HS.out]
      rw [hts]
      have ho2 := over_ad HWF.out BR5.out rfl
      rw [HCA.out] at ho2
      have HO := Lib.hid ho2
      have KO := Lib.hid (glue_all (Nat.le_refl _) K5.out ho2.2.2.2.2)
      have HL5 := Lib.hid (Blk.range BQ5.out)
      clear ho ht hts ho2
      go_wp2_with (first
        | (refine wpList_load_mid rfl 24 _ rfl w2.heap.size 0 rfl C _ HL5.out Tryz.underlying24 rfl HSX.out ?_)
        | (refine wpList_store_mid rfl 24 _ _ rfl w.heap.size 0 C.toArray rfl rfl HO.out.1 HO.out.2.1 HO.out.2.2.1 ?_))
      try rw [Exit.noGoto_ret]
      refine bodyPost_ret (wh.ret_cell (p := 2) (u := 3) (ty := 24) (by kernel_rfl) _ _ _ w.heap.size _ _ _ (by rfl) HO.out.2.2.2.1 Tryz.underlying24 rfl HSX.out) rfl ?_
      exact ⟨.inl ⟨_, HY.out, by rw [HAV.out]; rfl⟩, KO.out⟩
    · have hne : ¬ (str (atext c)).toList = s.toList := by rw [HS.out]; exact str_ne (atext_lt HWF.out) HB.out ht
      have HNT := Lib.hid ht
      generalize str (atext c) = t at *
      have hnb : (t.toList == s.toList) = false := by rw [beq_eq_false_iff_ne]; exact hne
      clear ht ho hne
      have HNO : Hid (∀ a, ¬ IsText l a) := Lib.hid (fun a ha => by have e := ha.loose; rw [HLO.out] at e; injection e with e; exact HNT.out (by rw [e]; exact ha.2.2))
      have hz := over_ad zeroA_wf BR5.out rfl
      rw [zeroA_cells] at hz
      have HZ := Lib.hid hz
      have KZ := Lib.hid (glue_all (Nat.le_refl _) K5.out hz.2.2.2.2)
      clear hz
      go_wp2_with (first
        | (refine wpList_store_mid rfl 24 _ _ rfl w2.heap.size 0 C.toArray rfl rfl HT.out.1 HT.out.2.1 HT.out.2.2 ?_; rw [← HW4.out])
        | (refine wpList_store_mid rfl 24 _ _ rfl w.heap.size 0 #[.bool false, .int .u8 0, .int .u8 0, .int .u8 0, .int .u8 0, .int .u8 0, .int .u8 0, .int .u8 0, .int .u8 0, .int .u8 0, .int .u8 0, .int .u8 0, .int .u8 0, .int .u8 0, .int .u8 0, .int .u8 0, .int .u8 0] rfl rfl HZ.out.1 HZ.out.2.1 HZ.out.2.2.1 ?_))
      try rw [Exit.noGoto_ret]
      refine bodyPost_ret (wh.ret_cell (p := 2) (u := 3) (ty := 24) (by kernel_rfl) _ _ _ w.heap.size _ _ _ (by rfl) HZ.out.2.2.2.1 Tryz.underlying24 rfl addr_info) rfl ?_
      exact ⟨.inr ⟨HNO.out, rfl⟩, KZ.out⟩

  · have HNK := Lib.hid ho
    clear ho
    have HNO : Hid (∀ a, ¬ IsText l a) := Lib.hid (fun a ha => by have e := ha.loose; rw [HLO.out] at e; injection e with e; exact HNK.out (by rw [e]; exact ha.2.1))
    have hz := over_ad zeroA_wf BR5.out rfl
    rw [zeroA_cells] at hz
    have HZ := Lib.hid hz
    have KZ := Lib.hid (glue_all (Nat.le_refl _) K5.out hz.2.2.2.2)
    clear hz
    go_wp2_with (first
      | (refine wpList_store_mid rfl 24 _ _ rfl w2.heap.size 0 C.toArray rfl rfl HT.out.1 HT.out.2.1 HT.out.2.2 ?_; rw [← HW4.out])
      | (refine wpList_store_mid rfl 24 _ _ rfl w.heap.size 0 #[.bool false, .int .u8 0, .int .u8 0, .int .u8 0, .int .u8 0, .int .u8 0, .int .u8 0, .int .u8 0, .int .u8 0, .int .u8 0, .int .u8 0, .int .u8 0, .int .u8 0, .int .u8 0, .int .u8 0, .int .u8 0, .int .u8 0] rfl rfl HZ.out.1 HZ.out.2.1 HZ.out.2.2.1 ?_))
    try rw [Exit.noGoto_ret]
    refine bodyPost_ret (wh.ret_cell (p := 2) (u := 3) (ty := 24) (by kernel_rfl) _ _ _ w.heap.size _ _ _ (by rfl) HZ.out.2.2.2.1 Tryz.underlying24 rfl addr_info) rfl ?_
    exact ⟨.inr ⟨HNO.out, rfl⟩, KZ.out⟩


theorem preadaddr_ (l : List Nat) (hl : ∀ x ∈ l, x < 256) (hn : l.length < 140737488355328) (henv : Env w) :
    Calls Tryz.prog 32 #[.string (str l)] w fun e w' => RdA l e ∧ ∀ S, Keeps S w w' := by
  cases h : loose l with
  | none => exact preadaddr_none w l hl hn henv h
  | some c => exact preadaddr_some w l hl hn henv c h

end
end Go.Proofs.YtgcdhfpbmcfedaaGreatDoor.pf
end
