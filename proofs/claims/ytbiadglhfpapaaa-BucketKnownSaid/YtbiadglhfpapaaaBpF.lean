/-
  bucket: rising, tooFull.
-/
import Derived.Test.YtbiadglhfpapaaaBpR
import Derived.Test.YtbiadglhfpapaaaSsS
import Derived.Test.YtbiadglhfpapaaaBkFm
set_option linter.unusedVariables false
namespace Go.Proofs.Ytbiadglhfpapaaa.bp
open Go.RowKit Go.Proofs.Ytbiadglhfpapaaa.oc Go.Proofs.Ytbiadglhfpapaaa.mz Go.Proofs.Ytbiadglhfpapaaa.bk Go.Proofs.Ytbiadglhfpapaaa.ss
/-! ### rising -/
theorem Ro.put {w : World} {R m i x : Nat} {d : Nat → Nat} (h : Ro w R m d) (hi : i < m) (hx : x < m) : Ro (w.setCell ⟨R, i, none⟩ (.int .i64 (x : Int))) R m (upd d i x) := by
  refine ⟨by simpa using h.old, fun t ht => ?_, fun t ht => by rw [World.frozen?_setCell]; exact h.free t ht, fun t ht => ?_⟩
  · unfold upd
    by_cases h1 : t = i
    · subst h1
      rw [if_pos rfl]
      exact World.cell?_setCell_same' _ _ _ (by rw [h.cell t ht]; rfl)
    · rw [if_neg h1, World.cell?_setCell_other _ _ _ _ (by intro e'; simp only [Addr.mk.injEq] at e'; omega)]
      exact h.cell t ht
  · unfold upd
    split
    · exact hx
    · exact h.lt t ht
theorem int_info : (Try.prog.info? 3).map (fun i => (i.zero, i.size, i.bytes)) = some (some (.int .i64 0), 1, 8) := by kernel_rfl
theorem make_ints (n : Nat) (w : World) (hn : n ≤ 5000) :
    (Instr.makeSlice 68 (.int .i64 (n : Int)) (.int .i64 (n : Int))).run Try.prog w = .ok (.slice (some ⟨w.heap.size, 0, none⟩) n n) (w.alloc (.cells (madeCells #[.int .i64 0] n) 3)) := by
  obtain ⟨i0, hi0, hx⟩ := Option.map_eq_some_iff.1 int_info
  simp only [Prod.mk.injEq] at hx
  obtain ⟨hz, hsz, hby⟩ := hx
  have h := run_make (P := Try.prog) w 68 3 i0 _ Try.underlying68 hi0 hz .i64 .i64 (n : Int) (n : Int) (by omega) (Int.le_refl _) (by rw [hby]; omega) (by omega)
  rw [hsz] at h
  exact (by simpa using h : _ = Result.ok (Value.slice (some ⟨w.heap.size, 0, none⟩) n n) (w.alloc (.cells (madeCells (Value.int IntKind.i64 0).cells n) 3)))
theorem made_ints (n i : Nat) (hi : i < n) : (madeCells #[.int .i64 0] n).toList[i]? = some (.int .i64 ((0 : Nat) : Int)) := by
  simp only [madeCells, Array.toList_map, Array.toList_range, List.getElem?_map]
  simp [hi, Nat.mod_one]
/-- the places up to k are laid -/
def laid (k : Nat) : Nat → Nat := fun t => if t < k then t else 0
theorem laid_step (k : Nat) : upd (laid k) k k = laid (k + 1) := by
  funext t
  unfold upd laid
  by_cases h : t = k
  · subst h; rw [if_pos rfl, if_pos (by omega)]
  · rw [if_neg h]
    by_cases h2 : t < k
    · rw [if_pos h2, if_pos (by omega)]
    · rw [if_neg h2, if_neg (by omega)]
/-- what rising answers -/
def RisePost (l : List (Nat × Nat)) (m : Nat) (w : World) (e : Ending) (w' : World) : Prop := ∃ (R : Nat) (g : Nat → Nat), e = .returned (.slice (some ⟨R, 0, none⟩) m m) ∧ (∀ S, Keeps S w w') ∧ Ro w' R m g ∧ Seg 0 m (fun t => t) g ∧ So (tick l) g 0 m ∧ w.heap.size ≤ R
section
variable (w : World) (n d b : Nat)
set_option maxRecDepth 100000 in
set_option maxHeartbeats 4000000 in
theorem rising_ (A : Option Addr) (m c : Nat) (l : List (Nat × Nat)) (ha : Asks w w.heap.size A l) (hl : l.length = m) (hm9 : m ≤ 4096) : Calls Try.prog 41 #[.slice A m c] w (RisePost l m w) := by
  obtain ⟨w1, hw1⟩ : ∃ x, x = w.alloc (.cells #[.slice A m c] 36) := ⟨_, rfl⟩
  have B0 := Blk.new w 36 #[.slice A m c]
  rw [← hw1] at B0
  have k1 : ∀ S, Keeps S w w1 := fun S => by rw [hw1]; exact (Keeps.refl S w).alloc _
  have hmk := make_ints m w1 (by omega)
  obtain ⟨w2, hw2⟩ : ∃ x, x = w1.alloc (.cells (madeCells #[.int .i64 0] m) 3) := ⟨_, rfl⟩
  have bl := Blk.new w1 3 (madeCells #[.int .i64 0] m)
  rw [← hw2] at bl hmk
  have hro : Ro w2 w1.heap.size m (laid 0) := ⟨bl.lt, fun i hi => by rw [bl.cell, made_ints m i hi]; rfl, fun i _ => bl.frozen i, fun i hi => by unfold laid; rw [if_neg (by omega)]; omega⟩
  obtain ⟨R, hR⟩ : ∃ x, x = w1.heap.size := ⟨_, rfl⟩
  rw [← hR] at hro hmk
  have V0 := Lib.hid (show (∀ S, Keeps S w w2) ∧ Blk w2 w.heap.size 36 [.slice A m c] ∧ Ro w2 R m (laid 0) from ⟨fun S => by rw [hw2]; exact (k1 S).alloc _, by rw [hw2]; exact B0.alloc _, hro⟩)
  have HA := Lib.hid ha
  have HL := Lib.hid (show l.length = m ∧ m ≤ 4096 ∧ w.heap.size < R from ⟨hl, hm9, by rw [hR]; exact B0.lt⟩)
  have m0 : (0 : Int) ≤ (m : Int) := by omega
  have m1 : (m : Int) ≤ 4096 := by omega
  rw [hw1] at hmk
  clear hw1
  clear hw2 bl hro hR k1 ha hl hm9 B0
  go_enter Try.func41, Try.ntmps41
  go_wp2_with fail
  go_loopw [10] (fun iv wr => ∃ k : Nat, k ≤ m ∧ iv = .int .i64 (k : Int) ∧ (∀ S, Keeps S w wr) ∧ Blk wr w.heap.size 36 [.slice A m c] ∧ Ro wr R m (laid k)) (fun iv _ => m + 1 - (intOf iv).toNat)
  case atStart => exact ⟨0, Nat.zero_le _, rfl, V0.out⟩
  case round =>
    clear V0 hmk
    obtain ⟨k, hk, rfl, hkk, hb, hr⟩ := hrel
    have HK := Lib.hid hkk
    have HB := Lib.hid hb
    have HR := Lib.hid hr
    have k0 : (0 : Int) ≤ (k : Int) := by omega
    rcases Nat.lt_or_ge k m with hlt | hlt
    · have hlt' : (k : Int) < (m : Int) := by omega
      have HLT := Lib.hid hlt
      have ck := hr.cell k hlt
      have fk := hr.free k hlt
      clear hk hkk hb hr hlt
      generalize laid k k = lk at ck
      go_wp2
      go_roundw
      case rel =>
        refine ⟨k + 1, HLT.out, by go_num, fun S => (HK.out S).setCell (.inr (Nat.le_of_lt HL.out.2.2)) _, Blk.keeps HB.out (Keeps.here (b := R) _) (fun e => by have := HL.out; omega), ?_⟩
        rw [← laid_step]
        exact Ro.put HR.out HLT.out HLT.out
      case measure => have := HLT.out; simp only [intOf]; omega
    · have hlt' : ¬ (k : Int) < (m : Int) := by omega
      have hkm : k = m := by omega
      have hid : Ro wr R m (fun t => t) := hr.congr (fun i hi => by unfold laid; rw [if_pos (by omega)])
      have hcm : CmpOk wr R m w.heap.size (tick l) := CmpOk.of (c := c) (A := A) (by rw [hb.cell]; rfl) (by have := HL.out; omega) (((HA.out.keeps (S := fun _ => False) (hkk _) (fun _ _ z => z))).base (Nat.le_of_lt HL.out.2.2)) HL.out.1
      have HS := Lib.hid (sortStable_ wr R m m w.heap.size (tick l) (fun t => t) hid hcm (by have := HL.out; omega))
      clear hk hkk hb hr hlt hid hcm hkm
      go_wp2_with fail
      refine HS.out.mono ?_
      rintro e w3 ⟨rfl, k3, g, r3, s3, o3⟩
      have HP := Lib.hid (show (∀ S, Keeps S w w3) ∧ Ro w3 R m g ∧ Seg 0 m (fun t => t) g ∧ So (tick l) g 0 m ∧ w.heap.size ≤ R from ⟨fun S => glue_ (HK.out S) k3 (fun x hx hxe => by have := HL.out; omega), r3, s3, o3, Nat.le_of_lt HL.out.2.2⟩)
      clear k3 r3 s3 o3 HS
      go_wp2
      try rw [Exit.noGoto_ret]
      go_ret
      exact ⟨R, g, rfl, HP.out⟩
/-! ### tooFull -/
/-- is one refused? -/
def over (n d b : Nat) : Nat → List (Nat × Nat) → Bool
  | _, [] => false
  | s, p :: r => if lets n d b s p.1 p.2 then over n d b (takeOf n d b s p.1 p.2) r else true
theorem over_no {n d b : Nat} (hm : May n d b) : ∀ (r a : List (Nat × Nat)), (∀ p ∈ r, p.1 ≤ 1099511627776) → bk.Good n d b 0 a → over n d b (st n d 0 a a.length) r = false → bk.Good n d b 0 (a ++ r)
  | [], a, _, hg, _ => by rw [List.append_nil]; exact hg
  | p :: r, a, ht, hg, h => by
    rw [over] at h
    cases hl : lets n d b (st n d 0 a a.length) p.1 p.2 with
    | false => rw [hl] at h; cases h
    | true =>
      rw [hl, if_pos rfl] at h
      obtain ⟨e1, e2⟩ := take_st hm (ht p (List.mem_cons_self ..)) hl
      rw [e1, ← st_snoc] at h
      have hg2 := good_snoc hg e2
      rw [show a.length + 1 = (a ++ [p]).length by simp] at h
      have := over_no hm r (a ++ [p]) (fun q hq => ht q (List.mem_cons_of_mem _ hq)) hg2 h
      rwa [List.append_assoc] at this
theorem over_yes {n d b : Nat} (hm : May n d b) : ∀ (r a : List (Nat × Nat)), (∀ p ∈ r, p.1 ≤ 1099511627776) → over n d b (st n d 0 a a.length) r = true → ∃ a' p r', a ++ r = a' ++ p :: r' ∧ b * d < (st n d 0 a' a'.length - p.1 * n) + p.2 * d
  | [], a, _, h => by cases h
  | p :: r, a, ht, h => by
    rw [over] at h
    cases hl : lets n d b (st n d 0 a a.length) p.1 p.2 with
    | false => exact ⟨a, p, r, rfl, (take_st_no hl).2⟩
    | true =>
      rw [hl, if_pos rfl] at h
      obtain ⟨e1, e2⟩ := take_st hm (ht p (List.mem_cons_self ..)) hl
      rw [e1, ← st_snoc, show a.length + 1 = (a ++ [p]).length by simp] at h
      obtain ⟨a', p', r', h1, h2⟩ := over_yes hm r (a ++ [p]) (fun q hq => ht q (List.mem_cons_of_mem _ hq)) h
      exact ⟨a', p', r', by rw [← h1, List.append_assoc]; rfl, h2⟩
/-- the places, as a list -/
def plc (m : Nat) (g : Nat → Nat) : List Nat := (List.range m).map g
theorem plc_at {m x : Nat} {g : Nat → Nat} (h : x < m) : (plc m g)[x]? = some (g x) := by simp [plc, h]
theorem count_sg (g : Nat → Nat) (v : Nat) : ∀ m, (plc m g).count v = sg (fun u => if u = v then 1 else 0) g 0 m
  | 0 => rfl
  | m + 1 => by
    have ih := count_sg g v m
    unfold plc at *
    rw [List.range_succ, List.map_append, List.count_append, ih, sg, Nat.zero_add, List.map_cons, List.map_nil, List.count_singleton]
    simp
theorem plc_perm {m : Nat} {g : Nat → Nat} (h : Seg 0 m (fun t => t) g) : (plc m g).Perm (List.range m) := by
  rw [List.perm_iff_count]
  intro v
  have e := h.sum (fun u => if u = v then 1 else 0)
  rw [Nat.sub_zero] at e
  rw [count_sg, e, ← count_sg]
  simp [plc]
theorem plc_rising {m : Nat} {g : Nat → Nat} {l : List (Nat × Nat)} (h : So (tick l) g 0 m) : Rising l (plc m g) := by
  unfold Rising plc
  rw [List.pairwise_map]
  refine List.pairwise_iff_getElem.2 (fun i j hi hj hij => ?_)
  rw [List.getElem_range, List.getElem_range]
  exact h i j (Nat.zero_le _) (Nat.le_of_lt hij) (by simpa using hj)
theorem upTo_mem {l : List (Nat × Nat)} {N : Nat} {ps : List Nat} (hp : ps.Perm (List.range l.length)) (hN : N < l.length) {p : Nat × Nat} (h : p ∈ upTo l N ps) : p ∈ l := List.mem_of_mem_take ((upTo_perm hp hN).mem_iff.1 h)
/-- tooFull tells whether some stretch is -/
theorem over_full {n d b N : Nat} {l : List (Nat × Nat)} {g : Nat → Nat} (hm : May n d b) (ht : ∀ p ∈ l, p.1 ≤ 1099511627776) (hs : Seg 0 l.length (fun t => t) g) (ho : So (tick l) g 0 l.length) (hN : N < l.length) : over n d b 0 (upTo l N (plc l.length g)) = true ↔ ∃ j, j ≤ N ∧ Full n d b l j := by
  have hp := upTo_perm (plc_perm hs) hN
  have htt : ∀ p ∈ upTo l N (plc l.length g), p.1 ≤ 1099511627776 := fun p hpm => ht p (upTo_mem (plc_perm hs) hN hpm)
  constructor
  · intro h
    obtain ⟨a, p, r, e, hno⟩ := over_yes hm (upTo l N (plc l.length g)) [] htt h
    rw [List.nil_append] at e
    have h1 := hp
    have h2 := upTo_sorted (N := N) (plc_rising ho)
    rw [e] at h1 h2
    exact tf_yes hm.2.1.1 hN h1 h2 hno
  · intro ⟨j, hj, hf⟩
    cases h : over n d b 0 (upTo l N (plc l.length g)) with
    | true => rfl
    | false =>
      have hg := over_no hm (upTo l N (plc l.length g)) [] htt (good_nil n d b) h
      rw [List.nil_append] at hg
      exact absurd hf (tf_no hm.2.1.1 hN hp hg j hj)
theorem drop_at {m x i N : Nat} {g : Nat → Nat} {l : List (Nat × Nat)} (hx : x < m) (hi : i = g x) : (N < i → upTo l N ((plc m g).drop x) = upTo l N ((plc m g).drop (x + 1))) ∧ (i ≤ N → upTo l N ((plc m g).drop x) = l.getD i (0, 0) :: upTo l N ((plc m g).drop (x + 1))) := by
  have hlen : x < (plc m g).length := by simpa [plc] using hx
  have e : (plc m g).drop x = i :: (plc m g).drop (x + 1) := by
    rw [List.drop_eq_getElem_cons hlen]
    congr 1
    have := plc_at (g := g) hx
    rw [List.getElem?_eq_getElem hlen] at this
    rw [hi]; exact Option.some.inj this
  rw [e]
  unfold upTo
  rw [List.filter_cons]
  refine ⟨fun h => by simp [show ¬ i ≤ N by omega], fun h => by simp [h]⟩
set_option maxRecDepth 100000 in
set_option maxHeartbeats 8000000 in
theorem tooFull_ (A : Option Addr) (m c B R N : Nat) (g : Nat → Nat) (l : List (Nat × Nat)) (hm : May n d b) (ha : Asks w B A l) (hB : B ≤ w.heap.size) (hl : l.length = m) (hm9 : m ≤ 4096) (ht : ∀ p ∈ l, p.1 ≤ 1099511627776) (hr : Ro w R m g) : Calls Try.prog 44 #[bv n d b, .slice A m c, .slice (some ⟨R, 0, none⟩) m m, .int .i64 (N : Int)] w fun e w' => e = .returned (.bool (over n d b 0 (upTo l N (plc m g)))) ∧ ∀ S, Keeps S w w' := by
  have HTK := fun (s t k : Nat) (h1 : s < 18446744073709551616) (h2 : t ≤ 1099511627776) (h3 : k < 18446744073709551616) w => Lib.hid (ptake_ w n d b s t k hm h2 h1 h3)
  unfold bv at HTK ⊢
  have HA := Lib.hid ha
  have HR := Lib.hid hr
  have HI := Lib.hid (show l.length = m ∧ m ≤ 4096 ∧ (∀ p ∈ l, p.1 ≤ 1099511627776) ∧ B ≤ w.heap.size from ⟨hl, hm9, ht, hB⟩)
  have V0 := Lib.hid (show (∀ S, Keeps S w (w.alloc (.cells #[.int .u64 (n : Int), .int .u64 (d : Int), .int .u64 (b : Int)] 24))) ∧ Blk (w.alloc (.cells #[.int .u64 (n : Int), .int .u64 (d : Int), .int .u64 (b : Int)] 24)) w.heap.size 24 [.int .u64 (n : Int), .int .u64 (d : Int), .int .u64 (b : Int)] from ⟨fun S => (Keeps.refl S w).alloc _, Blk.new w _ _⟩)
  clear hm ha hB hl hm9 ht hr
  go_enter Try.func44, Try.ntmps44
  go_wp2_with fail
  go_loopw [9, 16] (fun sv iv wr => ∃ x s : Nat, x ≤ m ∧ iv = .int .i64 (x : Int) ∧ sv = .int .u64 (s : Int) ∧ s < 18446744073709551616 ∧ (∀ S, Keeps S w wr) ∧ Blk wr w.heap.size 24 [.int .u64 (n : Int), .int .u64 (d : Int), .int .u64 (b : Int)] ∧ over n d b s (upTo l N ((plc m g).drop x)) = over n d b 0 (upTo l N (plc m g))) (fun sv iv _ => m + 1 - (intOf iv).toNat)
  case atStart => exact ⟨0, 0, Nat.zero_le _, rfl, rfl, by omega, V0.out.1, V0.out.2, by rw [List.drop_zero]⟩
  case round =>
    clear V0
    obtain ⟨x, s, hx, rfl, rfl, hs, hkk, hb, hov⟩ := hrel
    have HK := Lib.hid hkk
    have HB := Lib.hid hb
    have HOV := Lib.hid hov
    have HS := Lib.hid hs
    have x0 : (0 : Int) ≤ (x : Int) := by omega
    have m1 : (m : Int) ≤ 4096 := by have := HI.out; omega
    rcases Nat.lt_or_ge x m with hlt | hlt
    · have hlt' : (x : Int) < (m : Int) := by omega
      have HLT := Lib.hid hlt
      have hro := HR.out.keeps (hkk (fun _ => False)) (fun z => z)
      have cx := hro.cell x hlt
      obtain ⟨i, hi⟩ : ∃ i, i = g x := ⟨_, rfl⟩
      have him : i < m := by rw [hi]; exact HR.out.lt x hlt
      rw [← hi] at cx
      have HD := Lib.hid (drop_at (N := N) (l := l) hlt hi)
      have i0 : (0 : Int) ≤ (i : Int) := by omega
      have i1 : (i : Int) < (m : Int) := by omega
      rcases Nat.lt_or_ge N i with hNi | hNi
      · have q1 : (N : Int) < (i : Int) := by omega
        have HNI := Lib.hid hNi
        clear hx hs hkk hb hov hlt hro hi him hNi
        go_wp2
        go_roundw
        case rel => exact ⟨x + 1, s, HLT.out, by go_num, rfl, HS.out, HK.out, HB.out, by rw [← HOV.out, HD.out.1 HNI.out]⟩
        case measure => have := HLT.out; simp only [intOf]; omega
      · have q1 : ¬ (N : Int) < (i : Int) := by omega
        have HNI := Lib.hid hNi
        obtain ⟨pp, hp⟩ : ∃ pp, l[i]? = some pp := ⟨_, List.getElem?_eq_getElem (by have := HI.out.1; omega)⟩
        obtain ⟨bb, o, rfl, hbb, c1, c2⟩ := (HA.out.keeps (S := fun _ => False) (hkk _) (fun _ _ z => z)).at_ hp
        have hpt := HI.out.2.2.1 pp (List.mem_of_getElem? hp)
        have hpk := HA.out.sm pp (List.mem_of_getElem? hp)
        have hgd : l.getD i (0, 0) = pp := by rw [List.getD_eq_getElem?_getD, hp]; rfl
        have hst := HOV.out
        rw [HD.out.2 hNi, hgd, over] at hst
        obtain ⟨pt, pk⟩ := pp
        simp only at c1 c2 hpt hpk hst
        have HT := fun w => Lib.hid (HTK s pt pk hs hpt hpk.2 w).out
        have HST := Lib.hid hst
        have HTL := Lib.hid (take_lt n d b s pt pk hs)
        have y0 : wr.cell? ⟨w.heap.size, 0, none⟩ = some (.int .u64 (n : Int)) := by rw [hb.cell]; rfl
        have y1 : wr.cell? ⟨w.heap.size, 1, none⟩ = some (.int .u64 (d : Int)) := by rw [hb.cell]; rfl
        have y2 : wr.cell? ⟨w.heap.size, 2, none⟩ = some (.int .u64 (b : Int)) := by rw [hb.cell]; rfl
        clear hp hpt hpk hbb hgd hst hx hs hkk hb hov hlt hro hi him hNi HS
        generalize takeOf n d b s pt pk = tk at *
        generalize lets n d b s pt pk = le at *
        go_wp2_with fail
        go_region_held3 (fun w' => w'.cell? ⟨w.heap.size, 0, none⟩ = some (.int .u64 (n : Int)) ∧ w'.cell? ⟨w.heap.size, 1, none⟩ = some (.int .u64 (d : Int)) ∧ w'.cell? ⟨w.heap.size, 2, none⟩ = some (.int .u64 (b : Int)) ∧ w'.cell? ⟨bb, o + i * 2, none⟩ = some (.int .u64 (pt : Int)) ∧ w'.cell? ⟨bb, o + i * 2 + 1, none⟩ = some (.int .u64 (pk : Int)))
          (first | exact ⟨y0, y1, y2, c1, c2⟩ | exact ⟨z0, z1, z2, z3, z4⟩)
          ((first
            | (go_at_call 32; refine (HT _).out.mono ?_; rintro e w3 ⟨rfl, k3⟩; have z0 := Keeps.cell (k3 (fun _ => False)) (show wr.drew.cell? _ = _ from y0) (fun z => z); have z1 := Keeps.cell (k3 (fun _ => False)) (show wr.drew.cell? _ = _ from y1) (fun z => z); have z2 := Keeps.cell (k3 (fun _ => False)) (show wr.drew.cell? _ = _ from y2) (fun z => z); have z3 := Keeps.cell (k3 (fun _ => False)) (show wr.drew.cell? _ = _ from c1) (fun z => z); have z4 := Keeps.cell (k3 (fun _ => False)) (show wr.drew.cell? _ = _ from c2) (fun z => z); have K3 : Hid (∀ S, Keeps S wr w3) := Lib.hid (fun S => Keeps.trans (Keeps.refl S wr).drew (k3 S)); clear k3)))
        have K4 : Hid (∀ S, Keeps S w w3) := Lib.hid (fun S => (HK.out S).trans (K3.out S))
        have B4 := Lib.hid (Blk.keeps HB.out (K3.out (fun _ => False)) (fun z => z))
        clear z0 z1 z2 z3 z4 y0 y1 y2 c1 c2 HK HB K3
        cases le
        · go_wp2
          try rw [Exit.noGoto_ret]
          go_ret
          exact ⟨by rw [← HST.out]; rfl, K4.out⟩
        · go_wp2
          go_roundw
          case rel => exact ⟨x + 1, tk, HLT.out, by go_num, rfl, HTL.out, K4.out, B4.out, by rw [← HST.out]; rfl⟩
          case measure => have := HLT.out; simp only [intOf]; omega
    · have hlt' : ¬ (x : Int) < (m : Int) := by omega
      have hov2 := hov
      rw [List.drop_eq_nil_of_le (by simp [plc]; omega)] at hov2
      have HO2 := Lib.hid hov2
      clear hx hs hkk hb hov hlt hov2
      go_wp2
      try rw [Exit.noGoto_ret]
      go_ret
      exact ⟨by rw [← HO2.out]; rfl, HK.out⟩
end
end Go.Proofs.Ytbiadglhfpapaaa.bp
