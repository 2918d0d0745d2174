/-
  Asks: rows of pairs of numbers; lists of truths that are appended to. patchbayref12's Run.
-/
import Derived.Test.YtbiadglhfpapaaaBkH
import Derived.Test.YtbiadglhfpapaaaMzRow
import Derived.OwnWalk
set_option linter.unusedVariables false
namespace Go.Proofs.Ytbiadglhfpapaaa.bk
open Go.RowKit Go.Proofs.Ytbiadglhfpapaaa.oc Go.Proofs.Ytbiadglhfpapaaa.mz
/-- asks as cells -/
def askc : List (Nat × Nat) → List Value
  | [] => []
  | p :: r => .int .u64 (p.1 : Int) :: .int .u64 (p.2 : Int) :: askc r
theorem askc_at : ∀ (l : List (Nat × Nat)) (i : Nat) (p : Nat × Nat), l[i]? = some p → (askc l)[i * 2]? = some (.int .u64 (p.1 : Int)) ∧ (askc l)[i * 2 + 1]? = some (.int .u64 (p.2 : Int))
  | a :: l, 0, p, h => by simp at h; subst h; exact ⟨rfl, rfl⟩
  | a :: l, i + 1, p, h => by
    have := askc_at l i p (by simpa using h)
    rw [show (i + 1) * 2 = i * 2 + 1 + 1 from by omega, show i * 2 + 1 + 1 + 1 = (i * 2 + 1) + 1 + 1 from rfl]
    simpa [askc] using this
  | [], i, p, h => by simp at h
/-- the slice A shows these asks, in memory that lies below B -/
structure Asks (w : World) (B : Nat) (A : Option Addr) (l : List (Nat × Nat)) : Prop where
  rd : Rd w B A (askc l)
  sm : ∀ p ∈ l, p.1 < 18446744073709551616 ∧ p.2 < 18446744073709551616
theorem Asks.keeps {w w' : World} {B : Nat} {A : Option Addr} {l : List (Nat × Nat)} {S : Nat → Prop} (h : Asks w B A l) (k : Keeps S w w') (hs : ∀ b, b < B → ¬ S b) : Asks w' B A l := by
  refine ⟨fun i v hv => ?_, h.sm⟩
  obtain ⟨b, o, e, hb, hc⟩ := h.rd i v hv
  exact ⟨b, o, e, hb, Keeps.cell k hc (hs b hb)⟩
theorem Asks.at_ {w : World} {B : Nat} {A : Option Addr} {l : List (Nat × Nat)} {i : Nat} {p : Nat × Nat} (h : Asks w B A l) (hp : l[i]? = some p) : ∃ b o, A = some ⟨b, o, none⟩ ∧ b < B ∧ w.cell? ⟨b, o + i * 2, none⟩ = some (.int .u64 (p.1 : Int)) ∧ w.cell? ⟨b, o + i * 2 + 1, none⟩ = some (.int .u64 (p.2 : Int)) := by
  obtain ⟨h1, h2⟩ := askc_at l i p hp
  obtain ⟨b, o, rfl, hb, c1⟩ := h.rd _ _ h1
  obtain ⟨b', o', e, _, c2⟩ := h.rd _ _ h2
  injection e with e
  injection e with e1 e2
  subst e1; subst e2
  exact ⟨b, o, rfl, hb, c1, by rw [Nat.add_assoc]; exact c2⟩
theorem bool_info : (Try.prog.info? 4).map (fun i => (i.zero, i.size, i.bytes)) = some (some (.bool false), 1, 1) := by kernel_rfl
def bools (l : List Bool) : List Value := l.map Value.bool
/-- a list of truths that is being put together by appends since w -/
structure Bm (w wi : World) (v : Value) (l : List Bool) : Prop where
  own : wi.ownsRow w.heap.size 4 1 v l.length (bools l)
  keep : ∀ S, Keeps S w wi
theorem Bm.nil_ {w wi : World} (k : ∀ S, Keeps S w wi) : Bm w wi (.slice none 0 0) [] := ⟨World.ownsRow_nil wi _ _ _, k⟩
theorem Bm.grown {w wi wj : World} {v : Value} {l : List Bool} (h : Bm w wi v l) (k : ∀ S, Keeps S wi wj) : Bm w wj v l := ⟨owns_keeps h.own (k (fun _ => False)) (fun _ _ z => z), fun S => (h.keep S).trans (k S)⟩
theorem Bm.alloc {w wi : World} {v : Value} {l : List Bool} (h : Bm w wi v l) (o : Obj) : Bm w (wi.alloc o) v l := h.grown (fun S => (Keeps.refl S wi).alloc o)
theorem Bm.wpList_append {w wi : World} {v : Value} {l : List Bool} {ops : Array Oper} {rest : List Oper} {o : Oper} {a : Act} {Q : Exit → Act → World → Prop} (hgd : o.guard = none) (s x : Operand)
    (ho : o.op = .call { callee := .builtin .append, args := #[s, x], argTypes := #[38, 38] }) (h : Bm w wi v l) (hs : a.eval s = v)
    (g m c : Nat) (news : List Bool) (hx : a.eval x = .slice (some ⟨g, 0, none⟩) m c) (hm : news.length = m) (hb : Blk wi g 4 (bools news)) (hl : l.length + m ≤ 140737488355327)
    (hk : ∀ v' w', Bm w w' v' (l ++ news) → (∀ b, b < w.heap.size → w'.heap[b]? = wi.heap[b]?) → Keeps (fun b => v.ownBlock = some b) wi w' → wpList Try.prog ops Q rest (a.put o.dst v') w') : wpList Try.prog ops Q (o :: rest) a wi := by
  obtain ⟨i0, hi0, hz0, hz1, hz2⟩ := info_parts bool_info
  refine wpList_apps hgd s x 38 ho w.heap.size 4 i0 _ 1 1 Try.underlying38 hi0 hz0 hz1 hz2 rfl (by decide) v l.length (bools l) hs h.own ⟨g, 0, none⟩ m c (bools news) hx (by simp [bools, hm]) (fun j u hu => by rw [Addr.add_lit, hb.cell, Nat.zero_add]; exact hu) (fun u hu => by simp only [bools, List.mem_map] at hu; obtain ⟨y, _, rfl⟩ := hu; rfl) (by unfold maxLen; omega) (by omega) (h.keep (fun _ => False)).size ?_
  intro v' w' hown hg hat
  have hlt : ∀ b, v.ownBlock = some b → w.heap.size ≤ b := fun b hb => (h.own.lt b hb).1
  have kk : Keeps (fun b => v.ownBlock = some b) wi w' := Keeps.of_grown hg
  refine hk v' w' ⟨?_, fun S => ?_⟩ (fun b hb => kk.block b (Nat.lt_of_lt_of_le hb (h.keep (fun _ => False)).size) (fun e => by have := hlt _ e; omega)) kk
  · rw [List.length_append, hm, show bools (l ++ news) = bools l ++ bools news from by simp [bools]]; exact hown
  · have k1 := h.keep S
    exact ⟨Nat.le_trans k1.size kk.size, fun b hb hs => by rw [kk.block b (Nat.lt_of_lt_of_le hb k1.size) (fun e => by have := hlt _ e; omega), k1.block b hb hs], k1.same.trans kk.same⟩
theorem Bm.base {w w1 wi : World} {v : Value} {l : List Bool} (h : Bm w1 wi v l) (k : ∀ S, Keeps S w w1) : Bm w wi v l := by
  refine ⟨⟨h.own.1, ?_⟩, fun S => (k S).trans (h.keep S)⟩
  rcases h.own.2 with q | ⟨g, cap, cur, e, hb, rest⟩
  · exact .inl q
  · exact .inr ⟨g, cap, cur, e, Nat.le_trans (k (fun _ => False)).size hb, rest⟩
theorem Bm.apart {w wi : World} {v : Value} {l : List Bool} (h : Bm w wi v l) {X : Nat} (hX : X < w.heap.size) : ¬ v.ownBlock = some X := fun e => by have := (h.own.lt X e).1; omega
/-- what comes of asks, one behind the other -/
def runs (n d b : Nat) : Nat → List (Nat × Nat) → List Bool
  | _, [] => []
  | s, p :: r => lets n d b s p.1 p.2 :: runs n d b (takeOf n d b s p.1 p.2) r
def ends (n d b : Nat) : Nat → List (Nat × Nat) → Nat
  | s, [] => s
  | s, p :: r => ends n d b (takeOf n d b s p.1 p.2) r
theorem runs_snoc (n d b : Nat) : ∀ (l : List (Nat × Nat)) (s : Nat) (p : Nat × Nat), runs n d b s (l ++ [p]) = runs n d b s l ++ [lets n d b (ends n d b s l) p.1 p.2] ∧ ends n d b s (l ++ [p]) = takeOf n d b (ends n d b s l) p.1 p.2
  | [], s, p => ⟨rfl, rfl⟩
  | x :: r, s, p => by
    obtain ⟨h1, h2⟩ := runs_snoc n d b r (takeOf n d b s x.1 x.2) p
    exact ⟨by simp only [List.cons_append, runs, ends, h1], by simp only [List.cons_append, ends, h2]⟩
theorem ends_lt (n d b : Nat) : ∀ (l : List (Nat × Nat)) (s : Nat), s < 18446744073709551616 → ends n d b s l < 18446744073709551616
  | [], s, h => h
  | p :: r, s, h => ends_lt n d b r _ (by
    unfold takeOf; split
    · exact Nat.mod_lt _ (by decide)
    · exact h)
theorem runs_len (n d b : Nat) : ∀ (l : List (Nat × Nat)) (s : Nat), (runs n d b s l).length = l.length
  | [], s => rfl
  | x :: r, s => by simp [runs, runs_len n d b r]
theorem take_lt (n d b s t k : Nat) (hs : s < 18446744073709551616) : takeOf n d b s t k < 18446744073709551616 := by
  unfold takeOf; split
  · exact Nat.mod_lt _ (by decide)
  · exact hs
section
variable (w : World) (n d b : Nat)
set_option maxRecDepth 100000 in
set_option maxHeartbeats 1000000 in
theorem run_no (A : Option Addr) (m c : Nat) (hm : ¬ May n d b) : Calls Try.prog 23 #[bv n d b, .slice A m c] w fun e w' => e = .returned (.tuple #[.slice none 0 0, .int .i64 2]) ∧ ∀ S, Keeps S w w' := by
  have HC := fun w => Lib.hid (check_no w n d b hm)
  unfold bv at HC ⊢
  clear hm
  go_enter Try.func23, Try.ntmps23
  go_wp2_with fail
  refine (HC _).out.mono ?_
  rintro e w1 ⟨rfl, k1⟩
  have K1 : Hid (∀ S, Keeps S w w1) := Lib.hid (fun S => ((Keeps.refl S w).alloc _).trans (k1 S))
  clear k1
  go_wp2
  try rw [Exit.noGoto_ret]
  go_ret2
  exact ⟨rfl, K1.out⟩
set_option maxRecDepth 100000 in
set_option maxHeartbeats 4000000 in
theorem run_ok (A : Option Addr) (m c : Nat) (l : List (Nat × Nat)) (hm : May n d b) (ha : Asks w w.heap.size A l) (hl : l.length = m) (hm9 : m ≤ 100000000000000) (ht : ∀ p ∈ l, p.1 ≤ 1099511627776) : Calls Try.prog 23 #[bv n d b, .slice A m c] w fun e w' => ∃ v, e = .returned (.tuple #[v, .int .i64 0]) ∧ Bm w w' v (runs n d b 0 l) := by
  have HC := fun w => Lib.hid (check_ok w n d b hm)
  have HTK := fun (s t k : Nat) (h1 : s < 18446744073709551616) (h2 : t ≤ 1099511627776) (h3 : k < 18446744073709551616) w => Lib.hid (take_any w n d b s t k (by simp [err, hm]; omega) h1 h3)
  unfold bv at HC HTK ⊢
  have HA := Lib.hid ha
  have HL := Lib.hid (show l.length = m ∧ m ≤ 100000000000000 ∧ ∀ p ∈ l, p.1 ≤ 1099511627776 from ⟨hl, hm9, ht⟩)
  clear hm ha hl hm9 ht
  go_enter Try.func23, Try.ntmps23
  go_wp2_with fail
  have B0 := Blk.new w 24 #[.int .u64 (n : Int), .int .u64 (d : Int), .int .u64 (b : Int)]
  refine (HC _).out.mono ?_
  rintro e w1 ⟨rfl, k1⟩
  have V1 := Lib.hid (show (∀ S, Keeps S w w1) ∧ Blk w1 w.heap.size 24 [.int .u64 (n : Int), .int .u64 (d : Int), .int .u64 (b : Int)] from ⟨fun S => ((Keeps.refl S w).alloc _).trans (k1 S), Blk.keeps B0 (k1 (fun _ => False)) (fun z => z)⟩)
  have HAW := Lib.hid (HA.out.keeps (S := fun _ => False) (((Keeps.refl _ w).alloc (.cells #[.int .u64 (n : Int), .int .u64 (d : Int), .int .u64 (b : Int)] 24)).trans (k1 _)) (fun _ _ z => z))
  clear k1 B0
  go_wp2_with fail
  go_loopw [6] (fun i wr => ∃ k : Nat, k ≤ m ∧ i = .int .i64 (k : Int) ∧ w1 = wr) (fun i _ => m + 1 - (intOf i).toNat)
  case atStart => exact ⟨0, Nat.zero_le _, rfl, rfl⟩
  case round =>
    obtain ⟨k, hk, rfl, rfl⟩ := hrel
    have k0 : (0 : Int) ≤ (k : Int) := by omega
    have hm9 : (m : Int) ≤ 100000000000000 := by have := HL.out.2.1; omega
    rcases Nat.lt_or_ge k m with hlt | hlt
    · obtain ⟨pp, hp⟩ : ∃ pp, l[k]? = some pp := ⟨_, List.getElem?_eq_getElem (by have := HL.out.1; omega)⟩
      obtain ⟨bb, o, rfl, hbb, c1, c2⟩ := HAW.out.at_ hp
      have hpt := HL.out.2.2 pp (List.mem_of_getElem? hp)
      obtain ⟨pt, pk⟩ := pp
      have hlt' : (k : Int) < (m : Int) := by omega
      have q1 : ¬ (1099511627776 : Int) < (pt : Int) := by simp only at hpt; omega
      simp only at c1 c2
      clear hp hpt hbb hk
      go_wp2
      go_roundw
      case rel => exact ⟨k + 1, by omega, by go_num, by simp⟩
      case measure => simp [intOf]; omega
    · have hlt' : ¬ (k : Int) < (m : Int) := by omega
      have hkm : k = m := by omega
      subst hkm
      clear hk hlt
      go_wp2_with fail
      have hlt1 : w.heap.size < w1.heap.size := V1.out.2.lt
      go_loopw [7, 8, 9] (fun v s i wr => ∃ k' : Nat, k' ≤ k ∧ i = .int .i64 (k' : Int) ∧ s = .int .u64 ((ends n d b 0 (l.take k') : Nat) : Int) ∧ Bm w1 wr v (runs n d b 0 (l.take k')) ∧ Blk wr w.heap.size 24 [.int .u64 (n : Int), .int .u64 (d : Int), .int .u64 (b : Int)]) (fun v s i _ => k + 1 - (intOf i).toNat)
      case atStart => exact ⟨0, Nat.zero_le _, rfl, rfl, Bm.nil_ (fun S => Keeps.refl S w1), V1.out.2⟩
      case round =>
        obtain ⟨k', hk', rfl, rfl, hbm, hbk⟩ := hrel
        have k0' : (0 : Int) ≤ (k' : Int) := by omega
        have HBM := Lib.hid hbm
        have HBK := Lib.hid hbk
        rcases Nat.lt_or_ge k' k with hlt2 | hlt2
        · obtain ⟨pp, hp⟩ : ∃ pp, l[k']? = some pp := ⟨_, List.getElem?_eq_getElem (by have := HL.out.1; omega)⟩
          have haw := HAW.out.keeps (S := fun _ => False) (hbm.keep _) (fun _ _ z => z)
          obtain ⟨bb, o, rfl, hbb, c1, c2⟩ := haw.at_ hp
          have hpt := HL.out.2.2 pp (List.mem_of_getElem? hp)
          have hpk := HA.out.sm pp (List.mem_of_getElem? hp)
          have hsn := runs_snoc n d b (l.take k') 0 pp
          have htk : l.take k' ++ [pp] = l.take (k' + 1) := by rw [List.take_add_one, hp]; rfl
          rw [htk] at hsn
          have hen := ends_lt n d b (l.take k') 0 (by omega)
          obtain ⟨pt, pk⟩ := pp
          simp only at c1 c2 hpt hpk hsn
          have HT := fun w => Lib.hid (HTK (ends n d b 0 (l.take k')) pt pk hen hpt hpk.2 w).out
          have HSN := Lib.hid hsn
          have hlt2' : (k' : Int) < (k : Int) := by omega
          have HLT := Lib.hid hlt2
          have y0 : wr.cell? ⟨w.heap.size, 0, none⟩ = some (.int .u64 (n : Int)) := by rw [hbk.cell]; rfl
          have y1 : wr.cell? ⟨w.heap.size, 1, none⟩ = some (.int .u64 (d : Int)) := by rw [hbk.cell]; rfl
          have y2 : wr.cell? ⟨w.heap.size, 2, none⟩ = some (.int .u64 (b : Int)) := by rw [hbk.cell]; rfl
          have HRL := Lib.hid (show (runs n d b 0 (l.take k')).length + 1 ≤ 140737488355327 by rw [runs_len, List.length_take]; have := HL.out.2.1; omega)
          clear hp hpt hpk hbb hsn htk hen hbm hbk haw hlt2
          generalize ends n d b 0 (l.take k') = st at *
          generalize lets n d b st pt pk = le at *
          generalize takeOf n d b st pt pk = tk at *
          go_wp2_with fail
          go_region_held3 (fun w' => w'.cell? ⟨w.heap.size, 0, none⟩ = some (.int .u64 (n : Int)) ∧ w'.cell? ⟨w.heap.size, 1, none⟩ = some (.int .u64 (d : Int)) ∧ w'.cell? ⟨w.heap.size, 2, none⟩ = some (.int .u64 (b : Int)) ∧ w'.cell? ⟨bb, o + k' * 2, none⟩ = some (.int .u64 (pt : Int)) ∧ w'.cell? ⟨bb, o + k' * 2 + 1, none⟩ = some (.int .u64 (pk : Int)))
            (first | exact ⟨y0, y1, y2, c1, c2⟩ | exact ⟨z0, z1, z2, z3, z4⟩)
            ((first
              | (go_at_call 13; refine (HT _).out.mono ?_; rintro e w3 ⟨rfl, k3⟩; have z0 := Keeps.cell (k3 (fun _ => False)) (show wr.drew.cell? _ = _ from y0) (fun z => z); have z1 := Keeps.cell (k3 (fun _ => False)) (show wr.drew.cell? _ = _ from y1) (fun z => z); have z2 := Keeps.cell (k3 (fun _ => False)) (show wr.drew.cell? _ = _ from y2) (fun z => z); have z3 := Keeps.cell (k3 (fun _ => False)) (show wr.drew.cell? _ = _ from c1) (fun z => z); have z4 := Keeps.cell (k3 (fun _ => False)) (show wr.drew.cell? _ = _ from c2) (fun z => z); have K3 : Hid (∀ S, Keeps S wr w3) := Lib.hid (fun S => Keeps.trans (Keeps.refl S wr).drew (k3 S)); clear k3)))
          have M3 := Lib.hid ((HBM.out.grown K3.out).alloc (.cells #[.bool le] 4))
          have B3 := Lib.hid (Blk.new w3 4 (bools [le]).toArray)
          have BK3 := Lib.hid ((Blk.keeps HBK.out (K3.out (fun _ => False)) (fun z => z)).alloc (.cells #[.bool le] 4))
          clear z0 z1 z2 z3 z4 y0 y1 y2 c1 c2 HBM HBK
          go_wp2_with (at_builtin; refine Bm.wpList_append rfl _ _ rfl M3.out rfl w3.heap.size 1 1 [le] rfl rfl B3.out HRL.out ?_; intro v4 w4 m4 hold4 kk4; have M4 := Lib.hid m4; have BK4 := Lib.hid (Blk.keeps BK3.out kk4 (M3.out.apart hlt1)); clear m4 hold4 kk4)
          go_roundw
          case rel => exact ⟨k' + 1, by have := HLT.out; omega, by go_num, by rw [HSN.out.2], by rw [HSN.out.1]; exact M4.out, BK4.out⟩
          case measure => have := HLT.out; simp [intOf]; omega
        · have hlt2' : ¬ (k' : Int) < (k : Int) := by omega
          have hkk : k' = k := by omega
          subst hkk
          have HTA := Lib.hid (show l.take k' = l by rw [← HL.out.1, List.take_length])
          clear hbm hbk hk' hlt2
          go_wp2
          try rw [Exit.noGoto_ret]
          go_ret2
          have hm := HBM.out
          rw [HTA.out] at hm
          exact ⟨_, rfl, hm.base V1.out.1⟩
end
end Go.Proofs.Ytbiadglhfpapaaa.bk
