/-
  bucket: Run.
-/
import Derived.Test.YtbiadglhfpapaaaBpM
import Derived.Test.YtbiadglhfpapaaaBkWo
set_option linter.unusedVariables false
namespace Go.Proofs.Ytbiadglhfpapaaa.bp
open Go.RowKit Go.Proofs.Ytbiadglhfpapaaa.oc Go.Proofs.Ytbiadglhfpapaaa.mz Go.Proofs.Ytbiadglhfpapaaa.bk
theorem own_of_blk {w : World} {g base : Nat} {e : TypeId} {cs : List Value} {n sz : Nat} (h : Blk w g e cs) (hl : cs.length = n * sz) (hb : base ≤ g) (hn : n ≤ maxLen) : w.ownsRow base e sz (.slice (some ⟨g, 0, none⟩) n n) n cs :=
  ⟨hl, .inr ⟨g, n, cs.toArray, rfl, hb, h, Nat.le_refl _, hn, by simp [hl], by rw [← hl]; simp⟩⟩
theorem made_bools (n : Nat) : (madeCells #[.bool false] n).toList = bools (List.replicate n false) := by
  apply List.ext_getElem?
  intro i
  simp only [madeCells, bools, Array.toList_map, Array.toList_range, List.getElem?_map, List.getElem?_replicate]
  by_cases h : i < n
  · simp [h, Nat.mod_one]
  · simp [h]
theorem make_bools (n : Nat) (w : World) (hn : n ≤ 100000000000000) :
    (Instr.makeSlice 38 (.int .i64 (n : Int)) (.int .i64 (n : Int))).run Try.prog w = .ok (.slice (some ⟨w.heap.size, 0, none⟩) n n) (w.alloc (.cells (madeCells #[.bool false] n) 4)) := by
  obtain ⟨i0, hi0, hx⟩ := Option.map_eq_some_iff.1 bool_info
  simp only [Prod.mk.injEq] at hx
  obtain ⟨hz, hsz, hby⟩ := hx
  have h := run_make (P := Try.prog) w 38 4 i0 _ Try.underlying38 hi0 hz .i64 .i64 (n : Int) (n : Int) (by omega) (Int.le_refl _) (by rw [hby]; omega) (by omega)
  rw [hsz] at h
  exact (by simpa using h : _ = Result.ok (Value.slice (some ⟨w.heap.size, 0, none⟩) n n) (w.alloc (.cells (madeCells (Value.bool false).cells n) 4)))
theorem bools_set (xs : List Bool) (i : Nat) (b : Bool) : (bools xs).set i (.bool b) = bools (xs.set i b) := by simp [bools, List.map_set]
theorem runs_set (xs : List Bool) (k m : Nat) (b : Bool) (hk : xs.length = k) (hm : k < m) : (xs ++ List.replicate (m - k) false).set k b = xs ++ [b] ++ List.replicate (m - (k + 1)) false := by
  rw [show m - k = (m - (k + 1)) + 1 from by omega, List.replicate_succ, List.set_append_right _ _ (by omega), show k - xs.length = 0 from by omega]
  simp
section
variable (w : World) (n d b : Nat)
set_option maxRecDepth 100000 in
set_option maxHeartbeats 4000000 in
theorem run_err (A : Option Addr) (m c : Nat) (l : List (Nat × Nat)) (ha : Asks w w.heap.size A l) (hl : l.length = m) (hm9 : m ≤ 100000000000000) (he : ¬ err n d b (lat l) = 0) : Calls Try.prog 22 #[bv n d b, .slice A m c] w fun e w' => e = .returned (.tuple #[.slice none 0 0, .int .i64 (err n d b (lat l))]) ∧ ∀ S, Keeps S w w' := by
  have HW := fun w => Lib.hid (wrong_ w n d b (lat l))
  have w0 : Asks (w.alloc (.cells #[.int .u64 (n : Int), .int .u64 (d : Int), .int .u64 (b : Int)] 24)).drew w.heap.size A l := ha.keeps (S := fun _ => False) (((Keeps.refl _ w).alloc _).drew) (fun _ _ z => z)
  have HL := Lib.hid (latest_ _ A m c l (w0.base (show w.heap.size ≤ (w.alloc (.cells #[.int .u64 (n : Int), .int .u64 (d : Int), .int .u64 (b : Int)] 24)).drew.heap.size from by show w.heap.size ≤ (w.alloc _).heap.size; rw [World.size_alloc]; omega)) hl hm9)
  unfold bv at HW ⊢
  generalize err n d b (lat l) = er at *
  generalize lat l = lt at *
  have q1 : (er == 0) = false := by simp; omega
  have q2 : (er != 0) = true := by simp; omega
  have B0 := Blk.new w 24 #[.int .u64 (n : Int), .int .u64 (d : Int), .int .u64 (b : Int)]
  have K0 : Hid (∀ S, Keeps S w (w.alloc (.cells #[.int .u64 (n : Int), .int .u64 (d : Int), .int .u64 (b : Int)] 24))) := Lib.hid (fun S => (Keeps.refl S w).alloc _)
  clear ha hl hm9 he w0
  go_enter Try.func22, Try.ntmps22
  go_wp2_with fail
  obtain ⟨w1, hw1⟩ : ∃ x, x = w.alloc (.cells #[.int .u64 (n : Int), .int .u64 (d : Int), .int .u64 (b : Int)] 24) := ⟨_, rfl⟩
  rw [← hw1] at B0 K0 HL ⊢
  have x0 : w1.cell? ⟨w.heap.size, 0, none⟩ = some (.int .u64 (n : Int)) := by rw [B0.cell]; rfl
  have x1 : w1.cell? ⟨w.heap.size, 1, none⟩ = some (.int .u64 (d : Int)) := by rw [B0.cell]; rfl
  have x2 : w1.cell? ⟨w.heap.size, 2, none⟩ = some (.int .u64 (b : Int)) := by rw [B0.cell]; rfl
  clear hw1 B0
  go_region_held3 (fun w' => w'.cell? ⟨w.heap.size, 0, none⟩ = some (.int .u64 (n : Int)) ∧ w'.cell? ⟨w.heap.size, 1, none⟩ = some (.int .u64 (d : Int)) ∧ w'.cell? ⟨w.heap.size, 2, none⟩ = some (.int .u64 (b : Int)))
    (first | exact ⟨x0, x1, x2⟩ | exact ⟨y0, y1, y2⟩ | exact ⟨z0, z1, z2⟩)
    ((first
      | (go_at_call 40; refine HL.out.mono ?_; rintro e wa ⟨rfl, ka⟩; have y0 := Keeps.cell (ka (fun _ => False)) (show w1.drew.cell? _ = _ from x0) (fun z => z); have y1 := Keeps.cell (ka (fun _ => False)) (show w1.drew.cell? _ = _ from x1) (fun z => z); have y2 := Keeps.cell (ka (fun _ => False)) (show w1.drew.cell? _ = _ from x2) (fun z => z); have KA : Hid (∀ S, Keeps S w wa) := Lib.hid (fun S => (K0.out S).drew.trans (ka S)); clear ka)
      | (go_at_call 31; refine (HW _).out.mono ?_; rintro e wb ⟨rfl, kb⟩; have z0 := Keeps.cell (kb (fun _ => False)) y0 (fun z => z); have z1 := Keeps.cell (kb (fun _ => False)) y1 (fun z => z); have z2 := Keeps.cell (kb (fun _ => False)) y2 (fun z => z); have KB : Hid (∀ S, Keeps S w wb) := Lib.hid (fun S => (KA.out S).trans (kb S)); clear kb)))
  go_wp2
  try rw [Exit.noGoto_ret]
  go_ret2
  exact ⟨rfl, KB.out⟩
set_option maxRecDepth 100000 in
set_option maxHeartbeats 8000000 in
theorem run_ok (A : Option Addr) (m c : Nat) (l : List (Nat × Nat)) (hm : May n d b) (ha : Asks w w.heap.size A l) (hl : l.length = m) (hm9 : m ≤ 100000000000000) (ht : ∀ p ∈ l, p.1 ≤ 1099511627776) : Calls Try.prog 22 #[bv n d b, .slice A m c] w fun e w' => ∃ v, e = .returned (.tuple #[v, .int .i64 0]) ∧ Bm w w' v (runs n d b 0 l) := by
  have he : err n d b (lat l) = 0 := by
    unfold err
    rw [if_pos hm, if_pos ((lat_le l _).2 ht)]
  have HW := fun w => Lib.hid (wrong_ w n d b (lat l))
  rw [he] at HW
  have HTK := fun (s t k : Nat) (h1 : s < 18446744073709551616) (h2 : t ≤ 1099511627776) (h3 : k < 18446744073709551616) w => Lib.hid (ptake_ w n d b s t k hm h2 h1 h3)
  have w0 : Asks (w.alloc (.cells #[.int .u64 (n : Int), .int .u64 (d : Int), .int .u64 (b : Int)] 24)).drew w.heap.size A l := ha.keeps (S := fun _ => False) (((Keeps.refl _ w).alloc _).drew) (fun _ _ z => z)
  have HL := Lib.hid (latest_ _ A m c l (w0.base (show w.heap.size ≤ (w.alloc (.cells #[.int .u64 (n : Int), .int .u64 (d : Int), .int .u64 (b : Int)] 24)).drew.heap.size from by show w.heap.size ≤ (w.alloc _).heap.size; rw [World.size_alloc]; omega)) hl hm9)
  unfold bv at HW HTK ⊢
  generalize hlt9 : lat l = lt at HL HW
  have HA := Lib.hid ha
  have HI := Lib.hid (show l.length = m ∧ m ≤ 100000000000000 ∧ ∀ p ∈ l, p.1 ≤ 1099511627776 from ⟨hl, hm9, ht⟩)
  have B0 := Blk.new w 24 #[.int .u64 (n : Int), .int .u64 (d : Int), .int .u64 (b : Int)]
  have K0 : Hid (∀ S, Keeps S w (w.alloc (.cells #[.int .u64 (n : Int), .int .u64 (d : Int), .int .u64 (b : Int)] 24))) := Lib.hid (fun S => (Keeps.refl S w).alloc _)
  clear ha hl hm9 he w0 hm ht hlt9
  go_enter Try.func22, Try.ntmps22
  go_wp2_with fail
  obtain ⟨w1, hw1⟩ : ∃ x, x = w.alloc (.cells #[.int .u64 (n : Int), .int .u64 (d : Int), .int .u64 (b : Int)] 24) := ⟨_, rfl⟩
  rw [← hw1] at B0 K0 HL ⊢
  have x0 : w1.cell? ⟨w.heap.size, 0, none⟩ = some (.int .u64 (n : Int)) := by rw [B0.cell]; rfl
  have x1 : w1.cell? ⟨w.heap.size, 1, none⟩ = some (.int .u64 (d : Int)) := by rw [B0.cell]; rfl
  have x2 : w1.cell? ⟨w.heap.size, 2, none⟩ = some (.int .u64 (b : Int)) := by rw [B0.cell]; rfl
  have BB := Lib.hid B0
  clear hw1 B0
  go_region_held3 (fun w' => w'.cell? ⟨w.heap.size, 0, none⟩ = some (.int .u64 (n : Int)) ∧ w'.cell? ⟨w.heap.size, 1, none⟩ = some (.int .u64 (d : Int)) ∧ w'.cell? ⟨w.heap.size, 2, none⟩ = some (.int .u64 (b : Int)))
    (first | exact ⟨x0, x1, x2⟩ | exact ⟨y0, y1, y2⟩ | exact ⟨z0, z1, z2⟩)
    ((first
      | (go_at_call 40; refine HL.out.mono ?_; rintro e wa ⟨rfl, ka⟩; have y0 := Keeps.cell (ka (fun _ => False)) (show w1.drew.cell? _ = _ from x0) (fun z => z); have y1 := Keeps.cell (ka (fun _ => False)) (show w1.drew.cell? _ = _ from x1) (fun z => z); have y2 := Keeps.cell (ka (fun _ => False)) (show w1.drew.cell? _ = _ from x2) (fun z => z); have KA : Hid (∀ S, Keeps S w1 wa) := Lib.hid (fun S => (Keeps.refl S w1).drew.trans (ka S)); clear ka)
      | (go_at_call 31; refine (HW _).out.mono ?_; rintro e wb ⟨rfl, kb⟩; have z0 := Keeps.cell (kb (fun _ => False)) y0 (fun z => z); have z1 := Keeps.cell (kb (fun _ => False)) y1 (fun z => z); have z2 := Keeps.cell (kb (fun _ => False)) y2 (fun z => z); have KB : Hid (∀ S, Keeps S w1 wb) := Lib.hid (fun S => (KA.out S).trans (kb S)); clear kb)))
  have hmk := make_bools m wb HI.out.2.1
  have BW := Lib.hid (Blk.keeps BB.out (KB.out (fun _ => False)) (fun z => z))
  have KW : Hid (∀ S, Keeps S w wb) := Lib.hid (fun S => (K0.out S).trans (KB.out S))
  clear HL HW x0 x1 x2 y0 y1 y2 z0 z1 z2 KA KB BB K0
  obtain ⟨w2, hw2⟩ : ∃ x, x = wb.alloc (.cells (madeCells #[.bool false] m) 4) := ⟨_, rfl⟩
  have bl : Blk w2 wb.heap.size 4 (bools (List.replicate m false)) := by
    have q := Blk.new wb 4 (madeCells #[.bool false] m)
    rw [made_bools, ← hw2] at q
    exact q
  have V0 := Lib.hid (show (∀ S, Keeps S w w2) ∧ Blk w2 w.heap.size 24 [.int .u64 (n : Int), .int .u64 (d : Int), .int .u64 (b : Int)] from ⟨fun S => by rw [hw2]; exact (KW.out S).alloc _, by rw [hw2]; exact BW.out.alloc _⟩)
  rw [← hw2] at hmk
  have HG := Lib.hid (show w.heap.size < wb.heap.size from BW.out.lt)
  obtain ⟨G, hG⟩ : ∃ x, x = wb.heap.size := ⟨_, rfl⟩
  rw [← hG] at hmk bl HG
  have BL := Lib.hid bl
  have m0 : (0 : Int) ≤ (m : Int) := by omega
  have m1 : (m : Int) ≤ 100000000000000 := by have := HI.out.2.1; omega
  clear hw2 hG bl BW KW
  go_wp2_with fail
  go_loopw [8, 23] (fun sv iv wr => ∃ k : Nat, k ≤ m ∧ iv = .int .i64 (k : Int) ∧ sv = .int .u64 ((ends n d b 0 (l.take k) : Nat) : Int) ∧ (∀ S, Keeps S w wr) ∧ Blk wr w.heap.size 24 [.int .u64 (n : Int), .int .u64 (d : Int), .int .u64 (b : Int)] ∧ Blk wr G 4 (bools (runs n d b 0 (l.take k) ++ List.replicate (m - k) false))) (fun sv iv _ => m + 1 - (intOf iv).toNat)
  case atStart => exact ⟨0, Nat.zero_le _, rfl, rfl, V0.out.1, V0.out.2, BL.out⟩
  case round =>
    clear V0 BL hmk
    obtain ⟨k, hk, rfl, rfl, hkk, hb, hbl⟩ := hrel
    have HK := Lib.hid hkk
    have HB := Lib.hid hb
    have HBL := Lib.hid hbl
    have k0 : (0 : Int) ≤ (k : Int) := by omega
    rcases Nat.lt_or_ge k m with hlt | hlt
    · obtain ⟨pp, hp⟩ : ∃ pp, l[k]? = some pp := ⟨_, List.getElem?_eq_getElem (by have := HI.out.1; omega)⟩
      obtain ⟨bb, o, rfl, hbb, c1, c2⟩ := (HA.out.keeps (S := fun _ => False) (hkk _) (fun _ _ z => z)).at_ hp
      have hpt := HI.out.2.2 pp (List.mem_of_getElem? hp)
      have hpk := HA.out.sm pp (List.mem_of_getElem? hp)
      have hsn := runs_snoc n d b (l.take k) 0 pp
      have htk : l.take k ++ [pp] = l.take (k + 1) := by rw [List.take_add_one, hp]; rfl
      rw [htk] at hsn
      have hen := ends_lt n d b (l.take k) 0 (by omega)
      have hrl : (runs n d b 0 (l.take k)).length = k := by rw [runs_len, List.length_take]; have := HI.out.1; omega
      obtain ⟨pt, pk⟩ := pp
      simp only at c1 c2 hpt hpk hsn
      have HT := fun w => Lib.hid (HTK (ends n d b 0 (l.take k)) pt pk hen hpt hpk.2 w).out
      have HSN := Lib.hid hsn
      have HLT := Lib.hid hlt
      have HRS := Lib.hid (fun le => runs_set (runs n d b 0 (l.take k)) k m le hrl hlt)
      have hlt' : (k : Int) < (m : Int) := by omega
      have y0 : wr.cell? ⟨w.heap.size, 0, none⟩ = some (.int .u64 (n : Int)) := by rw [hb.cell]; rfl
      have y1 : wr.cell? ⟨w.heap.size, 1, none⟩ = some (.int .u64 (d : Int)) := by rw [hb.cell]; rfl
      have y2 : wr.cell? ⟨w.heap.size, 2, none⟩ = some (.int .u64 (b : Int)) := by rw [hb.cell]; rfl
      have hba := hb.alloc (.cells #[.int .u64 (pt : Int), .int .u64 (pk : Int)] 50)
      have z0 : (wr.alloc (.cells #[.int .u64 (pt : Int), .int .u64 (pk : Int)] 50)).cell? ⟨w.heap.size, 0, none⟩ = some (.int .u64 (n : Int)) := by rw [hba.cell]; rfl
      have z1 : (wr.alloc (.cells #[.int .u64 (pt : Int), .int .u64 (pk : Int)] 50)).cell? ⟨w.heap.size, 1, none⟩ = some (.int .u64 (d : Int)) := by rw [hba.cell]; rfl
      have z2 : (wr.alloc (.cells #[.int .u64 (pt : Int), .int .u64 (pk : Int)] 50)).cell? ⟨w.heap.size, 2, none⟩ = some (.int .u64 (b : Int)) := by rw [hba.cell]; rfl
      have HGC := Lib.hid (show k < (bools (runs n d b 0 (l.take k) ++ List.replicate (m - k) false)).length from by simp [bools, hrl]; omega)
      clear hp hpt hpk hbb hsn htk hen hkk hb hbl hk hlt hrl hba
      generalize ends n d b 0 (l.take k) = st at *
      generalize lets n d b st pt pk = le at *
      generalize takeOf n d b st pt pk = tk at *
      go_wp2_with fail
      refine (HT _).out.mono ?_
      rintro e w3 ⟨rfl, k3⟩
      have kk3 : ∀ S, Keeps S wr w3 := fun S => ((Keeps.refl S wr).alloc _).trans (k3 S)
      have K3 : Hid (∀ S, Keeps S w w3) := Lib.hid (fun S => (HK.out S).trans (kk3 S))
      have B3 := Lib.hid (Blk.keeps HB.out (kk3 (fun _ => False)) (fun z => z))
      have bl3 := Blk.keeps HBL.out (kk3 (fun _ => False)) (fun z => z)
      have BL3 := Lib.hid bl3
      obtain ⟨u, hu⟩ : ∃ u, w3.cell? ⟨G, k, none⟩ = some u := ⟨_, by rw [bl3.cell]; exact List.getElem?_eq_getElem HGC.out⟩
      have hf := bl3.frozen k
      clear k3 kk3 bl3 y0 y1 y2 c1 c2 HK HB HBL z0 z1 z2
      go_wp2
      go_roundw
      case rel =>
        refine ⟨k + 1, HLT.out, by go_num, by rw [HSN.out.2], fun S => (K3.out S).setCell (.inr (Nat.le_of_lt HG.out)) _, Blk.keeps B3.out (Keeps.here (b := G) _) (fun e => by have := HG.out; omega), ?_⟩
        have := BL3.out.put k (.bool le)
        rw [bools_set, HRS.out, ← HSN.out.1] at this
        exact this
      case measure => have := HLT.out; simp [intOf]; omega
    · have hlt' : ¬ (k : Int) < (m : Int) := by omega
      have hkm : k = m := by omega
      have HT := Lib.hid (show l.take k = l by rw [hkm, ← HI.out.1, List.take_length])
      have HKM := Lib.hid hkm
      clear hk hlt hkk hb hbl hkm
      go_wp2
      try rw [Exit.noGoto_ret]
      go_ret2
      refine ⟨_, rfl, ?_, HK.out⟩
      have := HBL.out
      rw [HT.out, HKM.out, Nat.sub_self, List.replicate_zero, List.append_nil] at this
      have hln : (runs n d b 0 l).length = m := by rw [runs_len]; exact HI.out.1
      rw [hln]
      exact own_of_blk this (by simp [bools, hln]) (Nat.le_of_lt HG.out) (by have := HI.out.2.1; unfold maxLen; omega)
theorem run_said : RunSaid := fun w n d b A m c l hm ha hl hm9 ht => run_ok w n d b A m c l hm ha hl hm9 ht
theorem most_said : MostSaid := fun w n d b t hm ht => most_ok w n d b t (by unfold err; rw [if_pos hm, if_pos ht])
theorem take_said : TakeSaid := fun w n d b s t k hm ht hs hk => take_ok w n d b s t k (by unfold err; rw [if_pos hm, if_pos ht]) hs hk
end
end Go.Proofs.Ytbiadglhfpapaaa.bp
