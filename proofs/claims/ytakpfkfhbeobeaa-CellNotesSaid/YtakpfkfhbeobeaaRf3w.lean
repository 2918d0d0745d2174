/-
  patchbayref03's World of three words.
-/
import Derived.Test.YtakpfkfhbeobeaaRf3d
import Derived.Test.YtakpfkfhbeobeaaMzCopyW
import Derived.BigRegion
set_option linter.unusedVariables false
namespace Go.Proofs.Ytakpfkfhbeobeaa.rf3
open Go.RowKit Go.Proofs.Ytakpfkfhbeobeaa.oc Go.Proofs.Ytakpfkfhbeobeaa.mz Go.Proofs.Ytakpfkfhbeobeaa.ce
/-- what the loop's head finds: k words were laid -/
structure WRel (w3 : World) (O : Nat) (ws : List (List Nat)) (k : Nat) (wr : World) (A' : Option Addr) (c' : Nat) (A2 : Option Addr) (c2 : Nat) (vs : List Value) : Prop where
  var : Blk wr O 36 [.slice A' k c', .slice A2 k c2]
  own : OwnWords wr w3.heap.size (ws.take k) (.slice A' k c') vs
  nils : wr.ownsRow w3.heap.size 155 1 (.slice A2 k c2) k (List.replicate k (.slice none 0 0))
  far : ∀ (i : Nat) (v : Value) (b : Nat), vs[i]? = some v → v.ownBlock = some b → (Value.slice A2 k c2).ownBlock ≠ some b
  two : ∀ b, (Value.slice A' k c').ownBlock = some b → (Value.slice A2 k c2).ownBlock ≠ some b
  keep : Keeps (· = O) w3 wr
theorem round_w {w3 wr w8 w9 wB wC : World} {O k : Nat} {ws : List (List Nat)} {l : List Nat} {A' A2 B' B2 : Option Addr} {c' c2 d' d2 : Nat} {v : Value} {vs : List Value} (h : WRel w3 O ws k wr A' c' A2 c2 vs) (hl : ws[k]? = some l) (hOB : O < w3.heap.size)
    (k1 : Keeps (fun _ => False) wr w8) (ho : w8.ownsRow wr.heap.size 22 1 v l.length (u64s l))
    (k2 : Keeps (fun b => (Value.slice A' k c').ownBlock = some b) w8 w9) (hr : w9.ownsRow w3.heap.size 42 1 (.slice B' (k + 1) d') (k + 1) (vs ++ [v])) (hat : (Value.slice B' (k + 1) d').ownBlock = (Value.slice A' k c').ownBlock ∨ ∃ j, (Value.slice B' (k + 1) d').ownBlock = some j ∧ w8.heap.size ≤ j)
    (hB : wB = w9.setCell ⟨O, 0, none⟩ (.slice B' (k + 1) d'))
    (k3 : Keeps (fun b => (Value.slice A2 k c2).ownBlock = some b) wB wC) (hr2 : wC.ownsRow w3.heap.size 155 1 (.slice B2 (k + 1) d2) (k + 1) (List.replicate k (.slice none 0 0) ++ [.slice none 0 0])) (hat2 : (Value.slice B2 (k + 1) d2).ownBlock = (Value.slice A2 k c2).ownBlock ∨ ∃ j, (Value.slice B2 (k + 1) d2).ownBlock = some j ∧ wB.heap.size ≤ j) :
    WRel w3 O ws (k + 1) (wC.setCell ⟨O, 1, none⟩ (.slice B2 (k + 1) d2)) B' d' B2 d2 (vs ++ [v]) := by
  have hkl : k < ws.length := (List.getElem?_eq_some_iff.1 hl).1
  have htk : ws.take (k + 1) = ws.take k ++ [l] := by rw [List.take_add_one, hl]; rfl
  have hBw := h.keep.size
  have hS := h.own.snoc k1 ho hBw k2 hr (by simp; omega) hat
  have z1 := k1.size
  have z2 := k2.size
  have z3 := k3.size
  have hA2 : ∀ b : Nat, (Value.slice A2 k c2).ownBlock = some b → w3.heap.size ≤ b ∧ b < wr.heap.size := fun b hb => h.nils.lt b hb
  have hA1 : ∀ b, (Value.slice A' k c').ownBlock = some b → w3.heap.size ≤ b ∧ b < wr.heap.size := fun b hb => h.own.row.lt b hb
  have hv : ∀ b, v.ownBlock = some b → wr.heap.size ≤ b ∧ b < w8.heap.size := fun b hb => ho.lt b hb
  have kB : Keeps (· = O) w9 wB := by rw [hB]; exact Keeps.here _
  have zB := kB.size
  have v1 := Blk.keeps (Blk.keeps h.var k1 (fun z => z)) k2 (fun z => by have := (hA1 _ z).1; omega)
  have v2 : Blk wB O 36 [.slice B' (k + 1) d', .slice A2 k c2] := by rw [hB]; simpa using v1.put 0 (.slice B' (k + 1) d')
  have v3 := Blk.keeps v2 k3 (fun z => by have := (hA2 _ z).1; omega)
  have kC : Keeps (· = O) wC (wC.setCell ⟨O, 1, none⟩ (.slice B2 (k + 1) d2)) := Keeps.here _
  have hvs : ∀ (i : Nat) (u : Value) (b : Nat), (vs ++ [v])[i]? = some u → u.ownBlock = some b → (Value.slice A2 k c2).ownBlock ≠ some b := fun i u b hu hb e => by
    rcases Nat.lt_or_ge i vs.length with q | q
    · rw [List.getElem?_append_left q] at hu
      exact h.far i u b hu hb e
    · rw [List.getElem?_append_right q] at hu
      rcases Nat.eq_zero_or_pos (i - vs.length) with e2 | e2
      · rw [e2] at hu; simp at hu; subst hu
        have := hv b hb; have := hA2 b e; omega
      · rw [List.getElem?_eq_none (by simp; omega)] at hu; cases hu
  have hB1 : ∀ b, (Value.slice B' (k + 1) d').ownBlock = some b → (Value.slice A2 k c2).ownBlock ≠ some b := fun b hb e => by
    rcases hat with z | ⟨j, z, hj⟩
    · rw [z] at hb; exact h.two b hb e
    · rw [z] at hb; injection hb with hb; have := hA2 b e; omega
  have hvlt : ∀ (i : Nat) (u : Value) (b : Nat), (vs ++ [v])[i]? = some u → u.ownBlock = some b → b < wB.heap.size := fun i u b hu hb => by
    have hi : i < (ws.take k ++ [l]).length := by have := (List.getElem?_eq_some_iff.1 hu).1; have := hS.len; omega
    have := ((hS.own i u _ hu (List.getElem?_eq_getElem hi)).lt b hb).2
    omega
  have hB1lt : ∀ b, (Value.slice B' (k + 1) d').ownBlock = some b → b < wB.heap.size := fun b hb => by have := (hr.lt b hb).2; omega
  have hS2 : OwnWords wC w3.heap.size (ws.take k ++ [l]) (.slice B' (k + 1) d') (vs ++ [v]) := by
    have q := hS.keeps kB (fun b e => by subst e; exact .inl hOB)
    exact ⟨owns_keeps q.row k3 (fun b hb z => hB1 b hb z), fun i u l' hu hl' => owns_keeps (q.own i u l' hu hl') k3 (fun b hb z => hvs i u b hu hb z), q.apart, q.off⟩
  refine ⟨by simpa using v3.put 1 (.slice B2 (k + 1) d2), ?_, ?_, ?_, ?_, ?_⟩
  · rw [htk]
    exact hS2.keeps kC (fun b e => by subst e; exact .inl hOB)
  · rw [List.replicate_succ']
    exact owns_keeps hr2 kC (fun b hb e => by have := (hr2.lt b hb).1; omega)
  · intro i u b hu hb e
    rcases hat2 with z | ⟨j, z, hj⟩
    · rw [z] at e; exact hvs i u b hu hb e
    · rw [z] at e; injection e with e; have := hvlt i u b hu hb; omega
  · intro b hb e
    rcases hat2 with z | ⟨j, z, hj⟩
    · rw [z] at e; exact hB1 b hb e
    · rw [z] at e; injection e with e; have := hB1lt b hb; omega
  · refine ⟨by have := kC.size; omega, fun b hb hs => ?_, (h.keep.same.trans k1.same).trans ((k2.same.trans kB.same).trans (k3.same.trans kC.same))⟩
    rw [kC.block b (by omega) hs, k3.block b (by omega) (fun z => by have := (hA2 b z).1; omega), kB.block b (by omega) hs, k2.block b (by omega) (fun z => by have := (hA1 b z).1; omega), k1.block b (by omega) (fun z => z), h.keep.block b hb hs]
theorem own_words {w : World} {B : Nat} {ws : List (List Nat)} {A : Option Addr} {n c : Nat} {vs : List Value} (h : OwnWords w B ws (.slice A n c) vs) (hn : n = ws.length) : IsWords w w.heap.size (.slice A n c) ws := by
  subst hn
  have hl := h.len
  refine ⟨A, c, rfl, fun i l hi => ?_⟩
  have hil := (List.getElem?_eq_some_iff.1 hi).1
  obtain ⟨g, cap, hv, _, hlt⟩ := h.row.form (by omega)
  injection hv with e1 e2 e3
  subst e1
  have hvi : vs[i]? = some vs[i] := List.getElem?_eq_getElem (by omega)
  have ho := h.own i _ l hvi hi
  have hc := h.row.cells (g := g) rfl i _ hvi
  rw [Addr.add_lit] at hc
  obtain ⟨A', c', e⟩ : ∃ A' c', vs[i] = .slice A' l.length c' := by
    rcases ho.2 with ⟨e, e0⟩ | ⟨g', cap', cur, e, _⟩
    · exact ⟨none, 0, by rw [e, e0]⟩
    · exact ⟨_, _, e⟩
  rw [e] at hc ho
  exact ⟨g, 0, A', c', rfl, hlt, hc, Rd.own ho⟩
theorem world_blocks (w : World) : ∃ w2, w2 = (w.alloc (.cells #[.slice none 0 0, .slice none 0 0] 36)).alloc (.cells #[.slice none 0 0, .slice none 0 0] 36) ∧ (∀ S, Keeps S w w2) ∧ w2.heap.size = w.heap.size + 2 ∧ Blk w2 w.heap.size 36 [.slice none 0 0, .slice none 0 0] ∧ Blk w2 (w.heap.size + 1) 36 [.slice none 0 0, .slice none 0 0] := by
  have b2 := Blk.new (w.alloc (.cells #[.slice none 0 0, .slice none 0 0] 36)) 36 #[.slice none 0 0, .slice none 0 0]
  rw [World.size_alloc] at b2
  exact ⟨_, rfl, fun S => ((Keeps.refl _ w).alloc _).alloc _, by simp, (Blk.new w _ _).alloc _, b2⟩
set_option maxRecDepth 100000 in
set_option maxHeartbeats 4000000 in
theorem world_ (l : List Nat) (n g cap : Nat) (w : World) (hl : l.length = n) (hn : n ≤ 1000) (hr : ∀ (i x : Nat), l[i]? = some x → w.cell? ⟨g, i, none⟩ = some (.int .u64 (x : Int))) (hg : g < w.heap.size) :
    Calls Try.prog 5 #[.slice (some ⟨g, 0, none⟩) n cap] w fun e w' => ∃ A c A2 c2, e = .returned (.agg #[.slice A n c, .slice A2 n c2]) ∧ (∀ w'', Keeps (fun b => b < w.heap.size ∨ w'.heap.size ≤ b) w' w'' → IsWords w'' w''.heap.size (.slice A n c) (l.map fun x => [x]) ∧ IsLists w'' w''.heap.size (.slice A2 n c2) n) ∧ (∀ S, Keeps S w w') := by
  obtain ⟨i0, hi0, hz0, hz1, hz2⟩ := info_parts slice_info
  obtain ⟨j0, hj0, hy0, hy1, hy2⟩ := info_parts pairs_info
  obtain ⟨w3, hw3, k3, z3, b1, b2⟩ := world_blocks w
  have hrel : WRel w3 (w.heap.size + 1) (l.map fun x => [x]) 0 w3 none 0 none 0 [] := ⟨b2, ⟨World.ownsRow_nil _ _ _ _, fun i v l h => by simp at h, fun i j k v v' _ h => by simp at h, fun i k v h => by simp at h⟩, World.ownsRow_nil _ _ _ _, fun i v b h => by simp at h, fun b h => by simp [Value.ownBlock] at h, Keeps.refl _ w3⟩
  have HR := Lib.hid hrel
  have HC : Hid (∀ (i x : Nat), l[i]? = some x → w3.cell? ⟨g, i, none⟩ = some (.int .u64 (x : Int))) := Lib.hid (fun i x h => Keeps.cell (k3 (fun _ => False)) (hr i x h) (fun z => z))
  have HW := Lib.hid hw3
  have K3 : Hid (∀ S, Keeps S w w3) := Lib.hid k3
  have Z3 : Hid (w3.heap.size = w.heap.size + 2 ∧ g < w.heap.size) := Lib.hid ⟨z3, hg⟩
  have B1 := Lib.hid b1
  have HL := Lib.hid hl
  clear hrel hw3 k3 z3 b1 b2 hr hl hg
  go_enter Try.func5, Try.ntmps5
  go_wp2_with fail
  rw [← HW.out]
  go_wp2_with fail
  go_loopw [4] (fun i wr => ∃ (k : Nat) (A' : Option Addr) (c' : Nat) (A2 : Option Addr) (c2 : Nat) (vs : List Value), k ≤ n ∧ i = .int .i64 k ∧ WRel w3 (w.heap.size + 1) (l.map fun x => [x]) k wr A' c' A2 c2 vs) (fun i _ => n - (intOf i).toNat)
  case atStart => exact ⟨0, none, 0, none, 0, [], Nat.zero_le _, rfl, HR.out⟩
  case round =>
    obtain ⟨k, A', c', A2, c2, vs, hk, rfl, h⟩ := hrel
    clear HR
    have H := Lib.hid h
    have hv := h.var
    by_cases hlt : k < n
    · obtain ⟨x, hx⟩ : ∃ x, l[k]? = some x := ⟨_, List.getElem?_eq_getElem (by rw [HL.out]; exact hlt)⟩
      have hlk : (l.map fun x => [x])[k]? = some [x] := by rw [List.getElem?_map, hx]; rfl
      have hzz := Z3.out
      have hcx : wr.cell? ⟨g, k, none⟩ = some (.int .u64 (x : Int)) := Keeps.cell h.keep (HC.out k x hx) (by omega)
      have q0 : wr.cell? ⟨w.heap.size + 1, 0, none⟩ = some (.slice A' k c') := by rw [hv.cell]; rfl
      have hlt' : (k : Int) < (n : Int) := by omega
      have k0 : (0 : Int) ≤ (k : Int) := by omega
      have hOl : w.heap.size + 1 < wr.heap.size := hv.lt
      have hgl : g < wr.heap.size := by omega
      have hBw : w3.heap.size ≤ wr.heap.size := h.keep.size
      -- ahead of the first append
      have hkt : (l.map fun x => [x]).length = n := by rw [List.length_map]; exact HL.out
      have k8 : Keeps (fun _ => False) wr (((wr.alloc (.cells #[.int .u64 (x : Int)] 22)).alloc (.cells #[.slice (some ⟨wr.heap.size, 0, none⟩) 1 1] 42)).drew) := (((Keeps.refl _ wr).alloc _).alloc _).drew
      have ho1 := owns_keeps h.own.row k8 (fun _ _ z => z)
      rw [List.length_take, hkt, Nat.min_eq_left hk] at ho1
      have hrd : Rd (((wr.alloc (.cells #[.int .u64 (x : Int)] 22)).alloc (.cells #[.slice (some ⟨wr.heap.size, 0, none⟩) 1 1] 42)).drew) (wr.heap.size + 2) (some ⟨wr.heap.size + 1, 0, none⟩) [.slice (some ⟨wr.heap.size, 0, none⟩) 1 1] := by
        have := (Blk.new (wr.alloc (.cells #[.int .u64 (x : Int)] 22)) 42 #[.slice (some ⟨wr.heap.size, 0, none⟩) 1 1]).rd
        rw [World.size_alloc] at this
        exact this.drew
      have ho8 : (((wr.alloc (.cells #[.int .u64 (x : Int)] 22)).alloc (.cells #[.slice (some ⟨wr.heap.size, 0, none⟩) 1 1] 42)).drew).ownsRow wr.heap.size 22 1 (.slice (some ⟨wr.heap.size, 0, none⟩) 1 1) 1 (u64s [x]) :=
        own_of_blk (((Blk.new wr 22 #[.int .u64 (x : Int)]).alloc _).drew) rfl (Nat.le_refl _) (by unfold maxLen; omega)
      have hsz8 : (((wr.alloc (.cells #[.int .u64 (x : Int)] 22)).alloc (.cells #[.slice (some ⟨wr.heap.size, 0, none⟩) 1 1] 42)).drew).heap.size = wr.heap.size + 2 := by show ((wr.heap.push _).push _).size = _; simp
      have HK9 := Lib.hid (show ∀ w9, (((wr.alloc (.cells #[.int .u64 (x : Int)] 22)).alloc (.cells #[.slice (some ⟨wr.heap.size, 0, none⟩) 1 1] 42)).drew).grownBy w9 (Value.slice A' k c').ownBlock → w9.cell? ⟨w.heap.size + 1, 0, none⟩ = some (.slice A' k c') ∧ w9.frozen? ⟨w.heap.size + 1, 0, none⟩ = false from fun w9 hg => by
        have b9 := Blk.grown (Blk.keeps hv k8 (fun z => z)) hg (fun e => by have := (h.own.row.lt _ e.symm).1; omega)
        exact ⟨by rw [b9.cell]; rfl, b9.frozen 0⟩)
      have HO1 := Lib.hid ho1
      have HRD := Lib.hid hrd
      have HBS : Hid (w3.heap.size ≤ (((wr.alloc (.cells #[.int .u64 (x : Int)] 22)).alloc (.cells #[.slice (some ⟨wr.heap.size, 0, none⟩) 1 1] 42)).drew).heap.size) := Lib.hid (by omega)
      have HREST := Lib.hid (show ∀ w9 g2 cap2, (((wr.alloc (.cells #[.int .u64 (x : Int)] 22)).alloc (.cells #[.slice (some ⟨wr.heap.size, 0, none⟩) 1 1] 42)).drew).grownBy w9 (Value.slice A' k c').ownBlock → w9.ownsRow w3.heap.size 42 1 (.slice (some ⟨g2, 0, none⟩) (k + 1) cap2) (k + 1) (vs ++ [.slice (some ⟨wr.heap.size, 0, none⟩) 1 1]) → ((Value.slice (some ⟨g2, 0, none⟩) (k + 1) cap2).ownBlock = (Value.slice A' k c').ownBlock ∨ (Value.slice (some ⟨g2, 0, none⟩) (k + 1) cap2).ownBlock = some (((wr.alloc (.cells #[.int .u64 (x : Int)] 22)).alloc (.cells #[.slice (some ⟨wr.heap.size, 0, none⟩) 1 1] 42)).drew).heap.size) →
          ∃ wB, wB = w9.setCell ⟨w.heap.size + 1, 0, none⟩ (.slice (some ⟨g2, 0, none⟩) (k + 1) cap2) ∧ Blk wB (w.heap.size + 1) 36 [.slice (some ⟨g2, 0, none⟩) (k + 1) cap2, .slice A2 k c2] ∧ wB.ownsRow w3.heap.size 155 1 (.slice A2 k c2) k (List.replicate k (.slice none 0 0)) ∧ w3.heap.size ≤ wB.heap.size ∧
          (∀ wC B2 d2, Keeps (fun b => (Value.slice A2 k c2).ownBlock = some b) wB wC → wC.ownsRow w3.heap.size 155 1 (.slice B2 (k + 1) d2) (k + 1) (List.replicate k (.slice none 0 0) ++ [.slice none 0 0]) → ((Value.slice B2 (k + 1) d2).ownBlock = (Value.slice A2 k c2).ownBlock ∨ ∃ j, (Value.slice B2 (k + 1) d2).ownBlock = some j ∧ wB.heap.size ≤ j) → WRel w3 (w.heap.size + 1) (l.map fun x => [x]) (k + 1) (wC.setCell ⟨w.heap.size + 1, 1, none⟩ (.slice B2 (k + 1) d2)) (some ⟨g2, 0, none⟩) cap2 B2 d2 (vs ++ [.slice (some ⟨wr.heap.size, 0, none⟩) 1 1])) from fun w9 g2 cap2 hg hr hat => by
        have k9 := Keeps.of_grown hg
        have hA1 : ∀ b, (Value.slice A' k c').ownBlock = some b → w3.heap.size ≤ b ∧ b < wr.heap.size := fun b hb => h.own.row.lt b hb
        have hA2 : ∀ b, (Value.slice A2 k c2).ownBlock = some b → w3.heap.size ≤ b ∧ b < wr.heap.size := fun b hb => h.nils.lt b hb
        have kB : Keeps (· = w.heap.size + 1) w9 (w9.setCell ⟨w.heap.size + 1, 0, none⟩ (.slice (some ⟨g2, 0, none⟩) (k + 1) cap2)) := Keeps.here _
        have v9 := Blk.keeps (Blk.keeps hv k8 (fun z => z)) k9 (fun z => by have := (hA1 _ z).1; omega)
        refine ⟨_, rfl, by simpa using v9.put 0 (.slice (some ⟨g2, 0, none⟩) (k + 1) cap2), ?_, ?_, fun wC B2 d2 kC hr2 hat2 => ?_⟩
        · exact owns_keeps (owns_keeps (owns_keeps h.nils k8 (fun _ _ z => z)) k9 (fun b hb z => h.two b z hb)) kB (fun b hb e => by have := (hA2 b hb).1; omega)
        · have := kB.size; have := k9.size; omega
        · exact round_w h hlk (by omega) k8 ho8 k9 hr (by rcases hat with z | z; exact .inl z; exact .inr ⟨_, z, Nat.le_refl _⟩) rfl kC hr2 hat2)
      have n1 : k + 1 ≤ 140737488355328 := by omega
      have q1 : (wr.alloc (.cells #[.int .u64 (x : Int)] 22)).cell? ⟨w.heap.size + 1, 0, none⟩ = some (.slice A' k c') := by rw [(hv.alloc _).cell]; rfl
      have q2 : ((wr.alloc (.cells #[.int .u64 (x : Int)] 22)).alloc (.cells #[.slice (some ⟨wr.heap.size, 0, none⟩) 1 1] 42)).cell? ⟨w.heap.size + 1, 0, none⟩ = some (.slice A' k c') := by rw [((hv.alloc _).alloc _).cell]; rfl
      clear hv ho1 hrd ho8 k8 hsz8 h
      go_wp2_with fail
      go_region_law (refine step_app rfl _ _ 33 rfl w3.heap.size 42 i0 _ 24 Try.underlying33 hi0 hz0 hz1 hz2 rfl (.slice A' k c') k vs rfl HO1.out (wr.heap.size + 2) (some ⟨wr.heap.size + 1, 0, none⟩) 1 1 [.slice (some ⟨wr.heap.size, 0, none⟩) 1 1] rfl HRD.out rfl (one_slice _ _ _) n1 (by omega) HBS.out ?_; intro v2 w9 hown2 hg2 hat2; obtain ⟨g2, cap2, rfl, hg20, hg21⟩ := hown2.form (Nat.succ_pos _); obtain ⟨x1, x2⟩ := HK9.out _ hg2)
      all_goals
        obtain ⟨wB, hwB, bB, oB, sB, HFIN0⟩ := HREST.out _ _ _ hg2 hown2 hat2
        have HFIN : Hid (∀ wC B2 d2, _) := Lib.hid HFIN0
        clear HFIN0
        rw [← hwB]
        have c1 : wB.cell? ⟨w.heap.size + 1, 1, none⟩ = some (.slice A2 k c2) := by rw [bB.cell]; rfl
        have HOB := Lib.hid (oB.alloc (.cells #[.slice none 0 0] 155))
        have HRB := Lib.hid (Blk.new wB 155 #[.slice none 0 0]).rd
        have HSB : Hid (w3.heap.size ≤ (wB.alloc (.cells #[.slice none 0 0] 155)).heap.size) := Lib.hid (by rw [World.size_alloc]; omega)
        have HKC := Lib.hid (show ∀ wC, (wB.alloc (.cells #[.slice none 0 0] 155)).grownBy wC (Value.slice A2 k c2).ownBlock → Blk wC (w.heap.size + 1) 36 [.slice (some ⟨g2, 0, none⟩) (k + 1) cap2, .slice A2 k c2] from fun wC hg => Blk.grown (bB.alloc _) hg (fun e => by have := (oB.lt _ e.symm).1; omega))
        clear bB oB sB hwB x1 x2 hg2 hown2 hat2
        go_wp2_with (at_builtin; refine wpList_app rfl _ _ 34 rfl w3.heap.size 155 j0 _ 24 Try.underlying34 hj0 hy0 hy1 hy2 rfl (.slice A2 k c2) k (List.replicate k (.slice none 0 0)) rfl HOB.out (wB.heap.size + 1) (some ⟨wB.heap.size, 0, none⟩) 1 1 [.slice none 0 0] rfl HRB.out rfl (one_slice _ _ _) n1 (by omega) HSB.out ?_; intro v3 wC hown3 hg3 hat3; obtain ⟨g3, cap3, rfl, hg30, hg31⟩ := hown3.form (Nat.succ_pos _); have bC := HKC.out wC hg3; have y1 : wC.cell? ⟨w.heap.size + 1, 1, none⟩ = some (.slice A2 k c2) := (by rw [bC.cell]; rfl); have y2 := bC.frozen 1; have HC3 := Lib.hid hown3; have HG3 := Lib.hid hg3; have HT3 := Lib.hid hat3; clear bC hown3 hg3 hat3)
        go_roundw
        case rel => exact ⟨k + 1, _, _, _, _, _, hlt, by go_num, HFIN.out wC _ _ (((Keeps.refl _ wB).alloc _).trans (Keeps.of_grown HG3.out)) HC3.out (by rcases HT3.out with z | z; exact .inl z; exact .inr ⟨_, z, by rw [World.size_alloc]; omega⟩)⟩
        case measure => simp [intOf]; omega
    · obtain rfl : k = n := by omega
      have hzz := Z3.out
      have q0 : wr.cell? ⟨w.heap.size + 1, 0, none⟩ = some (.slice A' k c') := by rw [hv.cell]; rfl
      have q1 : wr.cell? ⟨w.heap.size + 1, 1, none⟩ = some (.slice A2 k c2) := by rw [hv.cell]; rfl
      have hb1 := Blk.keeps B1.out h.keep (by omega)
      have r0 : wr.cell? ⟨w.heap.size, 0, none⟩ = some (.slice none 0 0) := by rw [hb1.cell]; rfl
      have r1 : wr.cell? ⟨w.heap.size, 1, none⟩ = some (.slice none 0 0) := by rw [hb1.cell]; rfl
      have g0 := hb1.frozen 0
      have g1 := hb1.frozen 1
      have HB1 := Lib.hid hb1
      clear hv hb1 h
      go_wp2_with fail
      obtain ⟨s0, s1, hkR⟩ := mz.stored (u := .slice A' k c') (v := .slice A2 k c2) HB1.out
      generalize (wr.setCell ⟨w.heap.size, 0, none⟩ (.slice A' k c')).setCell ⟨w.heap.size, 1, none⟩ (.slice A2 k c2) = wx at s0 s1 hkR ⊢
      refine bodyPost_ret (v := .agg #[.slice A' k c', .slice A2 k c2]) (by simp [results, Try.results5, go_sem, s0, s1]) rfl ?_
      have h := H.out
      have ko : Keeps (fun b => b < w3.heap.size ∨ wx.heap.size ≤ b) wr wx := hkR.mono (fun b _ e => by omega)
      refine ⟨_, _, _, _, rfl, fun w'' kk => ?_, fun S => ?_⟩
      · have kall : Keeps (fun b => b < w3.heap.size ∨ wx.heap.size ≤ b) wr w'' := ko.trans (kk.mono (fun b _ z => by omega))
        have hsx := hkR.size
        have hown := h.own.keeps kall (fun b z => by rcases z with z | z; exact .inl z; exact .inr (by omega))
        rw [List.take_of_length_le (by rw [List.length_map, HL.out]; exact Nat.le_refl _)] at hown
        exact ⟨own_words hown (by rw [List.length_map]; exact HL.out.symm), lists_of_row (owns_keeps h.nils kall (fun b hb z => by have := h.nils.lt b hb; rcases z with z | z <;> omega))⟩
      · have ks : Keeps S w w3 := K3.out S
        have z1 := h.keep.size
        have z2 := hkR.size
        exact ⟨by have := ks.size; omega, fun b hb hs => by rw [hkR.block b (by have := ks.size; omega) (by omega), h.keep.block b (by have := ks.size; omega) (by omega), ks.block b hb hs], (ks.same.trans h.keep.same).trans hkR.same⟩
end Go.Proofs.Ytakpfkfhbeobeaa.rf3
