/-
  A row of one-cell elements that is appended to at its end and cut at its front.
-/
import Derived.Test.YtekglcphdjjmcaaOcApp
import Derived.Test.YtekglcphdjjmcaaMzK
import Derived.Deep.AppendSrc
namespace Go.Proofs.Ytekglcphdjjmcaa.oc
open Go.RowKit Go.Proofs.Ytekglcphdjjmcaa.mz
/-- v shows the elements xs, in a block of the call's own, from wherever in it -/
def Que (w : World) (base : Nat) (e : TypeId) (v : Value) (xs : List Value) : Prop :=
  (v = .slice none 0 0 ∧ xs = []) ∨
  ∃ g off cap cs, v = .slice (some ⟨g, off, none⟩) xs.length cap ∧ base ≤ g ∧ Blk w g e cs ∧ xs.length ≤ cap ∧ off + cap ≤ cs.length ∧ ∀ k u, xs[k]? = some u → cs[off + k]? = some u
section
variable {P : Program} {w w' : World} {base : Nat} {e : TypeId} {v : Value} {xs : List Value}
theorem Que.nil_ (w : World) (base : Nat) (e : TypeId) : Que w base e (.slice none 0 0) [] := .inl ⟨rfl, rfl⟩
theorem Que.form (h : Que w base e v xs) : ∃ A c, v = .slice A xs.length c := by
  rcases h with ⟨rfl, rfl⟩ | ⟨g, off, cap, cs, rfl, _⟩
  · exact ⟨none, 0, rfl⟩
  · exact ⟨_, _, rfl⟩
theorem Que.lt (h : Que w base e v xs) {b : Nat} (hb : v.ownBlock = some b) : base ≤ b ∧ b < w.heap.size := by
  rcases h with ⟨rfl, _⟩ | ⟨g, off, cap, cs, rfl, h1, h2, _⟩
  · simp [Value.ownBlock] at hb
  · simp [Value.ownBlock] at hb
    subst hb
    exact ⟨h1, h2.lt⟩
theorem Que.keeps {S : Nat → Prop} (h : Que w base e v xs) (k : Keeps S w w') (hs : ∀ b, v.ownBlock = some b → ¬ S b) : Que w' base e v xs := by
  rcases h with h | ⟨g, off, cap, cs, rfl, h1, h2, h3⟩
  · exact .inl h
  · exact .inr ⟨g, off, cap, cs, rfl, h1, Blk.keeps h2 k (hs g rfl), h3⟩
theorem Que.alloc (h : Que w base e v xs) (o : Obj) : Que (w.alloc o) base e v xs := h.keeps ((Keeps.refl (fun _ => False) w).alloc o) (fun _ _ z => z)
/-- the front, and what is behind it -/
theorem Que.front {A : Option Addr} {n c : Nat} {x : Value} {r : List Value} (h : Que w base e (.slice A n c) (x :: r)) :
    ∃ b o, A = some ⟨b, o, none⟩ ∧ n = r.length + 1 ∧ n ≤ c ∧ w.cell? ⟨b, o, none⟩ = some x ∧ Que w base e (.slice (if c = 1 then A else A.map (·.add 1)) r.length (c - 1)) r := by
  rcases h with ⟨_, h⟩ | ⟨g, off, cap, cs, he, h1, h2, h3, h4, h5⟩
  · cases h
  · injection he with ha hn hc
    subst ha; subst hn; subst hc
    simp only [List.length_cons] at h3
    refine ⟨g, off, rfl, by simp, by simpa using h3, by rw [h2.cell]; exact h5 0 x rfl, .inr ?_⟩
    by_cases h6 : c = 1
    · subst h6
      have hr : r = [] := List.eq_nil_of_length_eq_zero (by omega)
      subst hr
      exact ⟨g, off, 0, cs, by simp, h1, h2, by simp, by omega, fun k u hk => by simp at hk⟩
    · refine ⟨g, off + 1, c - 1, cs, by simp [h6, Addr.add_lit], h1, h2, by omega, by omega, fun k u hk => ?_⟩
      have := h5 (k + 1) u (by simpa using hk)
      rwa [show off + (k + 1) = off + 1 + k from by omega] at this
theorem Que.run_append (t ty : TypeId) (i : TypeInfo) (z : Value) (bytes : Nat) (ht : P.underlying t = some (.slice e)) (hi : P.info? e = some i) (hz : i.zero = some z)
    (hsize : i.size = 1) (hby : i.bytes = bytes) (hzs : z.cells.size = 1) (h : Que w base e v xs) (ad : Addr) (c : Nat) (u : Value) (hu : w.cell? ad = some u) (h1 : u.oneCell' = true)
    (hn : xs.length + 1 ≤ maxLen) (hb : (xs.length + 1) * bytes ≤ 140737488355328) (hbase : base ≤ w.heap.size) :
    ∃ v' w', (Builtin.append_ #[t, t] ty #[v, .slice (some ad) 1 c]).run P w = .ok v' w' ∧ Que w' base e v' (xs ++ [u]) ∧ w.grownBy w' v.ownBlock ∧ (v'.ownBlock = v.ownBlock ∨ v'.ownBlock = some w.heap.size) := by
  subst hby
  have hnews : ∀ j y, [u][j]? = some y → w.cell? (ad.add j) = some y := fun j y hj => by
    rcases j with _ | j
    · simp at hj; subst hj; simp [Addr.add, hu]
    · simp at hj
  have h1' : ∀ y ∈ [u], y.oneCell' = true := fun y hy => by simp at hy; subst hy; exact h1
  have hl : [u].length = 1 * i.size := by rw [hsize]; rfl
  have hmx : maxLen ≤ 9223372036854775807 := by unfold maxLen; omega
  rcases h with ⟨rfl, rfl⟩ | ⟨g, off, cap, cs, rfl, hg, hblk, hc1, hc2, hc3⟩
  · have hr := run_append_nil (P := P) w t ty e i z ht hi hz ad 1 c [u] hl hnews (by omega) (by omega) (by simp only [List.length_nil] at hb; omega)
    refine ⟨_, _, hr, .inr ⟨w.heap.size, 0, grownCap w 1 0 e, ([u].toArray ++ Builtin.zeroCells z.cells (grownCap w 1 0 e - 1)).toList, rfl, hbase, ?_, ?_, ?_, ?_⟩, ?_, .inr rfl⟩
    · exact Blk.new w.drew e _
    · exact grownCap_ge w 1 0 e
    · have := grownCap_ge w 1 0 e
      simp [size_zeroCells, hzs]
      omega
    · intro k y hk
      rcases k with _ | k
      · simpa using hk
      · simp at hk
    · exact ⟨rfl, rfl, rfl, by simp, fun k hk _ => heap_alloc_old w.drew _ hk⟩
  · by_cases hroom : xs.length + 1 ≤ cap
    · have hr := run_append_room_src (P := P) w t t ty e i ht hi g off xs.length cap (.slice (some ad) 1 c) 1 [u] (Src.ofSlice w ht ad 1 c [u] hl hnews h1') hroom
        (fun j hj => by simp at hj; subst hj; rw [hblk.cell, hsize, List.getElem?_eq_getElem (by omega)]; rfl) (fun j hj => hblk.frozen _)
      rw [hsize] at hr
      refine ⟨_, _, hr, .inr ⟨g, off, cap, cs.set (off + xs.length) u, by simp, hg, ?_, by simpa using hroom, by simpa using hc2, ?_⟩, ?_, .inl rfl⟩
      · have := hblk.put (off + xs.length) u
        simpa [World.setCells] using this
      · intro k y hk
        rcases Nat.lt_trichotomy k xs.length with q | q | q
        · rw [List.getElem?_append_left q] at hk
          rw [List.getElem?_set_ne (by omega)]
          exact hc3 k y hk
        · subst q
          simp at hk
          subst hk
          rw [List.getElem?_set_self (by omega)]
        · rw [List.getElem?_append_right (by omega)] at hk
          rw [List.getElem?_eq_none (by simp; omega)] at hk
          cases hk
      · refine ⟨rfl, rfl, rfl, by simp [World.setCells], fun k _ hk => ?_⟩
        have hne : k ≠ g := fun e => hk (by simp [Value.ownBlock, e])
        exact Below.heap_setCell w ⟨g, off + xs.length * 1, none⟩ u k hne
    · have holds : ∀ j y, xs[j]? = some y → w.cell? ((⟨g, off, none⟩ : Addr).add j) = some y := fun j y hj => by
        rw [Addr.add_lit, hblk.cell]; exact hc3 j y hj
      have hr := run_append_grow (P := P) w t ty e i z ht hi hz ⟨g, off, none⟩ xs.length cap xs (by rw [hsize]; omega) holds ad 1 c [u] hl hnews (by omega) (by omega) (growslice_fits (by omega) hb)
      refine ⟨_, _, hr, .inr ⟨w.heap.size, 0, grownCap w (xs.length + 1) cap e, (xs.toArray ++ [u].toArray ++ Builtin.zeroCells z.cells (grownCap w (xs.length + 1) cap e - (xs.length + 1))).toList, by simp, hbase, ?_, ?_, ?_, ?_⟩, ?_, .inr rfl⟩
      · exact Blk.new w.drew e _
      · have := grownCap_ge w (xs.length + 1) cap e
        simpa using this
      · have := grownCap_ge w (xs.length + 1) cap e
        simp [size_zeroCells, hzs]
        omega
      · intro k y hk
        have hl2 := (List.getElem?_eq_some_iff.1 hk).1
        simp only [Nat.zero_add, Array.toList_append]
        rw [List.getElem?_append_left (by simpa using hl2)]
        simpa using hk
      · exact ⟨rfl, rfl, rfl, by simp, fun k hk _ => heap_alloc_old w.drew _ hk⟩
theorem Que.wp_append {o : Oper} {a : Act} {K : Act → World → Prop} {Q : Exit → Act → World → Prop} (s x : Operand) (t : TypeId)
    (ho : o.op = .call { callee := .builtin .append, args := #[s, x], argTypes := #[t, t] }) (i : TypeInfo) (z : Value) (bytes : Nat) (ht : P.underlying t = some (.slice e)) (hi : P.info? e = some i) (hz : i.zero = some z)
    (hsize : i.size = 1) (hby : i.bytes = bytes) (hzs : z.cells.size = 1) (hs : a.eval s = v) (h : Que w base e v xs) (ad : Addr) (c : Nat) (u : Value) (hx : a.eval x = .slice (some ad) 1 c) (hu : w.cell? ad = some u) (h1 : u.oneCell' = true)
    (hn : xs.length + 1 ≤ maxLen) (hb : (xs.length + 1) * bytes ≤ 140737488355328) (hbase : base ≤ w.heap.size)
    (hk : ∀ v' w', Que w' base e v' (xs ++ [u]) → w.grownBy w' v.ownBlock → (v'.ownBlock = v.ownBlock ∨ v'.ownBlock = some w.heap.size) → K (a.put o.dst v') w') : o.wp P a w K Q := by
  obtain ⟨v', w', hr, h2, h3, h4⟩ := Que.run_append (P := P) t o.type i z bytes ht hi hz hsize hby hzs h ad c u hu h1 hn hb hbase
  unfold Oper.wp execOp
  simp only [ho, resolve, invoke, builtin, Sem.run_bind, Sem.run_pure, Result.andThen_ok, List.map_toArray, List.map_cons, List.map_nil, hs, hx, hr]
  exact hk v' w' h2 h3 h4
theorem Que.wpList_append {ops : Array Oper} {rest : List Oper} {o : Oper} {a : Act} {Q : Exit → Act → World → Prop} (hgd : o.guard = none) (s x : Operand) (t : TypeId)
    (ho : o.op = .call { callee := .builtin .append, args := #[s, x], argTypes := #[t, t] }) (i : TypeInfo) (z : Value) (bytes : Nat) (ht : P.underlying t = some (.slice e)) (hi : P.info? e = some i) (hz : i.zero = some z)
    (hsize : i.size = 1) (hby : i.bytes = bytes) (hzs : z.cells.size = 1) (hs : a.eval s = v) (h : Que w base e v xs) (ad : Addr) (c : Nat) (u : Value) (hx : a.eval x = .slice (some ad) 1 c) (hu : w.cell? ad = some u) (h1 : u.oneCell' = true)
    (hn : xs.length + 1 ≤ maxLen) (hb : (xs.length + 1) * bytes ≤ 140737488355328) (hbase : base ≤ w.heap.size)
    (hk : ∀ v' w', Que w' base e v' (xs ++ [u]) → w.grownBy w' v.ownBlock → (v'.ownBlock = v.ownBlock ∨ v'.ownBlock = some w.heap.size) → wpList P ops Q rest (a.put o.dst v') w') : wpList P ops Q (o :: rest) a w :=
  wpList_plain hgd fun _ hK => Que.wp_append s x t ho i z bytes ht hi hz hsize hby hzs hs h ad c u hx hu h1 hn hb hbase fun v' w' h2 h3 h4 => hK _ _ (hk v' w' h2 h3 h4)
/-- likewise as a step of a region -/
theorem Que.step_append {ops : Array Oper} {o : Oper} {a : Act} {K : Act → World → Prop} {Q : Exit → Act → World → Prop} {E : Prop} (hgd : o.guard = none) (s x : Operand) (t : TypeId)
    (ho : o.op = .call { callee := .builtin .append, args := #[s, x], argTypes := #[t, t] }) (i : TypeInfo) (z : Value) (bytes : Nat) (ht : P.underlying t = some (.slice e)) (hi : P.info? e = some i) (hz : i.zero = some z)
    (hsize : i.size = 1) (hby : i.bytes = bytes) (hzs : z.cells.size = 1) (hs : a.eval s = v) (h : Que w base e v xs) (ad : Addr) (c : Nat) (u : Value) (hx : a.eval x = .slice (some ad) 1 c) (hu : w.cell? ad = some u) (h1 : u.oneCell' = true)
    (hn : xs.length + 1 ≤ maxLen) (hb : (xs.length + 1) * bytes ≤ 140737488355328) (hbase : base ≤ w.heap.size)
    (hk : ∀ v' w', Que w' base e v' (xs ++ [u]) → w.grownBy w' v.ownBlock → (v'.ownBlock = v.ownBlock ∨ v'.ownBlock = some w.heap.size) → K (a.put o.dst v') w') :
    if Region.wanted o (yielded ops a.tmps) = true then Oper.wp P o a w K Q else E := by
  have hw : Region.wanted o (yielded ops a.tmps) = true := by simp [Region.wanted, hgd]
  rw [if_pos hw]
  exact Que.wp_append s x t ho i z bytes ht hi hz hsize hby hzs hs h ad c u hx hu h1 hn hb hbase hk
end
end Go.Proofs.Ytekglcphdjjmcaa.oc
