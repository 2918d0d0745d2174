/-
  The machine's words in memory.
-/
import Derived.Test.YtgenblefbddilaaMzOnA
namespace Go.Proofs.Ytgenblefbddilaa.mz
open Go.RowKit Go.Proofs.Ytgenblefbddilaa.oc
/-- silent lists of its own, all empty -/
def OwnLists (w : World) (F : Nat → Prop) (lv : Value) : Prop :=
  ∃ A2 c2 m, lv = .slice A2 m c2 ∧ m < 1000000 ∧ ∀ i, i < m → ∃ b, A2 = some ⟨b, 0, none⟩ ∧ F b ∧ w.cell? ⟨b, i, none⟩ = some (.slice none 0 0)
theorem OwnLists.keeps {w w' : World} {F S : Nat → Prop} {lv : Value} (h : OwnLists w F lv) (k : Keeps S w w') (hs : ∀ b, F b → ¬ S b) : OwnLists w' F lv := by
  obtain ⟨A2, c2, m, e, hm, f⟩ := h
  refine ⟨A2, c2, m, e, hm, fun i hi => ?_⟩
  obtain ⟨b, e1, hb, h1⟩ := f i hi
  exact ⟨b, e1, hb, (World.cell?_of_block (k.block b (World.block_lt_of_cell? w _ h1) (hs b hb))).trans h1⟩
theorem OwnLists.set {w : World} {F : Nat → Prop} {lv : Value} {q k : Nat} {x y : Int} (h : OwnLists w F lv) (hq : w.cell? ⟨q, k, none⟩ = some (.int .u64 x)) : OwnLists (w.setCell ⟨q, k, none⟩ (.int .u64 y)) F lv := by
  obtain ⟨A2, c2, m, e, hm, f⟩ := h
  refine ⟨A2, c2, m, e, hm, fun i hi => ?_⟩
  obtain ⟨b, e1, hb, h1⟩ := f i hi
  refine ⟨b, e1, hb, ?_⟩
  rw [World.cell?_setCell_other w ⟨q, k, none⟩ ⟨b, i, none⟩ _ (fun z => by first | (rw [z] at h1; rw [h1] at hq; cases hq) | (rw [← z] at h1; rw [h1] at hq; cases hq))]
  exact h1
/-- the words ws lie in the World's block p; all that may be written lies in F -/
structure WInv (w : World) (B p : Nat) (ws : List (List Nat)) (F : Nat → Prop) : Prop where
  at_ : ∃ (wv lv : Value) (vs : List Value), Blk w p 36 [wv, lv] ∧ w.ownsRow B 40 1 wv ws.length vs ∧
    (∀ (i : Nat) (v : Value) (l : List Nat), vs[i]? = some v → ws[i]? = some l → w.ownsRow B 22 1 v l.length (u64s l)) ∧
    (∀ (i j k : Nat) (v v' : Value), i ≠ j → vs[i]? = some v → vs[j]? = some v' → v.ownBlock = some k → v'.ownBlock ≠ some k) ∧
    (∀ (i k : Nat) (v : Value), vs[i]? = some v → v.ownBlock = some k → F k ∧ k ≠ p ∧ wv.ownBlock ≠ some k) ∧ (∀ k, wv.ownBlock = some k → F k ∧ k ≠ p) ∧ OwnLists w F lv
  small : ∀ l ∈ ws, ∀ x ∈ l, x < 18446744073709551616
  me : F p
  above : ∀ b, F b → B ≤ b ∧ b < w.heap.size
theorem WInv.keeps {w w' : World} {B p : Nat} {ws : List (List Nat)} {F S : Nat → Prop} (h : WInv w B p ws F) (k : Keeps S w w') (hs : ∀ b, F b → ¬ S b) : WInv w' B p ws F := by
  obtain ⟨wv, lv, vs, h1, h2, h3, h4, h5, h6, h7⟩ := h.at_
  exact ⟨⟨wv, lv, vs, Blk.keeps h1 k (hs p h.me), owns_keeps h2 k (fun b hb => hs b (h6 b hb).1), fun i v l hv hl => owns_keeps (h3 i v l hv hl) k (fun b hb => hs b (h5 i b v hv hb).1), h4, h5, h6, h7.keeps k hs⟩, h.small, h.me,
    fun b hb => ⟨(h.above b hb).1, Nat.lt_of_lt_of_le (h.above b hb).2 k.size⟩⟩
theorem word_lt {ws : List (List Nat)} (h : ∀ l ∈ ws, ∀ x ∈ l, x < 18446744073709551616) (i k : Nat) : wordAt ws i k < 18446744073709551616 := by
  unfold wordAt
  rw [List.getD_eq_getElem?_getD, List.getD_eq_getElem?_getD]
  cases e : ws[i]? with
  | none => simp
  | some l =>
    simp only [Option.getD_some]
    cases e2 : l[k]? with
    | none => simp
    | some x => exact h l (List.mem_of_getElem? e) x (List.mem_of_getElem? e2)
/-- where a word lies -/
theorem WInv.word {w : World} {B p : Nat} {ws : List (List Nat)} {F : Nat → Prop} (h : WInv w B p ws F) {i k : Nat} (hi : i < ws.length) (hk : k < (ws.getD i []).length) :
    ∃ wa capw q capq lv, Blk w p 36 [.slice (some ⟨wa, 0, none⟩) ws.length capw, lv] ∧ w.cell? ⟨wa, i, none⟩ = some (.slice (some ⟨q, 0, none⟩) (ws.getD i []).length capq) ∧
      w.cell? ⟨q, k, none⟩ = some (.int .u64 (wordAt ws i k : Int)) ∧ w.frozen? ⟨q, k, none⟩ = false ∧ F q ∧
      ∀ x : Nat, x < 18446744073709551616 → WInv (w.setCell ⟨q, k, none⟩ (.int .u64 (x : Int))) B p (setWord ws i k x) F := by
  obtain ⟨wv, lv, vs, h1, h2, h3, h4, h5, h6, h7⟩ := h.at_
  obtain ⟨wa, capw, rfl, _, _⟩ := h2.form (by omega)
  have hvl : vs.length = ws.length := by have := h2.1; omega
  have hvi : vs[i]? = some (vs[i]'(by omega)) := List.getElem?_eq_getElem (by omega)
  have hli : ws[i]? = some (ws.getD i []) := getD_of hi
  have ho := h3 i _ _ hvi hli
  obtain ⟨q, capq, hq, hqB, _⟩ := ho.form (by omega)
  have hcell := h2.cells (g := wa) rfl i _ hvi
  rw [Addr.add_lit, Nat.zero_add, hq] at hcell
  have hob : (vs[i]'(by omega)).ownBlock = some q := by rw [hq]; rfl
  have hfoot := h5 i q _ hvi hob
  rw [hq] at ho
  have hw : (u64s (ws.getD i []))[k]? = some (.int .u64 (wordAt ws i k : Int)) := by
    have := getD_of (d := 0) hk
    rw [u64s, List.getElem?_map, this]; rfl
  have hcw := ho.cells (g := q) rfl k _ hw
  rw [Addr.add_lit, Nat.zero_add] at hcw
  obtain ⟨cur, hcur, hn, hm, hsz, htk⟩ : ∃ cur, w.heap[q]? = some (.cells cur 22 (0, 0)) ∧ (ws.getD i []).length ≤ capq ∧ capq ≤ maxLen ∧ cur.size = capq * 1 ∧ cur.toList.take ((ws.getD i []).length * 1) = u64s (ws.getD i []) := by
    rcases ho.2 with ⟨e, _⟩ | ⟨g, cap, cur, e, _, a1, a2, a3, a4, a5⟩
    · cases e
    · injection e with e1 e2 e3
      injection e1 with e1
      injection e1 with e1
      subst e1; subst e3
      exact ⟨cur, a1, a2, a3, a4, a5⟩
  have hb : Blk w q 22 cur.toList := by unfold Blk; simpa using hcur
  refine ⟨wa, capw, q, capq, lv, h1, hcell, hcw, hb.frozen k, hfoot.1, fun x hx => ?_⟩
  have kq : Keeps (· = q) w (w.setCell ⟨q, k, none⟩ (.int .u64 (x : Int))) := (Keeps.refl (· = q) w).setCell (p := ⟨q, k, none⟩) (.inl rfl) _
  refine ⟨⟨_, lv, vs, Blk.keeps h1 kq (fun e => hfoot.2.1 e.symm), ?_, ?_, h4, h5, h6, h7.set hcw⟩, ?_, h.me, fun b hb => ⟨(h.above b hb).1, Nat.lt_of_lt_of_le (h.above b hb).2 kq.size⟩⟩
  · have := owns_keeps h2 kq (fun b hb e => hfoot.2.2 (by rw [← e]; exact hb))
    simpa [setWord] using this
  · intro j v l hv hl
    unfold setWord at hl
    rw [List.getElem?_set] at hl
    by_cases e : i = j
    · subst e
      rw [if_pos rfl, if_pos hi] at hl
      rw [hvi] at hv
      cases hl; cases hv
      have hp := hb.put k (.int .u64 (x : Int))
      refine ⟨by simp [u64s], .inr ⟨q, capq, (cur.toList.set k (.int .u64 (x : Int))).toArray, ?_, hqB, hp, by simpa using hn, hm, by simpa using hsz, ?_⟩⟩
      · rw [hq]; simp
      · simp only [List.length_set]
        rw [List.take_set, htk]
        simp [u64s, List.map_set]
    · rw [if_neg e] at hl
      exact owns_keeps (h3 j v l hv hl) kq (fun b hb eb => h4 i j q _ v e hvi hv hob (by rw [← eb]; exact hb))
  · intro l hl y hy
    unfold setWord at hl
    rcases List.mem_or_eq_of_mem_set hl with z | rfl
    · exact h.small l z y hy
    · rcases List.mem_or_eq_of_mem_set hy with z | rfl
      · exact h.small _ (List.mem_of_getElem? hli) y z
      · exact hx
end Go.Proofs.Ytgenblefbddilaa.mz
