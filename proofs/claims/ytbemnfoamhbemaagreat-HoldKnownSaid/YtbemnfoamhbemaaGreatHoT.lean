/-
  hold at string: the shelf: an entry laid onto an empty one; a shelf of one: what may be freed, what not.
-/
import Derived.Test.YtbemnfoamhbemaaGreatHoS
import Derived.Lib.SliceRun
import Derived.WalkSpells
set_option linter.unusedVariables false
namespace Go.Proofs.YtbemnfoamhbemaaGreat.hoS
open Go.RowKit Go.Proofs.YtbemnfoamhbemaaGreat.oc Go.Proofs.YtbemnfoamhbemaaGreat.mz Go.Proofs.YtbemnfoamhbemaaGreat.at_ Go.Proofs.YtbemnfoamhbemaaGreat.gt Go.Proofs.YtbemnfoamhbemaaGreat.gw Go.Proofs.YtbemnfoamhbemaaGreat.ep Go.Proofs.YtbemnfoamhbemaaGreat.ho
theorem kept_info : (Tryz.prog.info? 206).map (fun i => (i.zero, i.size, i.bytes)) = some (some (.agg #[.pointer none, .int .u64 0]), 2, 16) := by kernel_rfl
def row1 (e x : Nat) : List Value := [.pointer (some ⟨e, 0, none⟩), .int .u64 (x : Int)]
/-- the list: one entry, and the epoch when it was swapped out -/
structure One (w : World) (K c e x : Nat) : Prop where
  blk : ∃ cur : Array Value, w.heap[K]? = some (.cells cur 206 (0, 0)) ∧ cur.size = c * 2 ∧ cur.toList.take 2 = row1 e x
  pos : 1 ≤ c
  top : c ≤ maxLen
section
variable {w w' : World} {K c e x : Nat}
theorem One.lt (h : One w K c e x) : K < w.heap.size := by obtain ⟨cur, h, _⟩ := h.blk; exact (Array.getElem?_eq_some_iff.1 h).1
theorem One.keeps {S : Nat → Prop} (h : One w K c e x) (k : Keeps S w w') (hK : ¬ S K) : One w' K c e x := by
  have hl := h.lt
  obtain ⟨cur, h1, h2, h3⟩ := h.blk
  exact ⟨⟨cur, (k.block K hl hK).trans h1, h2, h3⟩, h.pos, h.top⟩
theorem One.own (h : One w K c e x) : w.ownsRow K 206 2 (.slice (some ⟨K, 0, none⟩) 1 c) 1 (row1 e x) := by
  obtain ⟨cur, h1, h2, h3⟩ := h.blk
  exact ⟨rfl, .inr ⟨K, c, cur, rfl, Nat.le_refl _, h1, h.pos, h.top, h2, h3⟩⟩
theorem One.cell0 (h : One w K c e x) : w.cell? ⟨K, 0, none⟩ = some (.pointer (some ⟨e, 0, none⟩)) := h.own.cells (g := K) rfl 0 _ rfl
theorem One.cell1 (h : One w K c e x) : w.cell? ⟨K, 1, none⟩ = some (.int .u64 (x : Int)) := h.own.cells (g := K) rfl 1 _ rfl
theorem One.frozen (h : One w K c e x) (i : Nat) : w.frozen? ⟨K, i, none⟩ = false := by
  obtain ⟨cur, h1, _⟩ := h.blk
  have hb : Blk w K 206 cur.toList := by unfold Blk; simpa using h1
  exact hb.frozen i
end
set_option maxRecDepth 100000 in
set_option maxHeartbeats 1000000 in
theorem insert_nil (B e x : Nat) (w : World) (c0 : w.cell? ⟨B, 0, none⟩ = some (.pointer (some ⟨e, 0, none⟩))) (c1 : w.cell? ⟨B, 1, none⟩ = some (.int .u64 (x : Int))) :
    Calls Tryz.prog 126 #[.slice none 0 0, .int .i64 0, .slice (some ⟨B, 0, none⟩) 1 1] w fun r w' => ∃ K c, r = .returned (.slice (some ⟨K, 0, none⟩) 1 c) ∧ One w' K c e x ∧ w.heap.size ≤ K ∧ ∀ S, Keeps S w w' := by
  obtain ⟨i0, hi0, hz0, hz1, hz2⟩ := info_parts kept_info
  have hown : w.ownsRow w.heap.size 206 2 (.slice none 0 0) 0 [] := World.ownsRow_nil _ _ _ _
  have hsrc : ∀ (j : Nat) (u : Value), (row1 e x)[j]? = some u → w.cell? ((⟨B, 0, none⟩ : Addr).add j) = some u := fun j u hu => by
    rw [Addr.add_lit]
    rcases j with _ | _ | j
    · simp only [row1, List.getElem?_cons_zero, Option.some.injEq] at hu; subst hu; exact c0
    · simp only [row1, List.getElem?_cons_succ, List.getElem?_cons_zero, Option.some.injEq] at hu; subst hu; exact c1
    · simp [row1] at hu
  have hone : ∀ u ∈ row1 e x, u.oneCell' = true := by
    intro u hu
    simp only [row1, List.mem_cons, List.not_mem_nil, or_false] at hu
    rcases hu with rfl | rfl <;> rfl
  have HS := Lib.hid hsrc
  have HO := Lib.hid hown
  have H1 := Lib.hid hone
  have n1 : 0 + 1 ≤ maxLen := by unfold maxLen; omega
  have n2 : (0 + 1) * 16 ≤ 140737488355328 := by omega
  have hl : (row1 e x).length = 1 * 2 := rfl
  have HL := Lib.hid hl
  clear hsrc hown hone hl c0 c1
  go_enter Tryz.func126, Tryz.ntmps126
  go_wp2_with ((at_builtin; refine wpList_apps rfl _ _ 115 rfl w.heap.size 206 i0 _ 2 16 Tryz.underlying115 hi0 hz0 hz1 hz2 rfl (by decide) (.slice none 0 0) 0 [] rfl HO.out ⟨B, 0, none⟩ 1 1 (row1 e x) rfl HL.out HS.out H1.out n1 n2 (Nat.le_refl _) ?_; intro v2 w9 hown2 hg2 hat2; have HO2 := Lib.hid hown2; have HG2 := Lib.hid hg2; clear hown2 hg2 hat2))
  try rw [Exit.noGoto_ret]
  go_ret
  have ho : w9.ownsRow w.heap.size 206 2 v2 1 (row1 e x) := by have := HO2.out; simpa using this
  rcases ho.2 with ⟨_, h⟩ | ⟨g, cap, cur, rfl, hb, hg, h1, h2, h3, h4⟩
  · omega
  · exact ⟨g, cap, rfl, ⟨⟨cur, hg, h3, h4⟩, h1, h2⟩, hb, fun S => ⟨HG2.out.size, fun b hb _ => HG2.out.block b hb (fun e => by simp [Value.ownBlock] at e), HG2.out.os, HG2.out.tape, HG2.out.output⟩⟩
end Go.Proofs.YtbemnfoamhbemaaGreat.hoS
