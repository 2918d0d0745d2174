/-
  Codes in memory: what a builder of a call leaves. Codes in memory that are put together by appends: what a builder of a call holds.
-/
import Derived.Test.YtgenblefbddilaaMzAlone
import Derived.Test.YtgenblefbddilaaMzK2
import Derived.Test.YtgenblefbddilaaMzApp
import Derived.OwnWalk
set_option linter.unusedVariables false
namespace Go.Proofs.Ytgenblefbddilaa.mz
open Go.RowKit Go.Proofs.Ytgenblefbddilaa.oc
theorem cells_len (x : Ins) : x.cells.length = 7 := rfl
theorem code_at : ∀ (l : List Ins) (i : Nat) (x : Ins) (j : Nat) (u : Value), l[i]? = some x → x.cells[j]? = some u → (l.flatMap Ins.cells)[i * 7 + j]? = some u
  | a :: l, 0, x, j, u, h, hu => by
    simp at h; subst h
    rw [List.flatMap_cons, Nat.zero_mul, Nat.zero_add, List.getElem?_append_left (List.getElem?_eq_some_iff.1 hu).1]
    exact hu
  | a :: l, i + 1, x, j, u, h, hu => by
    rw [List.flatMap_cons, List.getElem?_append_right (by rw [cells_len]; omega), cells_len, show (i + 1) * 7 + j - 7 = i * 7 + j from by omega]
    exact code_at l i x j u (by simpa using h) hu
  | [], i, x, j, u, h, hu => by simp at h
/-- what a builder leaves: the call, its code in a block of its own -/
theorem code_end (w : World) (code : List Ins) (L : Nat) (hl : code.length = L) :
    ((w.alloc (.cells #[.slice (some ⟨w.heap.size + 1, 0, none⟩) L L, .slice none 0 0] 49)).alloc (.cells (code.flatMap Ins.cells).toArray 114)).cell? ⟨w.heap.size, 0, none⟩ = some (.slice (some ⟨w.heap.size + 1, 0, none⟩) L L) ∧ ((w.alloc (.cells #[.slice (some ⟨w.heap.size + 1, 0, none⟩) L L, .slice none 0 0] 49)).alloc (.cells (code.flatMap Ins.cells).toArray 114)).cell? ⟨w.heap.size, 1, none⟩ = some (.slice none 0 0) ∧ (∀ w'', Keeps (fun b => b < w.heap.size) ((w.alloc (.cells #[.slice (some ⟨w.heap.size + 1, 0, none⟩) L L, .slice none 0 0] 49)).alloc (.cells (code.flatMap Ins.cells).toArray 114)) w'' → IsCode w'' w''.heap.size (.slice (some ⟨w.heap.size + 1, 0, none⟩) L L) code) ∧ (∀ S, Keeps S w ((w.alloc (.cells #[.slice (some ⟨w.heap.size + 1, 0, none⟩) L L, .slice none 0 0] 49)).alloc (.cells (code.flatMap Ins.cells).toArray 114))) := by
  have b1 := (Blk.new w 49 #[.slice (some ⟨w.heap.size + 1, 0, none⟩) L L, .slice none 0 0]).alloc (.cells (code.flatMap Ins.cells).toArray 114)
  have b2 := Blk.new (w.alloc (.cells #[.slice (some ⟨w.heap.size + 1, 0, none⟩) L L, .slice none 0 0] 49)) 114 (code.flatMap Ins.cells).toArray
  rw [World.size_alloc] at b2
  refine ⟨by rw [b1.cell]; rfl, by rw [b1.cell]; rfl, fun w'' kk => ?_, fun S => ((Keeps.refl _ w).alloc _).alloc _⟩
  have b3 := Blk.keeps b2 kk (by omega)
  refine ⟨_, L, by rw [hl], fun i x hx => ⟨_, 0, rfl, b3.lt, fun j u hu => ?_⟩⟩
  rw [b3.cell, Nat.zero_add]
  exact code_at code i x j u hx hu
/-- what a builder answers -/
def CallMade (w : World) (code : List Ins) (e : Ending) (w' : World) : Prop := ∃ cv dv, e = .returned (.agg #[cv, dv]) ∧ (∀ w'', Keeps (fun b => b < w.heap.size) w' w'' → IsCode w'' w''.heap.size cv code ∧ IsData w'' w''.heap.size dv []) ∧ (∀ S, Keeps S w w')
theorem stored {w : World} {R : Nat} {t : TypeId} {a b u v : Value} (h : Blk w R t [a, b]) :
    ((w.setCell ⟨R, 0, none⟩ u).setCell ⟨R, 1, none⟩ v).cell? ⟨R, 0, none⟩ = some u ∧ ((w.setCell ⟨R, 0, none⟩ u).setCell ⟨R, 1, none⟩ v).cell? ⟨R, 1, none⟩ = some v ∧ Keeps (· = R) w ((w.setCell ⟨R, 0, none⟩ u).setCell ⟨R, 1, none⟩ v) := by
  have b1 := (h.put 0 u).put 1 v
  exact ⟨by rw [b1.cell]; rfl, by rw [b1.cell]; rfl, (Keeps.here u).trans (Keeps.here v)⟩
end Go.Proofs.Ytgenblefbddilaa.mz
set_option linter.unusedVariables false
namespace Go.Proofs.Ytgenblefbddilaa.mz
open Go.RowKit Go.Proofs.Ytgenblefbddilaa.oc
theorem made_info : (Try.prog.info? 114).map (fun i => (i.zero, i.size, i.bytes)) = some (some (.agg #[.int .i64 0, .int .i64 0, .int .i64 0, .int .i64 0, .int .i64 0, .int .i64 0, .int .u64 0]), 7, 56) := by kernel_rfl
theorem own_of_blk {w : World} {g base : Nat} {e : TypeId} {cs : List Value} {n sz : Nat} (h : Blk w g e cs) (hl : cs.length = n * sz) (hb : base ≤ g) (hn : n ≤ maxLen) : w.ownsRow base e sz (.slice (some ⟨g, 0, none⟩) n n) n cs :=
  ⟨hl, .inr ⟨g, n, cs.toArray, rfl, hb, h, Nat.le_refl _, hn, by simp [hl], by rw [← hl]; simp⟩⟩
theorem code_of_own {w : World} {base : Nat} {A : Option Addr} {c n : Nat} {code : List Ins} (h : w.ownsRow base 114 7 (.slice A n c) n (code.flatMap Ins.cells)) (hn : code.length = n) (h0 : 0 < n) : IsCode w w.heap.size (.slice A n c) code := by
  obtain ⟨g, cap, e, hb, hlt⟩ := h.form h0
  injection e with e1 e2 e3
  subst e1
  refine ⟨_, c, by rw [hn], fun i x hx => ⟨g, 0, rfl, hlt, fun j u hu => ?_⟩⟩
  have := h.cells (g := g) rfl _ _ (code_at code i x j u hx hu)
  rw [Addr.add_lit, ← Nat.add_assoc] at this
  exact this
theorem cells_one (code : List Ins) : ∀ u ∈ code.flatMap Ins.cells, u.oneCell' = true := by
  intro u hu
  simp only [List.mem_flatMap, Ins.cells, List.mem_cons, List.not_mem_nil, or_false] at hu
  obtain ⟨x, _, hx⟩ := hu
  rcases hx with rfl | rfl | rfl | rfl | rfl | rfl | rfl <;> rfl
theorem cells_length (code : List Ins) : (code.flatMap Ins.cells).length = code.length * 7 := by
  induction code with
  | nil => rfl
  | cons x r ih => rw [List.flatMap_cons, List.length_append, ih]; simp [Ins.cells]; omega
/-- the builder that began at w stands at wi: its result's cell lies at w's end, v is the code so far -/
structure Mk (w wi : World) (v : Value) (code : List Ins) : Prop where
  res : Blk wi w.heap.size 49 [.slice none 0 0, .slice none 0 0]
  own : wi.ownsRow (w.heap.size + 1) 114 7 v code.length (code.flatMap Ins.cells)
  keep : ∀ S, Keeps S w wi
theorem Mk.grown {w wi wj : World} {v : Value} {code : List Ins} (h : Mk w wi v code) (k : ∀ S, Keeps S wi wj) : Mk w wj v code :=
  ⟨Blk.keeps h.res (k (fun _ => False)) (fun z => z), owns_keeps h.own (k (fun _ => False)) (fun _ _ z => z), fun S => (h.keep S).trans (k S)⟩
theorem Mk.alloc {w wi : World} {v : Value} {code : List Ins} (h : Mk w wi v code) (o : Obj) : Mk w (wi.alloc o) v code := h.grown (fun S => (Keeps.refl S wi).alloc o)
theorem Mk.size {w wi : World} {v : Value} {code : List Ins} (h : Mk w wi v code) : w.heap.size + 1 ≤ wi.heap.size := h.res.lt
theorem Mk.form {w wi : World} {v : Value} {code : List Ins} {n : Nat} (h : Mk w wi v code) (hn : code.length = n) (h0 : 0 < n) : ∃ g c, v = .slice (some ⟨g, 0, none⟩) n c := by
  subst hn
  obtain ⟨g, cap, e, _, _⟩ := h.own.form h0
  exact ⟨g, cap, e⟩
/-- a code of its own: a literal, or what a function answered -/
theorem Mk.start {w wi : World} {g n : Nat} {code : List Ins} (hr : Blk wi w.heap.size 49 [.slice none 0 0, .slice none 0 0]) (hb : Blk wi g 114 (code.flatMap Ins.cells)) (hn : code.length = n) (hg : w.heap.size < g) (hl : n ≤ 1000) (hk : ∀ S, Keeps S w wi) : Mk w wi (.slice (some ⟨g, 0, none⟩) n n) code :=
  ⟨hr, by rw [hn]; exact own_of_blk hb (by rw [cells_length, hn]) hg (by unfold maxLen; omega), hk⟩
theorem Mk.wpList_append {w wi : World} {v : Value} {code : List Ins} {ops : Array Oper} {rest : List Oper} {o : Oper} {a : Act} {Q : Exit → Act → World → Prop} (hgd : o.guard = none) (s x : Operand)
    (ho : o.op = .call { callee := .builtin .append, args := #[s, x], argTypes := #[47, 47] }) (h : Mk w wi v code) (hs : a.eval s = v)
    (g m c : Nat) (news : List Ins) (hx : a.eval x = .slice (some ⟨g, 0, none⟩) m c) (hm : news.length = m) (hb : Blk wi g 114 (news.flatMap Ins.cells)) (hl : code.length + m ≤ 1000)
    (hk : ∀ v' w', Mk w w' v' (code ++ news) → wpList Try.prog ops Q rest (a.put o.dst v') w') : wpList Try.prog ops Q (o :: rest) a wi := by
  obtain ⟨i0, hi0, hz0, hz1, hz2⟩ := info_parts made_info
  refine wpList_apps hgd s x 47 ho (w.heap.size + 1) 114 i0 _ 7 56 Try.underlying47 hi0 hz0 hz1 hz2 rfl (by decide) v code.length (code.flatMap Ins.cells) hs h.own ⟨g, 0, none⟩ m c (news.flatMap Ins.cells) hx (by rw [cells_length, hm]) (fun j u hu => by rw [Addr.add_lit, hb.cell, Nat.zero_add]; exact hu) (cells_one _) (by unfold maxLen; omega) (by omega) h.size ?_
  intro v' w' hown hg hat
  have hz := h.size
  have hlt : ∀ b, v.ownBlock = some b → w.heap.size < b := fun b hb => (h.own.lt b hb).1
  have kk : Keeps (fun b => v.ownBlock = some b) wi w' := Keeps.of_grown hg
  refine hk v' w' ⟨Blk.keeps h.res kk (fun e => by have := hlt _ e; omega), ?_, fun S => ?_⟩
  · rw [List.length_append, hm, List.flatMap_append]; exact hown
  · have k1 := h.keep S
    exact ⟨Nat.le_trans k1.size kk.size, fun b hb hs => by rw [kk.block b (Nat.lt_of_lt_of_le hb k1.size) (fun e => by have := hlt _ e; omega), k1.block b hb hs], k1.same.trans kk.same⟩
/-- likewise; and where the new row lies -/
theorem Mk.wpList_append2 {w wi : World} {v : Value} {code : List Ins} {ops : Array Oper} {rest : List Oper} {o : Oper} {a : Act} {Q : Exit → Act → World → Prop} (hgd : o.guard = none) (s x : Operand)
    (ho : o.op = .call { callee := .builtin .append, args := #[s, x], argTypes := #[47, 47] }) (h : Mk w wi v code) (hs : a.eval s = v)
    (g m c : Nat) (news : List Ins) (hx : a.eval x = .slice (some ⟨g, 0, none⟩) m c) (hm : news.length = m) (hb : Blk wi g 114 (news.flatMap Ins.cells)) (hl : code.length + m ≤ 1000)
    (hk : ∀ v' w', Mk w w' v' (code ++ news) → Keeps (fun b => v.ownBlock = some b) wi w' → (v'.ownBlock = v.ownBlock ∨ v'.ownBlock = some wi.heap.size) → wpList Try.prog ops Q rest (a.put o.dst v') w') : wpList Try.prog ops Q (o :: rest) a wi := by
  obtain ⟨i0, hi0, hz0, hz1, hz2⟩ := info_parts made_info
  refine wpList_apps hgd s x 47 ho (w.heap.size + 1) 114 i0 _ 7 56 Try.underlying47 hi0 hz0 hz1 hz2 rfl (by decide) v code.length (code.flatMap Ins.cells) hs h.own ⟨g, 0, none⟩ m c (news.flatMap Ins.cells) hx (by rw [cells_length, hm]) (fun j u hu => by rw [Addr.add_lit, hb.cell, Nat.zero_add]; exact hu) (cells_one _) (by unfold maxLen; omega) (by omega) h.size ?_
  intro v' w' hown hg hat
  have hz := h.size
  have hlt : ∀ b, v.ownBlock = some b → w.heap.size < b := fun b hb => (h.own.lt b hb).1
  have kk : Keeps (fun b => v.ownBlock = some b) wi w' := Keeps.of_grown hg
  refine hk v' w' ⟨Blk.keeps h.res kk (fun e => by have := hlt _ e; omega), ?_, fun S => ?_⟩ kk hat
  · rw [List.length_append, hm, List.flatMap_append]; exact hown
  · have k1 := h.keep S
    exact ⟨Nat.le_trans k1.size kk.size, fun b hb hs => by rw [kk.block b (Nat.lt_of_lt_of_le hb k1.size) (fun e => by have := hlt _ e; omega), k1.block b hb hs], k1.same.trans kk.same⟩
/-- the code, stored where the result lies -/
theorem Mk.end_ {w wi : World} {g n c : Nat} {code : List Ins} (h : Mk w wi (.slice (some ⟨g, 0, none⟩) n c) code) (hn : code.length = n) (h0 : 0 < n) :
    (((wi.setCell ⟨w.heap.size, 0, none⟩ (.slice (some ⟨g, 0, none⟩) n c)).setCell ⟨w.heap.size, 1, none⟩ (.slice none 0 0)).cell? ⟨w.heap.size, 0, none⟩ = some (.slice (some ⟨g, 0, none⟩) n c)) ∧
    (((wi.setCell ⟨w.heap.size, 0, none⟩ (.slice (some ⟨g, 0, none⟩) n c)).setCell ⟨w.heap.size, 1, none⟩ (.slice none 0 0)).cell? ⟨w.heap.size, 1, none⟩ = some (.slice none 0 0)) ∧
    CallMade w code (.returned (.agg #[.slice (some ⟨g, 0, none⟩) n c, .slice none 0 0])) ((wi.setCell ⟨w.heap.size, 0, none⟩ (.slice (some ⟨g, 0, none⟩) n c)).setCell ⟨w.heap.size, 1, none⟩ (.slice none 0 0)) := by
  obtain ⟨r0, r1, hk⟩ := mz.stored (u := .slice (some ⟨g, 0, none⟩) n c) (v := .slice none 0 0) h.res
  refine ⟨r0, r1, _, _, rfl, fun w'' kk => ⟨?_, ⟨none, 0, rfl, fun k u hk => by simp [u64s] at hk⟩⟩, fun S => ?_⟩
  · have o9 := h.own
    rw [hn] at o9
    have ox := owns_keeps o9 hk (fun b hb e => by have := (o9.lt b hb).1; omega)
    have oy := owns_keeps ox kk (fun b hb e => by have := (ox.lt b hb).1; omega)
    exact code_of_own oy hn h0
  · have ka := h.keep S
    exact ⟨Nat.le_trans ka.size hk.size, fun b hb hs => by rw [hk.block b (Nat.lt_of_lt_of_le hb ka.size) (by omega), ka.block b hb hs], ka.same.trans hk.same⟩
theorem nums_info : (Try.prog.info? 22).map (fun i => (i.zero, i.size, i.bytes)) = some (some (.int .u64 0), 1, 8) := by kernel_rfl
/-- a list of numbers that is being put together by appends since w -/
structure Nm (w wi : World) (v : Value) (l : List Nat) : Prop where
  own : wi.ownsRow w.heap.size 22 1 v l.length (u64s l)
  keep : ∀ S, Keeps S w wi
theorem Nm.nil_ (w : World) : Nm w w (.slice none 0 0) [] := ⟨World.ownsRow_nil w _ _ _, fun S => Keeps.refl S w⟩
theorem Nm.grown {w wi wj : World} {v : Value} {l : List Nat} (h : Nm w wi v l) (k : ∀ S, Keeps S wi wj) : Nm w wj v l := ⟨owns_keeps h.own (k (fun _ => False)) (fun _ _ z => z), fun S => (h.keep S).trans (k S)⟩
theorem Nm.alloc {w wi : World} {v : Value} {l : List Nat} (h : Nm w wi v l) (o : Obj) : Nm w (wi.alloc o) v l := h.grown (fun S => (Keeps.refl S wi).alloc o)
theorem Nm.form {w wi : World} {v : Value} {l : List Nat} {n : Nat} (h : Nm w wi v l) (hn : l.length = n) (h0 : 0 < n) : ∃ g c, v = .slice (some ⟨g, 0, none⟩) n c := by
  subst hn
  obtain ⟨g, cap, e, _, _⟩ := h.own.form h0
  exact ⟨g, cap, e⟩
theorem Nm.wpList_append {w wi : World} {v : Value} {l : List Nat} {ops : Array Oper} {rest : List Oper} {o : Oper} {a : Act} {Q : Exit → Act → World → Prop} (hgd : o.guard = none) (s x : Operand)
    (ho : o.op = .call { callee := .builtin .append, args := #[s, x], argTypes := #[40, 40] }) (h : Nm w wi v l) (hs : a.eval s = v)
    (g m c : Nat) (news : List Nat) (hx : a.eval x = .slice (some ⟨g, 0, none⟩) m c) (hm : news.length = m) (hb : Blk wi g 22 (u64s news)) (hl : l.length + m ≤ 100000)
    (hk : ∀ v' w', Nm w w' v' (l ++ news) → wpList Try.prog ops Q rest (a.put o.dst v') w') : wpList Try.prog ops Q (o :: rest) a wi := by
  obtain ⟨i0, hi0, hz0, hz1, hz2⟩ := info_parts nums_info
  refine wpList_apps hgd s x 40 ho w.heap.size 22 i0 _ 1 8 Try.underlying40 hi0 hz0 hz1 hz2 rfl (by decide) v l.length (u64s l) hs h.own ⟨g, 0, none⟩ m c (u64s news) hx (by simp [u64s, hm]) (fun j u hu => by rw [Addr.add_lit, hb.cell, Nat.zero_add]; exact hu) (fun u hu => by simp only [u64s, List.mem_map] at hu; obtain ⟨y, _, rfl⟩ := hu; rfl) (by unfold maxLen; omega) (by omega) (h.keep (fun _ => False)).size ?_
  intro v' w' hown hg hat
  have hlt : ∀ b, v.ownBlock = some b → w.heap.size ≤ b := fun b hb => (h.own.lt b hb).1
  have kk : Keeps (fun b => v.ownBlock = some b) wi w' := Keeps.of_grown hg
  refine hk v' w' ⟨?_, fun S => ?_⟩
  · rw [List.length_append, hm, show u64s (l ++ news) = u64s l ++ u64s news from by simp [u64s]]; exact hown
  · have k1 := h.keep S
    exact ⟨Nat.le_trans k1.size kk.size, fun b hb hs => by rw [kk.block b (Nat.lt_of_lt_of_le hb k1.size) (fun e => by have := hlt _ e; omega), k1.block b hb hs], k1.same.trans kk.same⟩
/-- read back -/
theorem Nm.rd {w wi : World} {g n c : Nat} {l : List Nat} (h : Nm w wi (.slice (some ⟨g, 0, none⟩) n c) l) : Rd wi wi.heap.size (some ⟨g, 0, none⟩) (u64s l) := by
  intro k u hk
  have := h.own.cells (g := g) rfl _ _ hk
  have hlt := (h.own.lt g rfl).2
  exact ⟨g, 0, rfl, hlt, by rw [Addr.add_lit] at this; exact this⟩
theorem Nm.lt {w wi : World} {g n c : Nat} {l : List Nat} (h : Nm w wi (.slice (some ⟨g, 0, none⟩) n c) l) : w.heap.size ≤ g ∧ g < wi.heap.size := h.own.lt g rfl
end Go.Proofs.Ytgenblefbddilaa.mz
