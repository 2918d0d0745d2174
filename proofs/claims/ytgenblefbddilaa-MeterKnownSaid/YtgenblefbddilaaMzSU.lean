/-
  What Play keeps beside threads and words; how it begins. What a play leaves, told so that it can be read.
-/
import Derived.Test.YtgenblefbddilaaMzR
import Derived.Test.YtgenblefbddilaaMzCopyA
import Derived.Test.YtgenblefbddilaaMzBase
namespace Go.Proofs.Ytgenblefbddilaa.mz
open Go.RowKit Go.Proofs.Ytgenblefbddilaa.oc
def ptrs (gs : List Nat) : List Value := gs.map fun g => .pointer (some ⟨g, 0, none⟩)
/-- turns as cells -/
def flat3 : List (Nat × Nat × Nat) → List Value
  | [] => []
  | (k, c, pc) :: r => .int .i64 (k : Int) :: .int .u8 (c : Int) :: .int .i64 (pc : Int) :: flat3 r
theorem flat3_snoc (l : List (Nat × Nat × Nat)) (k c pc : Nat) : flat3 (l ++ [(k, c, pc)]) = flat3 l ++ [.int .i64 (k : Int), .int .u8 (c : Int), .int .i64 (pc : Int)] := by
  induction l with
  | nil => rfl
  | cons x r ih => obtain ⟨a, b, d⟩ := x; simp [flat3, ih]
theorem flat3_length (l : List (Nat × Nat × Nat)) : (flat3 l).length = l.length * 3 := by
  induction l with
  | nil => rfl
  | cons x r ih => obtain ⟨a, b, d⟩ := x; simp [flat3, ih]; omega
def ints (l : List Nat) : List Value := l.map fun (x : Nat) => Value.int .i64 (x : Int)
/-- one thread more, in a block of its own -/
theorem PInv.snoc {w w' : World} {B p g : Nat} {pl : Pl} {gs : List Nat} {Fs : List (Nat → Prop)} {FW S : Nat → Prop} {t : Th} (h : PInv w B p pl gs Fs FW) (k : Keeps S w w') (hs : ∀ b, Any Fs FW b → ¬ S b) (hB : ∀ b, b < B → ¬ S b) (hT : TInv w' B g t (· = g)) (hg : w.heap.size ≤ g) :
    PInv w' B p ⟨pl.ths ++ [t], pl.ws, pl.trace⟩ (gs ++ [g]) (Fs ++ [(· = g)]) FW := by
  have h' := h.keeps k hs hB
  have lt : ∀ (j : Nat) (F : Nat → Prop), Fs[j]? = some F → ∀ b, F b → b < w.heap.size := fun j F hF b hb => (h.below (.inl ⟨j, F, hF, hb⟩)).2
  have sp : ∀ (j : Nat) (F : Nat → Prop), (Fs ++ [(· = g)])[j]? = some F → (Fs[j]? = some F) ∨ (j = Fs.length ∧ F = (· = g)) := fun j F hF => by
    rcases Nat.lt_or_ge j Fs.length with q | q
    · rw [List.getElem?_append_left q] at hF; exact .inl hF
    · rw [List.getElem?_append_right q] at hF
      rcases Nat.eq_zero_or_pos (j - Fs.length) with e | e
      · rw [e] at hF; simp at hF; exact .inr ⟨by omega, hF.symm⟩
      · rw [List.getElem?_eq_none (by simp; omega)] at hF; cases hF
  have l1 := h.lg
  have l2 := h.lF
  refine ⟨by simp [l1], by simp [l2], ?_, h'.wd, ?_, ?_⟩
  · intro j u g' F hu hg' hF
    rcases Nat.lt_or_ge j pl.ths.length with q | q
    · simp only at hu
      rw [List.getElem?_append_left q] at hu
      rw [List.getElem?_append_left (by omega)] at hg' hF
      exact h'.th j u g' F hu hg' hF
    · simp only at hu
      rw [List.getElem?_append_right q] at hu
      rw [List.getElem?_append_right (by omega)] at hg' hF
      rcases Nat.eq_zero_or_pos (j - pl.ths.length) with e | e
      · rw [l1, e] at hg'; rw [l2, e] at hF; rw [e] at hu
        simp at hu hg' hF
        subst hu; subst hg'; subst hF
        exact hT
      · rw [List.getElem?_eq_none (by simp; omega)] at hu; cases hu
  · intro i j F F' hij h1 h2 b hb hb'
    rcases sp i F h1 with q | ⟨q, rfl⟩ <;> rcases sp j F' h2 with q' | ⟨q', rfl⟩
    · exact h.ap i j F F' hij q q' b hb hb'
    · have := lt i F q b hb; omega
    · have := lt j F' q' b hb'; omega
    · omega
  · intro j F hF b hb hw
    rcases sp j F hF with q | ⟨q, rfl⟩
    · exact h.aw j F q b hb hw
    · have := (h.wd.above b hw).2; omega
/-- the blocks of words of its own -/
def WFoot (p : Nat) (wv lv : Value) (vs : List Value) (b : Nat) : Prop := b = p ∨ wv.ownBlock = some b ∨ lv.ownBlock = some b ∨ ∃ (i : Nat) (v : Value), vs[i]? = some v ∧ v.ownBlock = some b
theorem lists_cell {w : World} {B p m c2 i : Nat} {A2 : Option Addr} {ty : TypeId} {wv lv : Value} {vs : List Value} (hl : w.ownsRow B ty 1 lv m (List.replicate m (.slice none 0 0))) (hlv : lv = .slice A2 m c2) (hi : i < m) : ∃ b, A2 = some ⟨b, 0, none⟩ ∧ WFoot p wv lv vs b ∧ w.cell? ⟨b, i, none⟩ = some (.slice none 0 0) := by
  subst hlv
  obtain ⟨g, cap, hv, _, _⟩ := hl.form (by omega)
  injection hv with e1 e2 e3
  subst e1
  have := hl.cells (g := g) rfl i (.slice none 0 0) (by simp [hi])
  rw [Addr.add_lit, Nat.zero_add] at this
  exact ⟨g, rfl, .inr (.inr (.inl rfl)), this⟩
theorem winv_of_own {w : World} {B p : Nat} {ws : List (List Nat)} {wv lv : Value} {vs : List Value} (h : OwnWords w B ws wv vs) (hp : Blk w p 36 [wv, lv]) (hpB : B ≤ p) (hn : ∀ b, wv.ownBlock = some b → b ≠ p) (hv : ∀ (i : Nat) (v : Value) (b : Nat), vs[i]? = some v → v.ownBlock = some b → b ≠ p) (hs : ∀ l ∈ ws, ∀ x ∈ l, x < 18446744073709551616) {m c2 : Nat} {A2 : Option Addr} {ty : TypeId} (hl : w.ownsRow B ty 1 lv m (List.replicate m (.slice none 0 0))) (hlv : lv = .slice A2 m c2) (hm : m < 1000000) :
    WInv w B p ws (WFoot p wv lv vs) := by
  refine ⟨⟨wv, lv, vs, hp, h.row, h.own, h.apart, fun i k v hi hk => ⟨.inr (.inr (.inr ⟨i, v, hi, hk⟩)), hv i v k hi hk, h.off i k v hi hk⟩, fun k hk => ⟨.inr (.inl hk), hn k hk⟩, ⟨A2, c2, m, hlv, hm, fun i hi => lists_cell hl hlv hi⟩⟩, hs, .inl rfl, fun b hb => ?_⟩
  rcases hb with rfl | hb | hb | ⟨i, v, hi, hb⟩
  · exact ⟨hpB, hp.lt⟩
  · exact h.row.lt b hb
  · exact hl.lt b hb
  · have hil : i < ws.length := by rw [← h.len]; exact (List.getElem?_eq_some_iff.1 hi).1
    exact (h.own i v _ hi (List.getElem?_eq_getElem hil)).lt b hb
/-- a fresh thread -/
theorem fresh_thr {w : World} {B g : Nat} {cs : List (List Ins × List Nat)} {cv : Value} (hb : Blk w g 106 (Ts.cells ⟨cv, 0, 0, List.replicate 24 0, .slice none 0 0, false⟩)) (hc : IsCalls w B cv cs) (hB : B ≤ g) (hl : cs.length < 1000000) (hl2 : ∀ c ∈ cs, c.1.length < 1000000) : TInv w B g (Th.fresh cs) (· = g) := by
  have hthr : Thr w g ⟨cv, 0, 0, List.replicate 24 0, .slice none 0 0, false⟩ := ⟨hb, by simp, fun x hx => by simp only at hx; rw [List.mem_replicate] at hx; omega⟩
  have hans : Ans w B g (· = g) (.slice none 0 0) [] [] := ⟨World.ownsRow_nil _ _ _ _, rfl, fun i tv a h => by simp at h, fun i j k tv tv' _ h => by simp at h, fun i tv k h => by simp at h, (fun k hk => by cases hk), fun i tv k h => by simp at h⟩
  exact ⟨⟨cv, .slice none 0 0, [], hthr, hc, hans⟩, ⟨by simp [Th.fresh], by left; rfl, hl, hl2⟩, rfl, fun b e => by subst e; exact ⟨hB, hb.lt⟩⟩
theorem IsCalls.more {w : World} {B B' : Nat} {v : Value} {cs : List (List Ins × List Nat)} (h : IsCalls w B v cs) (hb : B ≤ B') : IsCalls w B' v cs := by
  obtain ⟨A, cap, e, f⟩ := h
  refine ⟨A, cap, e, fun i c hc => ?_⟩
  obtain ⟨b, o, cv, dv, e1, h1, h2, h3, ⟨A1, c1, e2, f1⟩, ⟨A2, c2, e3, f2⟩⟩ := f i c hc
  refine ⟨b, o, cv, dv, e1, by omega, h2, h3, ⟨A1, c1, e2, fun i x hx => ?_⟩, ⟨A2, c2, e3, fun i u hu => ?_⟩⟩
  · obtain ⟨b, o, q1, q2, q3⟩ := f1 i x hx
    exact ⟨b, o, q1, by omega, q3⟩
  · obtain ⟨b, o, q1, q2, q3⟩ := f2 i u hu
    exact ⟨b, o, q1, by omega, q3⟩
theorem three_types (w : World) (c1 c2 c3 : Array Value) (t1 t2 t3 : TypeId) : ∃ w3, w3 = ((w.alloc (.cells c1 t1)).alloc (.cells c2 t2)).alloc (.cells c3 t3) ∧ Blk w3 w.heap.size t1 c1.toList ∧ Blk w3 (w.heap.size + 1) t2 c2.toList ∧ Blk w3 (w.heap.size + 1 + 1) t3 c3.toList ∧ (∀ S, Keeps S w w3) ∧ w3.heap.size = w.heap.size + 3 := by
  have h1 : (w.alloc (.cells c1 t1)).heap.size = w.heap.size + 1 := by show (w.heap.push _).size = _; simp
  have h2 : ((w.alloc (.cells c1 t1)).alloc (.cells c2 t2)).heap.size = w.heap.size + 1 + 1 := by show (Array.push _ _).size = _; simp [h1]
  have h3 : (((w.alloc (.cells c1 t1)).alloc (.cells c2 t2)).alloc (.cells c3 t3)).heap.size = w.heap.size + 3 := by show (Array.push _ _).size = _; simp [h2]
  have b2 := Blk.new (w.alloc (.cells c1 t1)) t2 c2
  have b3 := Blk.new ((w.alloc (.cells c1 t1)).alloc (.cells c2 t2)) t3 c3
  rw [h1] at b2
  rw [h2] at b3
  exact ⟨_, rfl, ((Blk.new w t1 c1).alloc _).alloc _, b2.alloc _, b3, fun S => (((Keeps.refl S w).alloc _).alloc _).alloc _, h3⟩
/-- behind Copy, and the copy laid into a variable -/
theorem begin_all {wa wb : World} {m c' c2 : Nat} {A' A2 : Option Addr} {ws : List (List Nat)} {vs : List Value} (hO : OwnWords wb wa.heap.size ws (.slice A' ws.length c') vs) (hL : wb.ownsRow wa.heap.size 121 1 (.slice A2 m c2) m (List.replicate m (.slice none 0 0))) (hm : m < 1000000) (hK : ∀ S, Keeps S wa wb) (hx : ∀ l ∈ ws, ∀ x ∈ l, x < 18446744073709551616) :
    ∃ wc, wc = wb.alloc (.cells #[.slice A' ws.length c', .slice A2 m c2] 36) ∧ (∀ S, Keeps S wa wc) ∧ PInv wc wa.heap.size wb.heap.size ⟨[], ws, []⟩ [] [] (WFoot wb.heap.size (.slice A' ws.length c') (.slice A2 m c2) vs) ∧ wb.heap.size < wc.heap.size := by
  have hsz : (wb.alloc (.cells #[.slice A' ws.length c', .slice A2 m c2] 36)).heap.size = wb.heap.size + 1 := by show (wb.heap.push _).size = _; simp
  have hb := Blk.new wb 36 #[.slice A' ws.length c', .slice A2 m c2]
  have k1 : Keeps (fun _ => False) wb (wb.alloc (.cells #[.slice A' ws.length c', .slice A2 m c2] 36)) := (Keeps.refl _ wb).alloc _
  have hO' := hO.keeps k1 (fun _ z => z.elim)
  refine ⟨_, rfl, fun S => (hK S).alloc _, ⟨rfl, rfl, fun k t g F h => by simp at h, ?_, fun j k F F' _ h => by simp at h, fun k F h => by simp at h⟩, by omega⟩
  refine winv_of_own (lv := .slice A2 m c2) hO' hb (hK (fun _ => False)).size (fun b hb => by have := (hO.row.lt b hb).2; omega) (fun i v b hi hv => ?_) hx (owns_keeps hL k1 (fun _ _ z => z)) rfl hm
  have hil : i < ws.length := by rw [← hO.len]; exact (List.getElem?_eq_some_iff.1 hi).1
  have := ((hO.own i v _ hi (List.getElem?_eq_getElem hil)).lt b hv).2
  omega
theorem one_ptr (a : Option Addr) : ∀ u ∈ [Value.pointer a], u.oneCell' = true := by
  intro u hu; simp at hu; subst hu; rfl
theorem ptr_lit (w : World) (o : Obj) (t : TypeId) : Rd ((w.alloc o).alloc (.cells #[.pointer (some ⟨w.heap.size, 0, none⟩)] t)) (w.heap.size + 1 + 1) (some ⟨w.heap.size + 1, 0, none⟩) [.pointer (some ⟨w.heap.size, 0, none⟩)] := by
  have h1 : (w.alloc o).heap.size = w.heap.size + 1 := by show (w.heap.push _).size = _; simp
  have := (Blk.new (w.alloc o) t #[.pointer (some ⟨w.heap.size, 0, none⟩)]).rd
  rw [h1] at this
  exact this
/-- k threads are built -/
def Built (wc : World) (B p : Nat) (FW : Nat → Prop) (ws : List (List Nat)) (threads : List (List (List Ins × List Nat))) (k : Nat) (l : Value) (wr : World) : Prop :=
  ∃ gs lA lc, l = .slice lA k lc ∧ PInv wr B p ⟨(threads.take k).map Th.fresh, ws, []⟩ gs (gs.map fun g => (· = g)) FW ∧ wr.ownsRow wc.heap.size 103 1 l k (ptrs gs) ∧ (∀ b, l.ownBlock = some b → ¬ Any (gs.map fun g => (· = g)) FW b) ∧ Keeps (fun _ => False) wc wr
theorem any_snoc {Fs : List (Nat → Prop)} {FW : Nat → Prop} {g b : Nat} (h : Any (Fs ++ [(· = g)]) FW b) : Any Fs FW b ∨ b = g := by
  rcases h with ⟨k, F, hF, hb⟩ | h
  · rcases Nat.lt_or_ge k Fs.length with q | q
    · rw [List.getElem?_append_left q] at hF; exact .inl (.inl ⟨k, F, hF, hb⟩)
    · rw [List.getElem?_append_right q] at hF
      rcases Nat.eq_zero_or_pos (k - Fs.length) with e | e
      · rw [e] at hF; simp at hF; subst hF; exact .inr hb
      · rw [List.getElem?_eq_none (by simp; omega)] at hF; cases hF
  · exact .inl (.inr h)
theorem built_round {wc wr w9 : World} {B p k lc c3 n : Nat} {FW : Nat → Prop} {ws : List (List Nat)} {threads : List (List (List Ins × List Nat))} {gs : List Nat} {lA A3 : Option Addr} {v2 : Value} {c : List (List Ins × List Nat)} {o : Obj} {cs : Array Value}
    (hP : PInv wr B p ⟨(threads.take k).map Th.fresh, ws, []⟩ gs (gs.map fun g => (· = g)) FW) (hR : wr.ownsRow wc.heap.size 103 1 (.slice lA k lc) k (ptrs gs)) (hN : ∀ b, (Value.slice lA k lc).ownBlock = some b → ¬ Any (gs.map fun g => (· = g)) FW b) (hK : Keeps (fun _ => False) wc wr) (hBc : B ≤ wc.heap.size)
    (hc : threads[k]? = some c) (hcs : cs.toList = Ts.cells ⟨.slice A3 c.length c3, 0, 0, List.replicate 24 0, .slice none 0 0, false⟩) (hcalls : IsCalls wr B (.slice A3 c.length c3) c) (hl : c.length < 1000000) (hl2 : ∀ x ∈ c, x.1.length < 1000000)
    (hg : ((wr.alloc (.cells cs 106)).alloc o).grownBy w9 (Value.slice lA k lc).ownBlock) (hr : w9.ownsRow wc.heap.size 103 1 v2 n (ptrs gs ++ [.pointer (some ⟨wr.heap.size, 0, none⟩)])) (hn : n = k + 1) (hat : v2.ownBlock = (Value.slice lA k lc).ownBlock ∨ v2.ownBlock = some ((wr.alloc (.cells cs 106)).alloc o).heap.size) (hv : ∃ A c, v2 = .slice A n c) :
    Built wc B p FW ws threads (k + 1) v2 w9 := by
  subst hn
  obtain ⟨A, cc, rfl⟩ := hv
  have h1 : (wr.alloc (.cells cs 106)).heap.size = wr.heap.size + 1 := by show (wr.heap.push _).size = _; simp
  have h2 : ((wr.alloc (.cells cs 106)).alloc o).heap.size = wr.heap.size + 1 + 1 := by show (Array.push _ _).size = _; simp [h1]
  have k9 : Keeps (fun b => (Value.slice lA k lc).ownBlock = some b) wr w9 := (((Keeps.refl _ wr).alloc _).alloc o).trans ⟨hg.size, fun b hb hs => hg.block b hb (fun e => hs e.symm), ⟨hg.os, hg.tape, hg.output⟩⟩
  have hgl : ∀ b, (Value.slice lA k lc).ownBlock = some b → wc.heap.size ≤ b ∧ b < wr.heap.size := fun b hb => hR.lt b hb
  have hb : Blk w9 wr.heap.size 106 cs.toList := by
    have q := (Blk.new wr 106 cs).alloc o
    exact Blk.grown q hg (fun e => by have := (hgl _ e.symm).2; omega)
  rw [hcs] at hb
  have hcw : wc.heap.size ≤ wr.heap.size := hK.size
  have hT := fresh_thr hb (hcalls.keeps k9 (fun b hb z => by have := (hgl b z).1; omega)) (by omega) hl hl2
  have hP' := hP.snoc k9 (fun b hb z => hN b z hb) (fun b hb z => by have := (hgl b z).1; omega) hT (Nat.le_refl _)
  have htk : (threads.take (k + 1)).map Th.fresh = (threads.take k).map Th.fresh ++ [Th.fresh c] := by rw [List.take_add_one, hc]; simp
  refine ⟨gs ++ [wr.heap.size], A, cc, rfl, ?_, ?_, ?_, ⟨Nat.le_trans hK.size k9.size, fun b hb hs => ?_, (hK.same).trans (k9.same)⟩⟩
  · rw [htk, List.map_append]
    exact hP'
  · rw [show ptrs (gs ++ [wr.heap.size]) = ptrs gs ++ [.pointer (some ⟨wr.heap.size, 0, none⟩)] from by simp [ptrs]]
    exact hr
  · intro b hb hany
    rw [List.map_append] at hany
    rcases hat with z | z
    · rw [z] at hb
      rcases any_snoc hany with q | q
      · exact hN b hb q
      · have := (hgl b hb).2; omega
    · rw [z, h2] at hb
      injection hb with hb
      rcases any_snoc hany with q | q
      · have := (hP.below q).2; omega
      · omega
  · rw [k9.block b (by omega) (fun z => by have := (hgl b z).1; omega), hK.block b hb hs]
/-- k threads stand at their first operation -/
def Started (wa wc : World) (B p : Nat) (FW : Nat → Prop) (gs : List Nat) (lA : Option Addr) (lc N n : Nat) (plS : Pl) (k : Nat) (wr : World) : Prop :=
  ∃ Fs pl, Pl.starts n (N - k) k pl = some plS ∧ pl.ths.length = N ∧ PInv wr B p pl gs Fs FW ∧ wr.ownsRow wc.heap.size 103 1 (.slice lA N lc) N (ptrs gs) ∧ (∀ b, (Value.slice lA N lc).ownBlock = some b → ¬ Any Fs FW b) ∧ Keeps (fun _ => False) wa wr
theorem started_step {wa wc wr w' : World} {B p k N n lc : Nat} {FW : Nat → Prop} {gs : List Nat} {Fs : List (Nat → Prop)} {lA : Option Addr} {pl plS : Pl} {t' : Th} {e : Ending} (hs : Pl.starts n (N - (k + 1)) (k + 1) { pl with ths := pl.ths.set k t' } = some plS) (hN : pl.ths.length = N)
    (hR : wr.ownsRow wc.heap.size 103 1 (.slice lA N lc) N (ptrs gs)) (hL : ∀ b, (Value.slice lA N lc).ownBlock = some b → ¬ Any Fs FW b) (hK : Keeps (fun _ => False) wa wr) (hB : B = wa.heap.size) (hP : PInv wr B p pl gs Fs FW) (h : StartPost B p { pl with ths := pl.ths.set k t' } gs Fs FW wr e w') :
    e = .returned (.tuple #[]) ∧ Started wa wc B p FW gs lA lc N n plS (k + 1) w' := by
  obtain ⟨he, Fs', h1, h2, h3⟩ := h
  refine ⟨he, Fs', _, hs, by simpa using hN, h1, owns_keeps hR h2 (fun b hb => hL b hb), fun b hb z => ?_, ⟨Nat.le_trans hK.size h2.size, fun b hb z => ?_, (hK.same).trans (h2.same)⟩⟩
  · rcases h3 b z with q | q
    · exact hL b hb q
    · have := (hR.lt b hb).2; omega
  · rw [h2.block b (Nat.lt_of_lt_of_le hb hK.size) (fun q => by have := (hP.below q).1; omega), hK.block b hb z]
/-- threads play; what was played lies in block P -/
def Playing (wa wc : World) (B p P : Nat) (FW : Nat → Prop) (gs : List Nat) (lA : Option Addr) (lc N : Nat) (wr : World) (pl : Pl) : Prop :=
  ∃ Fs tA tc, PInv wr B p pl gs Fs FW ∧ pl.ths.length = N ∧ (wr.ownsRow wc.heap.size 103 1 (.slice lA N lc) N (ptrs gs) ∧ ∀ b, (Value.slice lA N lc).ownBlock = some b → ¬ Any Fs FW b ∧ b < P) ∧
    (Blk wr P 77 [.slice tA pl.trace.length tc, .slice none 0 0] ∧ ¬ Any Fs FW P ∧ wa.heap.size ≤ P) ∧ (wr.ownsRow (P + 1) 86 3 (.slice tA pl.trace.length tc) pl.trace.length (flat3 pl.trace) ∧ ∀ b, (Value.slice tA pl.trace.length tc).ownBlock = some b → ¬ Any Fs FW b) ∧ Keeps (fun _ => False) wa wr
theorem playing_begin {wa wc wr : World} {B p n N lc : Nat} {FW : Nat → Prop} {gs : List Nat} {lA : Option Addr} {plS : Pl} (h : Started wa wc B p FW gs lA lc N n plS N wr) (htr : plS.trace = []) : ∃ wd, wd = wr.alloc (.cells #[.slice none 0 0, .slice none 0 0] 77) ∧ Playing wa wc B p wr.heap.size FW gs lA lc N wd plS := by
  obtain ⟨Fs, pl, h1, h2, h3, h4, h5, h6⟩ := h
  rw [Nat.sub_self] at h1
  obtain rfl : pl = plS := by injection h1
  have k1 : Keeps (fun _ => False) wr (wr.alloc (.cells #[.slice none 0 0, .slice none 0 0] 77)) := (Keeps.refl _ wr).alloc _
  have hb := Blk.new wr 77 #[.slice none 0 0, .slice none 0 0]
  refine ⟨_, rfl, Fs, none, 0, h3.keeps k1 (fun _ _ z => z) (fun _ _ z => z), h2, ⟨owns_keeps h4 k1 (fun _ _ z => z), fun b hb => ⟨h5 b hb, (h4.lt b hb).2⟩⟩, ⟨?_, fun z => by have := (h3.below z).2; omega, h6.size⟩, ⟨?_, fun b hb => by cases hb⟩, h6.trans k1⟩
  · rw [htr]; exact hb
  · rw [htr]; exact World.ownsRow_nil _ _ _ _
/-- an operation in a play, and what was played is one turn longer -/
theorem playing_turn {wa wc wr w8 w9 : World} {B p P N lc tc k c pc nn : Nat} {FW : Nat → Prop} {gs : List Nat} {Fs Fs' : List (Nat → Prop)} {lA tA : Option Addr} {pl : Pl} {ths' : List Th} {ws' : List (List Nat)} {v2 : Value} {o : Obj}
    (hP : PInv wr B p pl gs Fs FW) (hN : pl.ths.length = N) (hR : wr.ownsRow wc.heap.size 103 1 (.slice lA N lc) N (ptrs gs) ∧ ∀ b, (Value.slice lA N lc).ownBlock = some b → ¬ Any Fs FW b ∧ b < P)
    (hB : Blk wr P 77 [.slice tA pl.trace.length tc, .slice none 0 0] ∧ ¬ Any Fs FW P ∧ wa.heap.size ≤ P) (hT : wr.ownsRow (P + 1) 86 3 (.slice tA pl.trace.length tc) pl.trace.length (flat3 pl.trace) ∧ ∀ b, (Value.slice tA pl.trace.length tc).ownBlock = some b → ¬ Any Fs FW b)
    (hK : Keeps (fun _ => False) wa wr) (hBa : B = wa.heap.size) (hths : ths'.length = pl.ths.length) (p8 : PInv w8 B p ⟨ths', ws', pl.trace ++ [(k, c, pc)]⟩ gs Fs' FW) (k8 : Keeps (Any Fs FW) wr w8) (a8 : ∀ b, Any Fs' FW b → Any Fs FW b ∨ wr.heap.size ≤ b ∧ b < w8.heap.size)
    (hg : ((w8.alloc o)).grownBy w9 (Value.slice tA pl.trace.length tc).ownBlock) (hr : w9.ownsRow (P + 1) 86 3 v2 nn (flat3 pl.trace ++ [.int .i64 (k : Int), .int .u8 (c : Int), .int .i64 (pc : Int)])) (hn : nn = pl.trace.length + 1) (hat : v2.ownBlock = (Value.slice tA pl.trace.length tc).ownBlock ∨ v2.ownBlock = some (w8.alloc o).heap.size) (hv : ∃ A c, v2 = .slice A nn c) :
    Playing wa wc B p P FW gs lA lc N (w9.setCell ⟨P, 0, none⟩ v2) ⟨ths', ws', pl.trace ++ [(k, c, pc)]⟩ := by
  subst hn
  obtain ⟨A, cc, rfl⟩ := hv
  have h1 : (w8.alloc o).heap.size = w8.heap.size + 1 := by show (w8.heap.push _).size = _; simp
  have htl : ∀ b, (Value.slice tA pl.trace.length tc).ownBlock = some b → P + 1 ≤ b ∧ b < wr.heap.size := fun b hb => hT.1.lt b hb
  have k9 : Keeps (fun b => (Value.slice tA pl.trace.length tc).ownBlock = some b) w8 w9 := ((Keeps.refl _ w8).alloc o).trans ⟨hg.size, fun b hb hs => hg.block b hb (fun e => hs e.symm), ⟨hg.os, hg.tape, hg.output⟩⟩
  have kP : Keeps (· = P) w9 (w9.setCell ⟨P, 0, none⟩ (.slice A (pl.trace.length + 1) cc)) := (Keeps.refl (· = P) w9).setCell (p := ⟨P, 0, none⟩) (.inl rfl) _
  have kb : Keeps (fun b => (Value.slice tA pl.trace.length tc).ownBlock = some b ∨ b = P) w8 (w9.setCell ⟨P, 0, none⟩ (.slice A (pl.trace.length + 1) cc)) := (k9.mono fun _ _ z => .inl z).trans (kP.mono fun _ _ z => .inr z)
  have ht' : ∀ b, Any Fs' FW b → ¬ (Value.slice tA pl.trace.length tc).ownBlock = some b := fun b hb z => by
    rcases a8 b hb with q | q
    · exact hT.2 b z q
    · have := (htl b z).2; omega
  have hP' : ¬ Any Fs' FW P := fun z => by
    rcases a8 P z with q | q
    · exact hB.2.1 q
    · have := hB.1.lt; omega
  have hBP : B ≤ P := by rw [hBa]; exact hB.2.2
  refine ⟨Fs', A, cc, p8.keeps kb (fun b hb z => ?_) (fun b hb z => ?_), by simpa using hths.trans hN, ⟨?_, fun b hb => ⟨fun z => ?_, (hR.2 b hb).2⟩⟩, ⟨?_, hP', hB.2.2⟩, ⟨?_, fun b hb z => ?_⟩, ⟨?_, fun b hb z => ?_, (hK.same.trans k8.same).trans kb.same⟩⟩
  · rcases z with z | rfl
    · exact ht' b hb z
    · exact hP' hb
  · rcases z with z | rfl
    · have := (htl b z).1; omega
    · omega
  · refine owns_keeps (owns_keeps hR.1 k8 (fun b hb => (hR.2 b hb).1)) kb (fun b hb z => ?_)
    rcases z with z | rfl
    · have := (htl b z).1; have := (hR.2 b hb).2; omega
    · have := (hR.2 _ hb).2; omega
  · rcases a8 b z with q | q
    · exact (hR.2 b hb).1 q
    · have := (hR.1.lt b hb).2; omega
  · have b9 := Blk.keeps (Blk.keeps hB.1 k8 hB.2.1) k9 (fun z => by have := (htl P z).1; omega)
    have := b9.put 0 (.slice A (pl.trace.length + 1) cc)
    simpa using this
  · have := owns_keeps hr kP (fun b hb e => by have := (hr.lt b hb).1; omega)
    rw [flat3_snoc]
    simpa using this
  · simp only [List.length_append, List.length_singleton] at hb
    rcases hat with q | q
    · rw [q] at hb; exact ht' b z hb
    · rw [q, h1] at hb
      injection hb with hb
      have := (p8.below z).2; omega
  · exact Nat.le_trans hK.size (Nat.le_trans k8.size kb.size)
  · have hb2 : b < wr.heap.size := Nat.lt_of_lt_of_le hb hK.size
    rw [kb.block b (Nat.lt_of_lt_of_le hb2 k8.size) (fun q => by
      rcases q with q | rfl
      · have := (htl b q).1; omega
      · omega), k8.block b hb2 (fun q => by have := (hP.below q).1; omega), hK.block b hb z]
/-- what the head of 'round and round' finds -/
def RndRel (n : Nat) (plR : Pl) (q : Nat) (l : Value) (pl : Pl) : Prop :=
  (l = .bool true ∧ ∃ r, q = r + 1 ∧ Pl.rounds n r pl = some plR) ∨ (l = .bool false ∧ pl = plR ∧ ∀ j, j < pl.ths.length → pl.over j = true)
/-- an order that came in -/
def IsOrder (w : World) (B : Nat) (v : Value) (l : List Int) : Prop :=
  ∃ A cap, v = .slice A l.length cap ∧ ∀ i x, l[i]? = some x → ∃ b o, A = some ⟨b, o, none⟩ ∧ b < B ∧ w.cell? ⟨b, o + i, none⟩ = some (.int .i64 x)
theorem IsOrder.keeps {S : Nat → Prop} {w w' : World} {B : Nat} {v : Value} {l : List Int} (h : IsOrder w B v l) (k : Keeps S w w') (hs : ∀ b, b < B → ¬ S b) : IsOrder w' B v l := by
  obtain ⟨A, cap, e, f⟩ := h
  refine ⟨A, cap, e, fun i x hx => ?_⟩
  obtain ⟨b, o, e1, hb, h1⟩ := f i x hx
  exact ⟨b, o, e1, hb, cell_keeps k h1 (hs b hb)⟩
theorem three_one (a b c : Int) : ∀ u ∈ [Value.int .i64 a, .int .u8 b, .int .i64 c], u.oneCell' = true := by
  intro u hu
  simp only [List.mem_cons, List.mem_nil_iff, or_false] at hu
  rcases hu with rfl | rfl | rfl <;> rfl
theorem new_three (w : World) (a b c : Int) (ty : TypeId) : ∀ (j : Nat) (u : Value), [Value.int .i64 a, .int .u8 b, .int .i64 c][j]? = some u → (w.alloc (.cells #[.int .i64 a, .int .u8 b, .int .i64 c] ty)).cell? ((⟨w.heap.size, 0, none⟩ : Addr).add j) = some u := fun j u h => by
  rw [Addr.add_lit, Nat.zero_add]
  exact ((Blk.new w ty #[.int .i64 a, .int .u8 b, .int .i64 c]).cell j).trans h
theorem ptr_at {w : World} {b N lc : Nat} {gs : List Nat} {lA : Option Addr} (h : w.ownsRow b 103 1 (.slice lA N lc) N (ptrs gs)) {k g : Nat} (hk : k < N) (hg : gs[k]? = some g) : ∃ lb, lA = some ⟨lb, 0, none⟩ ∧ w.cell? ⟨lb, k, none⟩ = some (.pointer (some ⟨g, 0, none⟩)) ∧ lb < w.heap.size := by
  obtain ⟨lb, lcap, hlv, _, hll⟩ := h.form (by omega)
  injection hlv with e1 e2 e3
  subst e1
  refine ⟨lb, rfl, ?_, hll⟩
  have := h.cells (g := lb) rfl k (.pointer (some ⟨g, 0, none⟩)) (by rw [ptrs, List.getElem?_map, hg]; rfl)
  rwa [Addr.add_lit, Nat.zero_add] at this
theorem over_at {w : World} {B g : Nat} {t : Th} {F : Nat → Prop} (h : TInv w B g t F) : w.cell? ⟨g, 28, none⟩ = some (.bool t.over) := by
  obtain ⟨cv, v, tvs, h1, _⟩ := h.at_
  exact h1.over
end Go.Proofs.Ytgenblefbddilaa.mz
namespace Go.Proofs.Ytgenblefbddilaa.mz
open Go.RowKit Go.Proofs.Ytgenblefbddilaa.oc
def IsTrace (w : World) (B : Nat) (v : Value) (tr : List (Nat × Nat × Nat)) : Prop := ∃ A cap, v = .slice A tr.length cap ∧ Rd w B A (flat3 tr)
/-- the values that stand for what was told: f -/
def vals (n : Nat) (f : Nat → Value) : List Value := (List.range n).map f
def IsAnswers (w : World) (B : Nat) (v : Value) (l : List (Bool × List Nat)) (f : Nat → Value) : Prop :=
  ∃ A cap, v = .slice A l.length cap ∧ Rd w B A (flat l (vals l.length f)) ∧ ∀ (i : Nat) (a : Bool × List Nat), l[i]? = some a → IsData w B (f i) a.2
def IsOut (w : World) (B : Nat) (v : Value) (outs : List (List (Bool × List Nat))) (f : Nat → Nat → Value) : Prop :=
  ∃ A cap, v = .slice A outs.length cap ∧ ∀ (k : Nat) (l : List (Bool × List Nat)), outs[k]? = some l → ∃ b o av, A = some ⟨b, o, none⟩ ∧ b < B ∧ w.cell? ⟨b, o + k, none⟩ = some av ∧ IsAnswers w B av l (f k)
theorem vals_of {tvs : List Value} {n : Nat} (h : tvs.length = n) : vals n (fun i => tvs.getD i (.bool false)) = tvs := by
  subst h
  apply List.ext_getElem?
  intro i
  unfold vals
  rw [List.getElem?_map]
  rcases Nat.lt_or_ge i tvs.length with q | q
  · rw [List.getElem?_range q, Option.map_some, List.getD_eq_getElem?_getD, List.getElem?_eq_getElem q]; rfl
  · rw [List.getElem?_eq_none q, List.getElem?_eq_none (by simpa using q)]; rfl
theorem vals_at {n i : Nat} (f : Nat → Value) (h : i < n) : (vals n f)[i]? = some (f i) := by
  unfold vals
  rw [List.getElem?_map, List.getElem?_range h]; rfl
theorem vals_len (n : Nat) (f : Nat → Value) : (vals n f).length = n := by simp [vals]
theorem data_of_row {w : World} {base : Nat} {v : Value} {l : List Nat} (h : w.ownsRow base 22 1 v l.length (u64s l)) : IsData w w.heap.size v l := by
  obtain ⟨A, c, e, hr⟩ := rd_of_row h
  exact ⟨A, c, e, hr⟩
theorem Rd.lift {S : Nat → Prop} {w w' : World} {B B' : Nat} {A : Option Addr} {xs : List Value} (h : Rd w B A xs) (k : Keeps S w w') (hs : ∀ b, ¬ S b) (hB : B ≤ B') : Rd w' B' A xs := fun j u hu => by
  obtain ⟨b, o, e, hb, hc⟩ := h j u hu
  exact ⟨b, o, e, by omega, cell_keeps k hc (hs b)⟩
theorem IsData.lift {S : Nat → Prop} {w w' : World} {B B' : Nat} {v : Value} {l : List Nat} (h : IsData w B v l) (k : Keeps S w w') (hs : ∀ b, ¬ S b) (hB : B ≤ B') : IsData w' B' v l := by
  obtain ⟨A, c, e, hr⟩ := h
  exact ⟨A, c, e, Rd.lift hr k hs hB⟩
theorem IsTrace.lift {S : Nat → Prop} {w w' : World} {B B' : Nat} {v : Value} {l : List (Nat × Nat × Nat)} (h : IsTrace w B v l) (k : Keeps S w w') (hs : ∀ b, ¬ S b) (hB : B ≤ B') : IsTrace w' B' v l := by
  obtain ⟨A, c, e, hr⟩ := h
  exact ⟨A, c, e, Rd.lift hr k hs hB⟩
theorem IsWords.lift {S : Nat → Prop} {w w' : World} {B B' : Nat} {v : Value} {ws : List (List Nat)} (h : IsWords w B v ws) (k : Keeps S w w') (hs : ∀ b, ¬ S b) (hB : B ≤ B') : IsWords w' B' v ws := by
  obtain ⟨A, cap, e, f⟩ := h
  refine ⟨A, cap, e, fun i l hl => ?_⟩
  obtain ⟨b, o, A', c', e1, hb, h1, h2⟩ := f i l hl
  exact ⟨b, o, A', c', e1, by omega, cell_keeps k h1 (hs b), Rd.lift h2 k hs hB⟩
theorem IsLists.lift {S : Nat → Prop} {w w' : World} {B B' : Nat} {v : Value} {m : Nat} (h : IsLists w B v m) (k : Keeps S w w') (hs : ∀ b, ¬ S b) (hB : B ≤ B') : IsLists w' B' v m := by
  obtain ⟨A, cap, e, f⟩ := h
  refine ⟨A, cap, e, fun i hi => ?_⟩
  obtain ⟨b, o, e1, hb, h1⟩ := f i hi
  exact ⟨b, o, e1, by omega, cell_keeps k h1 (hs b)⟩
theorem answers_of {w w' : World} {B g : Nat} {t : Th} {F S : Nat → Prop} (h : TInv w B g t F) (_ : Keeps S w w') (_ : ∀ b, F b → ¬ S b) : ∃ A c, w.cell? ⟨g, 27, none⟩ = some (.slice A t.ans.length c) ∧ True := by
  obtain ⟨cv, v, tvs, h1, h2, h3⟩ := h.at_
  obtain ⟨A, c, e, hr⟩ := rd_of_row h3.row
  subst e
  exact ⟨A, c, h1.ans, trivial⟩
theorem words_of {w : World} {B p : Nat} {ws : List (List Nat)} {F : Nat → Prop} (h : WInv w B p ws F) : ∃ A c A2 c2 m, Blk w p 36 [.slice A ws.length c, .slice A2 m c2] ∧ IsWords w w.heap.size (.slice A ws.length c) ws ∧ IsLists w w.heap.size (.slice A2 m c2) m ∧ m < 1000000 := by
  obtain ⟨wv, lv, vs, h1, h2, h3, h4, h5, h6, A2, c2, m, rfl, hm, hf⟩ := h.at_
  obtain ⟨A, c, e, hr⟩ := rd_of_row h2
  subst e
  have hvl : vs.length = ws.length := by have := h2.1; omega
  refine ⟨A, c, A2, c2, m, h1, ⟨A, c, rfl, fun i l hl => ?_⟩, ⟨A2, c2, rfl, fun i hi => ?_⟩, hm⟩
  · have hi : i < vs.length := by rw [hvl]; exact (List.getElem?_eq_some_iff.1 hl).1
    have hv := List.getElem?_eq_getElem hi
    obtain ⟨b, o, e1, hb, hc⟩ := hr i _ hv
    obtain ⟨A', c', e2, hr'⟩ := rd_of_row (h3 i _ l hv hl)
    rw [e2] at hc
    exact ⟨b, o, A', c', e1, hb, hc, hr'⟩
  · obtain ⟨b, e1, _, hc⟩ := hf i hi
    exact ⟨b, 0, e1, World.block_lt_of_cell? w _ hc, by rw [Nat.zero_add]; exact hc⟩
/-- what can be read behind Play, in w' and wherever what Play made still stands -/
def PlayReads (w0 w' : World) (pl : Pl) (tv ov wv lv : Value) (m : Nat) (f : Nat → Nat → Value) : Prop :=
  ∀ w'', Keeps (fun b => b < w0.heap.size + 3) w' w'' → IsTrace w'' w''.heap.size tv pl.trace ∧ IsOut w'' w''.heap.size ov (pl.ths.map (·.ans)) f ∧ IsWords w'' w''.heap.size wv pl.ws ∧ IsLists w'' w''.heap.size lv m
/-- what Play answers -/
def PlayPost (w0 : World) (pl : Pl) (e : Ending) (w' : World) : Prop :=
  ∃ tA tc oA oc A c A2 c2 m f, e = .returned (.tuple #[.agg #[.slice tA pl.trace.length tc, .slice none 0 0], .slice oA pl.ths.length oc, .agg #[.slice A pl.ws.length c, .slice A2 m c2]]) ∧ m < 1000000 ∧
    PlayReads w0 w' pl (.slice tA pl.trace.length tc) (.slice oA pl.ths.length oc) (.slice A pl.ws.length c) (.slice A2 m c2) m f ∧ ∀ S, Keeps S w0 w'
/-- what a round of the last loop finds: the answers of k threads -/
def Outs (wE : World) (gs : List Nat) (k : Nat) (l : Value) (wr : World) : Prop :=
  ∃ oA oc avs, l = .slice oA k oc ∧ wr.ownsRow wE.heap.size 89 1 l k avs ∧ (∀ (i : Nat) (av : Value), avs[i]? = some av → ∃ g, gs[i]? = some g ∧ wE.cell? ⟨g, 27, none⟩ = some av) ∧ Keeps (fun _ => False) wE wr
theorem outs_round {wE wr w9 : World} {gs : List Nat} {k g oc nn : Nat} {oA : Option Addr} {avs : List Value} {av v2 : Value} {o : Obj} (hr0 : wr.ownsRow wE.heap.size 89 1 (.slice oA k oc) k avs) (hA : ∀ (i : Nat) (av : Value), avs[i]? = some av → ∃ g, gs[i]? = some g ∧ wE.cell? ⟨g, 27, none⟩ = some av) (hK : Keeps (fun _ => False) wE wr)
    (hg : gs[k]? = some g) (hav : wE.cell? ⟨g, 27, none⟩ = some av) (hgr : (wr.alloc o).grownBy w9 (Value.slice oA k oc).ownBlock) (hr : w9.ownsRow wE.heap.size 89 1 v2 nn (avs ++ [av])) (hn : nn = k + 1) (hv : ∃ A c, v2 = .slice A nn c) : Outs wE gs (k + 1) v2 w9 := by
  subst hn
  obtain ⟨A, c, rfl⟩ := hv
  have hl : avs.length = k := by have := hr0.1; omega
  refine ⟨A, c, avs ++ [av], rfl, hr, fun i u hu => ?_, ?_⟩
  · rcases Nat.lt_or_ge i avs.length with q | q
    · rw [List.getElem?_append_left q] at hu; exact hA i u hu
    · rw [List.getElem?_append_right q] at hu
      rcases Nat.eq_zero_or_pos (i - avs.length) with e | e
      · rw [e] at hu; simp at hu; subst hu
        exact ⟨g, by rw [show i = k from by omega]; exact hg, hav⟩
      · rw [List.getElem?_eq_none (by simp; omega)] at hu; cases hu
  · have k9 : Keeps (fun b => (Value.slice oA k oc).ownBlock = some b) wr w9 := ((Keeps.refl _ wr).alloc o).trans ⟨hgr.size, fun b hb hs => hgr.block b hb (fun e => hs e.symm), ⟨hgr.os, hgr.tape, hgr.output⟩⟩
    refine ⟨Nat.le_trans hK.size k9.size, fun b hb z => ?_, (hK.same).trans (k9.same)⟩
    rw [k9.block b (Nat.lt_of_lt_of_le hb hK.size) (fun q => by have := (hr0.lt b q).1; omega), hK.block b hb z]
theorem play_end {w wa wc wE wr : World} {B p P N lc R6 R8 : Nat} {FW : Nat → Prop} {gs : List Nat} {lA : Option Addr} {pl : Pl} {l : Value} (ka : ∀ S, Keeps S w wa) (hsz : wa.heap.size = w.heap.size + 3) (hBa : B = wa.heap.size) (hP : Playing wa wc B p P FW gs lA lc N wE pl) (hO : Outs wE gs N l wr) (h6 : R6 = w.heap.size + 1) (h8 : R8 = w.heap.size + 1 + 1) :
    ∃ tA tc oA oc A c A2 c2 m, Blk wr P 77 [.slice tA pl.trace.length tc, .slice none 0 0] ∧ Blk wr p 36 [.slice A pl.ws.length c, .slice A2 m c2] ∧ l = .slice oA pl.ths.length oc ∧
      ∀ w', Keeps (fun b => b = R6 ∨ b = R8) wr w' → PlayPost w pl (.returned (.tuple #[.agg #[.slice tA pl.trace.length tc, .slice none 0 0], .slice oA pl.ths.length oc, .agg #[.slice A pl.ws.length c, .slice A2 m c2]])) w' := by
  obtain ⟨Fs, tA, tc, h1, h2, h3, h4, h5, hK⟩ := hP
  obtain ⟨oA, oc, avs, rfl, hr, hA, hKE⟩ := hO
  have hs6 : ∀ b, wa.heap.size ≤ b → ¬ (b < w.heap.size + 3) := fun b hb => by omega
  have hwE : wa.heap.size ≤ wE.heap.size := hK.size
  have hF : ∀ b, Any Fs FW b → ¬ (b < w.heap.size + 3) := fun b hb => hs6 b (by have := (h1.below hb).1; omega)
  obtain ⟨A, c, A2, c2, m, hbE, _, _, hmm⟩ := words_of h1.wd
  have hbp : Blk wr p 36 [.slice A pl.ws.length c, .slice A2 m c2] := Blk.keeps hbE hKE (fun z => z)
  have hch : ∀ k : Nat, ∃ f : Nat → Value, ∀ t, pl.ths[k]? = some t → ∃ g F v, gs[k]? = some g ∧ Fs[k]? = some F ∧ wE.cell? ⟨g, 27, none⟩ = some v ∧ Ans wE B g F v t.ans (vals t.ans.length f) := fun k => by
    cases ht : pl.ths[k]? with
    | none => exact ⟨fun _ => .bool false, fun t h => by cases h⟩
    | some t =>
      obtain ⟨g, F, q1, q2, q3⟩ := h1.get ht
      obtain ⟨cv, v, tvs, a1, a2, a3⟩ := q3.at_
      refine ⟨fun i => tvs.getD i (.bool false), fun t' h => ?_⟩
      cases h
      exact ⟨g, F, v, q1, q2, a1.ans, by rw [vals_of a3.len]; exact a3⟩
  obtain ⟨f, hf⟩ := Classical.axiomOfChoice hch
  refine ⟨tA, tc, oA, oc, A, c, A2, c2, m, Blk.keeps h4.1 hKE (fun z => z), hbp, by rw [h2], fun w' kR => ?_⟩
  refine ⟨tA, tc, oA, oc, A, c, A2, c2, m, f, rfl, hmm, fun w'' kk => ?_, fun S => ?_⟩
  · -- what is read lies behind wa
    have k' : Keeps (fun b => b < w.heap.size + 3) wr w'' := (kR.mono fun b _ z => by omega).trans kk
    have kE : Keeps (fun b => b < w.heap.size + 3) wE w'' := (hKE.mono fun _ _ z => z.elim).trans k'
    obtain ⟨A_, c_, A2_, c2_, m_, hb_, hw, hl, hm⟩ := words_of (h1.wd.keeps kE (fun b hb => hF b (.inr hb)))
    have hbp' := Blk.keeps hbp k' (hF p (.inr h1.wd.me))
    unfold Blk at hbp' hb_
    rw [hbp'] at hb_
    simp at hb_
    obtain ⟨⟨rfl, rfl⟩, rfl, rfl, rfl⟩ := hb_
    have ht := owns_keeps h5.1 kE (fun b hb => hs6 b (by have := (h5.1.lt b hb).1; have := h4.2.2; omega))
    obtain ⟨tA', tc', et, htr⟩ := rd_of_row ht
    injection et with e1 e2 e3
    subst e1; subst e3
    have hro := owns_keeps hr k' (fun b hb => hs6 b (by have := (hr.lt b hb).1; omega))
    obtain ⟨oA', oc', eo, hor⟩ := rd_of_row hro
    injection eo with e1 e2 e3
    subst e1; subst e3
    have hal : avs.length = N := by have := hr.1; omega
    refine ⟨⟨tA, tc, rfl, htr⟩, ⟨oA, oc, by simp, fun k l hl => ?_⟩, hw, hl⟩
    rw [List.getElem?_map, Option.map_eq_some_iff] at hl
    obtain ⟨t, ht', rfl⟩ := hl
    have hk : k < avs.length := by rw [hal, ← h2]; exact (List.getElem?_eq_some_iff.1 ht').1
    have hav := List.getElem?_eq_getElem hk
    obtain ⟨b, o, e1, hb1, hc1⟩ := hor k _ hav
    obtain ⟨g, hg, hce⟩ := hA k _ hav
    obtain ⟨g', F, v, q1, q2, q3, q4⟩ := hf k t ht'
    rw [hg] at q1; cases q1
    rw [hce] at q3
    injection q3 with q3
    have q5 := q4.keeps kE (fun b hb _ => hF b (.inl ⟨k, F, q2, hb⟩))
    obtain ⟨A3, c3, e3, hr3⟩ := rd_of_row q5.row
    refine ⟨b, o, _, e1, hb1, hc1, A3, c3, by rw [q3, e3], hr3, fun i a hi => ?_⟩
    exact data_of_row (q5.own i _ a (vals_at _ (List.getElem?_eq_some_iff.1 hi).1) hi)
  · have kE : Keeps (fun b => b = R6 ∨ b = R8) wE w' := (hKE.mono fun _ _ z => z.elim).trans kR
    refine ⟨Nat.le_trans (ka S).size (Nat.le_trans hK.size kE.size), fun b hb z => ?_, ((ka S).same).trans ((hK.same).trans (kE.same))⟩
    rw [kE.block b (by omega) (by omega), hK.block b (by omega) (fun q => q), (ka S).block b hb z]
end Go.Proofs.Ytgenblefbddilaa.mz
