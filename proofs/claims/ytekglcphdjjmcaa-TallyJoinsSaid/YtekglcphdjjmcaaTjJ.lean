/-
  TallyJoins: what its loops keep.
-/
import Derived.Test.YtekglcphdjjmcaaTjM
import Derived.Test.YtekglcphdjjmcaaTjF
import Derived.Test.YtekglcphdjjmcaaTaAw
import Derived.Test.YtekglcphdjjmcaaTaH
set_option linter.unusedVariables false
namespace Go.Proofs.Ytekglcphdjjmcaa.tj
open Go.RowKit Go.Proofs.Ytekglcphdjjmcaa.oc Go.Proofs.Ytekglcphdjjmcaa.mz Go.Proofs.Ytekglcphdjjmcaa.th Go.Proofs.Ytekglcphdjjmcaa.gw
/-- the objects: the histogram of all (to which t came), the list of histograms (of the rows), the list of all numbers; L: blocks that are none of theirs -/
structure J (w : World) (base H W C : Nat) (L : List Nat) (rows : List (List Nat)) (t a : List Nat) (vl va : Value) : Prop where
  th : Th w H W C (hs t) (most t)
  rl : w.ownsRow base 34 67 vl rows.length (flat67 (rows.map hl))
  ra : Que w base 24 va (u64s a)
  dl : ∀ b, vl.ownBlock = some b → b ∉ H :: W :: C :: L ∧ va.ownBlock ≠ some b
  da : ∀ b, va.ownBlock = some b → b ∉ H :: W :: C :: L
  lt : ∀ b ∈ L, b < w.heap.size
section
variable {w w' : World} {base H W C : Nat} {L : List Nat} {rows : List (List Nat)} {t a : List Nat} {vl va : Value}
theorem J.keeps {S : Nat → Prop} (h : J w base H W C L rows t a vl va) (k : Keeps S w w') (h1 : ¬ S H ∧ ¬ S W ∧ ¬ S C) (h2 : ∀ b, vl.ownBlock = some b → ¬ S b) (h3 : ∀ b, va.ownBlock = some b → ¬ S b) : J w' base H W C L rows t a vl va :=
  ⟨h.th.keeps k h1.1 h1.2.1 h1.2.2, owns_keeps h.rl k h2, h.ra.keeps k h3, h.dl, h.da, fun b hb => Nat.lt_of_lt_of_le (h.lt b hb) k.size⟩
theorem J.all (h : J w base H W C L rows t a vl va) (k : ∀ S, Keeps S w w') : J w' base H W C L rows t a vl va := h.keeps (k (fun _ => False)) ⟨fun z => z, fun z => z, fun z => z⟩ (fun _ _ z => z) (fun _ _ z => z)
/-- only blocks of L were turned -/
theorem J.foe {S : Nat → Prop} (h : J w base H W C L rows t a vl va) (k : Keeps S w w') (hS : ∀ b, S b → b ∈ L) (hd : H ∉ L ∧ W ∉ L ∧ C ∉ L) : J w' base H W C L rows t a vl va :=
  h.keeps k ⟨fun z => hd.1 (hS _ z), fun z => hd.2.1 (hS _ z), fun z => hd.2.2 (hS _ z)⟩ (fun b hb z => (h.dl b hb).1 (by simp [hS b z])) (fun b hb z => h.da b hb (by simp [hS b z]))
theorem J.less (h : J w base H W C L rows t a vl va) : J w base H W C [] rows t a vl va :=
  ⟨h.th, h.rl, h.ra, fun b hb => ⟨fun z => (h.dl b hb).1 (by simp at z ⊢; rcases z with z | z | z <;> simp [z]), (h.dl b hb).2⟩, fun b hb z => h.da b hb (by simp at z ⊢; rcases z with z | z | z <;> simp [z]), fun b hb => by cases hb⟩
/-- L may grow by blocks that are new -/
theorem J.more (h : J w base H W C [] rows t a vl va) (k : ∀ S, Keeps S w w') {L : List Nat} (hL : ∀ b ∈ L, w.heap.size ≤ b ∧ b < w'.heap.size) : J w' base H W C L rows t a vl va := by
  have h' := h.all k
  refine ⟨h'.th, h'.rl, h'.ra, fun b hb => ⟨fun z => ?_, (h.dl b hb).2⟩, fun b hb z => ?_, fun b hb => (hL b hb).2⟩
  · have hlt := (h.rl.lt b hb).2
    simp only [List.mem_cons] at z
    rcases z with z | z | z | z
    · exact (h.dl b hb).1 (by simp [z])
    · exact (h.dl b hb).1 (by simp [z])
    · exact (h.dl b hb).1 (by simp [z])
    · have := (hL b z).1; omega
  · have hlt := (h.ra.lt hb).2
    simp only [List.mem_cons] at z
    rcases z with z | z | z | z
    · exact h.da b hb (by simp [z])
    · exact h.da b hb (by simp [z])
    · exact h.da b hb (by simp [z])
    · have := (hL b z).1; omega
/-- a number came to the histogram of all -/
theorem J.came {v : Nat} {ms : List (Nat × Nat)} (h : J w base H W C L rows t a vl va) (hv : v < 18446744073709551616) (q : Came w H W C (come v (hs t)) (max (most t) v) .nilIface 0 ms (fun _ => False) w') : J w' base H W C L rows (t ++ [v]) a vl va := by
  have hth := q.th
  rw [come_hs t v hv, most_snoc] at hth
  have k : Keeps (fun b => b = W ∨ b = C) w w' := q.keep.mono (fun b _ z => by rcases z with z | z | z; exact .inl z; exact .inr z; exact z.elim)
  exact ⟨hth, owns_keeps h.rl k (fun b hb z => (h.dl b hb).1 (by rcases z with z | z <;> simp [z])), h.ra.keeps k (fun b hb z => h.da b hb (by rcases z with z | z <;> simp [z])), h.dl, h.da, fun b hb => Nat.lt_of_lt_of_le (h.lt b hb) k.size⟩
/-- a number was appended -/
theorem J.app {v : Nat} {va' : Value} {o : Obj} (h : J w base H W C L rows t a vl va) (q1 : Que w' base 24 va' (u64s a ++ [.int .u64 (v : Int)])) (q2 : (w.alloc o).grownBy w' va.ownBlock) (q3 : va'.ownBlock = va.ownBlock ∨ va'.ownBlock = some (w.alloc o).heap.size) : J w' base H W C L rows t (a ++ [v]) vl va' := by
  have k : Keeps (fun b => va.ownBlock = some b) w w' := ((Keeps.refl _ w).alloc o).trans (Keeps.of_grown q2)
  have hz := size_alloc w o
  refine ⟨h.th.keeps k (fun z => h.da _ z (by simp)) (fun z => h.da _ z (by simp)) (fun z => h.da _ z (by simp)), owns_keeps h.rl k (fun b hb z => (h.dl b hb).2 z), by simpa [u64s] using q1, fun b hb => ⟨(h.dl b hb).1, fun z => ?_⟩, fun b hb => ?_, fun b hb => Nat.lt_of_lt_of_le (h.lt b hb) k.size⟩
  · rcases q3 with e | e
    · rw [e] at z; exact (h.dl b hb).2 z
    · rw [e] at z; injection z with z
      have := (h.rl.lt b hb).2; omega
  · rcases q3 with e | e
    · rw [e] at hb; exact h.da b hb
    · rw [e] at hb; injection hb with hb
      have l1 := h.th.ltH
      have l2 := h.th.ltW
      have l3 := h.th.ltC
      intro z
      simp only [List.mem_cons] at z
      rcases z with z | z | z | z
      · omega
      · omega
      · omega
      · have := h.lt b z; omega
/-- a histogram was appended -/
theorem J.row {r : List Nat} {vl' : Value} {o : Obj} (h : J w base H W C [] rows t a vl va) (q1 : w'.ownsRow base 34 67 vl' (rows.length + 1) (flat67 (rows.map hl) ++ u64s (hl r))) (q2 : (w.alloc o).grownBy w' vl.ownBlock) (q3 : vl'.ownBlock = vl.ownBlock ∨ vl'.ownBlock = some (w.alloc o).heap.size) : J w' base H W C [] (rows ++ [r]) t a vl' va := by
  have k : Keeps (fun b => vl.ownBlock = some b) w w' := ((Keeps.refl _ w).alloc o).trans (Keeps.of_grown q2)
  have hz := size_alloc w o
  have e0 : flat67 ((rows ++ [r]).map hl) = flat67 (rows.map hl) ++ u64s (hl r) := by simp [flat67]
  refine ⟨h.th.keeps k (fun z => (h.dl _ z).1 (by simp)) (fun z => (h.dl _ z).1 (by simp)) (fun z => (h.dl _ z).1 (by simp)), by rw [e0, List.length_append]; exact q1, h.ra.keeps k (fun b hb z => (h.dl b z).2 hb), fun b hb => ?_, h.da, fun b hb => by cases hb⟩
  rcases q3 with e | e
  · rw [e] at hb; exact h.dl b hb
  · rw [e] at hb; injection hb with hb
    have l1 := h.th.ltH
    have l2 := h.th.ltW
    have l3 := h.th.ltC
    refine ⟨fun z => ?_, fun z => ?_⟩
    · simp only [List.mem_cons, List.not_mem_nil, or_false] at z
      rcases z with z | z | z <;> omega
    · have := (h.ra.lt z).2; omega
end
/-- what the outer loop's head finds: k rows are done -/
def Out (w : World) (base H W C : Nat) (rows : List (List Nat)) (i vl va : Value) (wr : World) : Prop := ∃ k : Nat, k ≤ rows.length ∧ i = .int .i64 (k : Int) ∧ J wr base H W C [] (rows.take k) (rows.take k).flatten (rows.take k).flatten vl va ∧ Keeps (fun b => base ≤ b) w wr
/-- what the inner loop's head finds: j numbers of the row are done -/
def Inn (w : World) (base H W C H2 W2 C2 : Nat) (done : List (List Nat)) (row : List Nat) (vl : Value) (j va : Value) (wj : World) : Prop := ∃ m : Nat, m ≤ row.length ∧ j = .int .i64 (m : Int) ∧ J wj base H W C [H2, W2, C2] done (done.flatten ++ row.take m) (done.flatten ++ row.take m) vl va ∧ Th wj H2 W2 C2 (hs (row.take m)) (most (row.take m)) ∧ Keeps (fun b => base ≤ b) w wj
end Go.Proofs.Ytekglcphdjjmcaa.tj
