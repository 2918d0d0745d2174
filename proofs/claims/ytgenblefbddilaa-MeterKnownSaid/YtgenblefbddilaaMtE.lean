/-
  A bucket is itself.
-/
import Derived.Test.YtgenblefbddilaaBq
import Derived.Deep.MidRow
import Derived.Deep.WholeRow
set_option linter.unusedVariables false
namespace Go.Proofs.Ytgenblefbddilaa.mt
open Go.RowKit Go.Proofs.Ytgenblefbddilaa.oc Go.Proofs.Ytgenblefbddilaa.mz
theorem mtF (P : Program) (w : World) (d : Nat) (xs ys : Array Value) (f : Field) (fs : List Field) (t : TypeId) (o : Nat) (x y : Value) (b : Bool) (hn : (f.name == "_") = false) (ht : f.type = t) (ho : f.offset = o)
    (hx : (part t xs o).run P w = .ok x w) (hy : (part t ys o).run P w = .ok y w) (he : (Op.equalIn d t x y).run P w = .ok b w) :
    (Op.eqFields d xs ys (f :: fs)).run P w = if b then (Op.eqFields d xs ys fs).run P w else .ok false w := by
  subst ht
  subst ho
  have hn' : f.name ≠ "_" := by intro e; rw [e] at hn; simp at hn
  rw [Op.eqFields, if_pos hn', Sem.run_bind, hx, Result.andThen_ok, Sem.run_bind, hy, Result.andThen_ok, Sem.run_bind, he, Result.andThen_ok]
  cases b
  · rfl
  · rfl
theorem bucket_fields : ((Try.prog.fieldsOf 24).toList.map (fun f => (f.name == "_", f.type, f.offset))) = [(false, 22, 0), (false, 22, 1), (false, 22, 2)] := by kernel_rfl
theorem bpart (a b c : Int) (i : Nat) (x : Int) (h : [a, b, c][i]? = some x) (w : World) : (part 22 #[.int .u64 a, .int .u64 b, .int .u64 c] i).run Try.prog w = .ok (.int .u64 x) w := by
  rcases i with _ | _ | _ | i
  · simp at h; subst h; simp [part, Try.isAgg22, Sem.run_bind, go_sem]
  · simp at h; subst h; simp [part, Try.isAgg22, Sem.run_bind, go_sem]
  · simp at h; subst h; simp [part, Try.isAgg22, Sem.run_bind, go_sem]
  · simp at h
theorem bucket_eqd (a b c : Int) (w : World) : (Op.equalIn 10000 24 (.agg #[.int .u64 a, .int .u64 b, .int .u64 c]) (.agg #[.int .u64 a, .int .u64 b, .int .u64 c])).run Try.prog w = .ok true w := by
  have h := run_equalIn_struct (P := Try.prog) (w := w) 9999 24 #[.int .u64 a, .int .u64 b, .int .u64 c] #[.int .u64 a, .int .u64 b, .int .u64 c] (by kernel_rfl) (by kernel_rfl)
  simp only [Nat.reduceAdd] at h
  rw [h]
  have hf := bucket_fields
  generalize (Try.prog.fieldsOf 24).toList = fs at hf
  obtain ⟨f1, fs, rfl⟩ : ∃ f r, fs = f :: r := by cases fs with | nil => simp at hf | cons a b => exact ⟨_, _, rfl⟩
  obtain ⟨f2, fs, rfl⟩ : ∃ f r, fs = f :: r := by cases fs with | nil => simp at hf | cons a b => exact ⟨_, _, rfl⟩
  obtain ⟨f3, fs, rfl⟩ : ∃ f r, fs = f :: r := by cases fs with | nil => simp at hf | cons a b => exact ⟨_, _, rfl⟩
  simp only [List.map_cons, List.cons.injEq, Prod.mk.injEq, List.map_eq_nil_iff] at hf
  obtain ⟨⟨n1, t1, o1⟩, ⟨n2, t2, o2⟩, ⟨n3, t3, o3⟩, rfl⟩ := hf
  have e : ∀ x : Int, (Op.equalIn 9999 22 (.int .u64 x) (.int .u64 x)).run Try.prog w = .ok true w := fun x => by
    have := run_equalIn_int (P := Try.prog) (w := w) 9998 22 .u64 .u64 x x Try.underlying22
    simpa using this
  rw [mtF _ w _ _ _ f1 _ _ _ _ _ _ n1 t1 o1 (bpart a b c 0 a rfl w) (bpart a b c 0 a rfl w) (e a), mtF _ w _ _ _ f2 _ _ _ _ _ _ n2 t2 o2 (bpart a b c 1 b rfl w) (bpart a b c 1 b rfl w) (e b), mtF _ w _ _ _ f3 _ _ _ _ _ _ n3 t3 o3 (bpart a b c 2 c rfl w) (bpart a b c 2 c rfl w) (e c)]
  rfl
theorem bucket_neq (a b c : Int) (w : World) : (binOp .neq 24 (.agg #[.int .u64 a, .int .u64 b, .int .u64 c]) (.agg #[.int .u64 a, .int .u64 b, .int .u64 c])).run Try.prog w = .ok (.bool false) w := by
  rw [run_neq_struct, bucket_eqd a b c w]; simp
theorem bucket_eql (a b c : Int) (w : World) : (binOp .eql 24 (.agg #[.int .u64 a, .int .u64 b, .int .u64 c]) (.agg #[.int .u64 a, .int .u64 b, .int .u64 c])).run Try.prog w = .ok (.bool true) w := by
  rw [run_eql_struct, bucket_eqd a b c w]; rfl
end Go.Proofs.Ytgenblefbddilaa.mt
