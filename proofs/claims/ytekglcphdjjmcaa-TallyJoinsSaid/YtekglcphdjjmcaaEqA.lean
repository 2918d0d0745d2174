/-
  Equality of arrays of 65 numbers, and of histograms.
-/
import Derived.Test.YtekglcphdjjmcaaWh
set_option linter.unusedVariables false
namespace Go.Proofs.Ytekglcphdjjmcaa.eqa
open Go.RowKit Go.Proofs.Ytekglcphdjjmcaa.oc Go.Proofs.Ytekglcphdjjmcaa.mz
theorem part_u64 (l : List Nat) (i : Nat) (h : i < l.length) (w : World) : (part 24 (u64s l).toArray i).run Try.prog w = .ok (.int .u64 ((l[i]'h : Nat) : Int)) w := by
  have hg : (u64s l)[i]? = some (.int .u64 ((l[i]'h : Nat) : Int)) := by simp [u64s, List.getElem?_eq_getElem h]
  simp [part, Try.isAgg24, Sem.run_bind, hg, go_sem]
theorem beq_drop {xs ys : List Nat} {a : Nat} (hx : a < xs.length) (hy : a < ys.length) : (xs.drop a == ys.drop a) = ((xs[a] == ys[a]) && (xs.drop (a + 1) == ys.drop (a + 1))) := by
  rw [List.drop_eq_getElem_cons hx, List.drop_eq_getElem_cons hy]
  rfl
theorem loop_eq (d : Nat) (xs ys : List Nat) (m : Nat) (hx : xs.length = m) (hy : ys.length = m) (w : World) : ∀ (n a : Nat), a + n = m →
    (Sem.run Try.prog (forIn (List.range' a n) ((none : Option Bool), ()) fun i __s => do
      let __do_lift ← part 24 (u64s xs).toArray (i * 1)
      let __do_lift_1 ← part 24 (u64s ys).toArray (i * 1)
      let __do_lift ← Op.equalIn (d + 1) 24 __do_lift __do_lift_1
      if (!__do_lift) = true then pure (ForInStep.done (some false, ())) else pure (ForInStep.yield (none, ()))) w) = .ok (if xs.drop a == ys.drop a then (none, ()) else (some false, ())) w
  | 0, a, h => by
    have e1 : xs.drop a = [] := List.drop_eq_nil_of_le (by omega)
    have e2 : ys.drop a = [] := List.drop_eq_nil_of_le (by omega)
    rw [e1, e2]
    simp [Sem.run_pure]
  | n + 1, a, h => by
    have ih := loop_eq d xs ys m hx hy w n (a + 1) (by omega)
    have p1 := part_u64 xs a (by omega) w
    have p2 := part_u64 ys a (by omega) w
    rw [List.range'_succ, List.forIn_cons, beq_drop (by omega) (by omega)]
    have he := run_equalIn_int (P := Try.prog) (w := w) d 24 .u64 .u64 ((xs[a]'(by omega) : Nat) : Int) ((ys[a]'(by omega) : Nat) : Int) Try.underlying24
    rw [Nat.mul_one]
    simp only [Sem.run_bind, p1, p2, Result.andThen_ok, he]
    by_cases hq : xs[a]'(by omega) = ys[a]'(by omega)
    · have hqi : ((xs[a]'(by omega) : Nat) : Int) == ((ys[a]'(by omega) : Nat) : Int) := by rw [hq]; simp
      rw [hqi]
      simp only [Bool.not_true, Bool.false_eq_true, if_false, Sem.run_pure, Result.andThen_ok]
      rw [ih]
      simp [hq]
    · have hqi : (((xs[a]'(by omega) : Nat) : Int) == ((ys[a]'(by omega) : Nat) : Int)) = false := by simpa using fun e => hq (by omega)
      rw [hqi]
      simp [hq, Sem.run_pure]
theorem arr_eq (d : Nat) (xs ys : List Nat) (hx : xs.length = 65) (hy : ys.length = 65) (w : World) : (Op.equalIn (d + 2) 32 (.agg (u64s xs).toArray) (.agg (u64s ys).toArray)).run Try.prog w = .ok (xs == ys) w := by
  unfold Op.equalIn
  have h2 := run_underlying (P := Try.prog) Try.underlying32 w
  rw [Sem.run_bind, h2]
  simp only [Result.andThen_ok, Std.Legacy.Range.forIn_eq_forIn_range', Std.Legacy.Range.size, Sem.run_bind, Try.sizeOf24]
  have hl := loop_eq d xs ys 65 hx hy w 65 0 rfl
  simp only [Nat.sub_zero, Nat.add_sub_cancel, Nat.div_one]
  rw [hl]
  simp only [List.drop_zero, Result.andThen_ok]
  by_cases hq : xs = ys
  · subst hq; simp [Sem.run_pure]
  · simp [hq, Sem.run_pure]
theorem arr_size : (Try.prog.info? 32).map (·.size) = some 65 := by kernel_rfl
theorem part_arr (l : List Nat) (w : World) : (part 32 (u64s l).toArray 0).run Try.prog w = .ok (.agg (u64s (l.take 65)).toArray) w := by
  have hagg : (isAgg 32).run Try.prog w = .ok true w := by
    unfold isAgg
    rw [Sem.run_bind, run_underlying Try.underlying32 w]
    simp
  have hsz : (sizeOf 32).run Try.prog w = .ok 65 w := by
    cases hq : Try.prog.info? 32 with
    | none => have := arr_size; simp [hq] at this
    | some i => have := arr_size; simp [hq] at this; simp [sizeOf, typeInfo, hq, this]
  have he : (u64s l).toArray.extract 0 (0 + 65) = (u64s (l.take 65)).toArray := by
    simp [u64s, List.map_take]
  simp only [part, Sem.run_bind, hagg, Result.andThen_ok, hsz, if_true, Sem.run_pure, he]
theorem eqF (P : Program) (w : World) (d : Nat) (xs ys : Array Value) (f : Field) (fs : List Field) (t : TypeId) (o : Nat) (x y : Value) (b : Bool) (hn : (f.name == "_") = false) (ht : f.type = t) (ho : f.offset = o)
    (hx : (part t xs o).run P w = .ok x w) (hy : (part t ys o).run P w = .ok y w) (he : (Op.equalIn d t x y).run P w = .ok b w) :
    (Op.eqFields d xs ys (f :: fs)).run P w = if b then (Op.eqFields d xs ys fs).run P w else .ok false w := by
  subst ht
  subst ho
  have hn' : f.name ≠ "_" := by intro e; rw [e] at hn; simp at hn
  rw [Op.eqFields, if_pos hn', Sem.run_bind, hx, Result.andThen_ok, Sem.run_bind, hy, Result.andThen_ok, Sem.run_bind, he, Result.andThen_ok]
  cases b
  · rfl
  · rfl
theorem hist_fields : ((Try.prog.fieldsOf 34).toList.map (fun f => (f.name == "_", f.type, f.offset))) = [(false, 32, 0), (false, 24, 65), (false, 24, 66)] := by kernel_rfl
theorem take_eq {xs ys : List Nat} (hx : xs.length = 67) (hy : ys.length = 67) : (xs == ys) = ((xs.take 65 == ys.take 65) && ((xs[65] == ys[65]) && (xs[66] == ys[66]))) := by
  have e1 : xs = xs.take 65 ++ (xs[65] :: xs[66] :: []) := by
    have := (List.take_append_drop 65 xs).symm
    rw [List.drop_eq_getElem_cons (by omega), List.drop_eq_getElem_cons (by omega), List.drop_eq_nil_of_le (by omega)] at this
    exact this
  have e2 : ys = ys.take 65 ++ (ys[65] :: ys[66] :: []) := by
    have := (List.take_append_drop 65 ys).symm
    rw [List.drop_eq_getElem_cons (by omega), List.drop_eq_getElem_cons (by omega), List.drop_eq_nil_of_le (by omega)] at this
    exact this
  rw [Bool.eq_iff_iff]
  simp only [beq_iff_eq, Bool.and_eq_true]
  constructor
  · rintro rfl; exact ⟨rfl, rfl, rfl⟩
  · rintro ⟨h1, h2, h3⟩
    rw [e1, e2, h1, h2, h3]
theorem hist_eqd (d : Nat) (xs ys : List Nat) (hx : xs.length = 67) (hy : ys.length = 67) (w : World) : (Op.equalIn (d + 3) 34 (.agg (u64s xs).toArray) (.agg (u64s ys).toArray)).run Try.prog w = .ok (xs == ys) w := by
  have h := run_equalIn_struct (P := Try.prog) (w := w) (d + 2) 34 (u64s xs).toArray (u64s ys).toArray (by kernel_rfl) (by kernel_rfl)
  rw [h]
  have hf := hist_fields
  generalize (Try.prog.fieldsOf 34).toList = fs at hf
  obtain ⟨f1, fs, rfl⟩ : ∃ f r, fs = f :: r := by cases fs with | nil => simp at hf | cons a b => exact ⟨_, _, rfl⟩
  obtain ⟨f2, fs, rfl⟩ : ∃ f r, fs = f :: r := by cases fs with | nil => simp at hf | cons a b => exact ⟨_, _, rfl⟩
  obtain ⟨f3, fs, rfl⟩ : ∃ f r, fs = f :: r := by cases fs with | nil => simp at hf | cons a b => exact ⟨_, _, rfl⟩
  simp only [List.map_cons, List.cons.injEq, Prod.mk.injEq, List.map_eq_nil_iff] at hf
  obtain ⟨⟨n1, t1, o1⟩, ⟨n2, t2, o2⟩, ⟨n3, t3, o3⟩, rfl⟩ := hf
  have a1 := part_arr xs w
  have a2 := part_arr ys w
  have ha := arr_eq d (xs.take 65) (ys.take 65) (by simp; omega) (by simp; omega) w
  have b1 := part_u64 xs 65 (by omega) w
  have b2 := part_u64 ys 65 (by omega) w
  have c1 := part_u64 xs 66 (by omega) w
  have c2 := part_u64 ys 66 (by omega) w
  have hb : (Op.equalIn (d + 2) 24 (.int .u64 ((xs[65] : Nat) : Int)) (.int .u64 ((ys[65] : Nat) : Int))).run Try.prog w = .ok (((xs[65] : Nat) : Int) == ((ys[65] : Nat) : Int)) w := run_equalIn_int (P := Try.prog) (w := w) (d + 1) 24 .u64 .u64 _ _ Try.underlying24
  have hc : (Op.equalIn (d + 2) 24 (.int .u64 ((xs[66] : Nat) : Int)) (.int .u64 ((ys[66] : Nat) : Int))).run Try.prog w = .ok (((xs[66] : Nat) : Int) == ((ys[66] : Nat) : Int)) w := run_equalIn_int (P := Try.prog) (w := w) (d + 1) 24 .u64 .u64 _ _ Try.underlying24
  have i1 : (((xs[65] : Nat) : Int) == ((ys[65] : Nat) : Int)) = (xs[65] == ys[65]) := by rw [Bool.eq_iff_iff]; simp only [beq_iff_eq]; omega
  have i2 : (((xs[66] : Nat) : Int) == ((ys[66] : Nat) : Int)) = (xs[66] == ys[66]) := by rw [Bool.eq_iff_iff]; simp only [beq_iff_eq]; omega
  rw [i1] at hb
  rw [i2] at hc
  rw [take_eq hx hy]
  rw [eqF _ w _ _ _ f1 _ _ _ _ _ _ n1 t1 o1 a1 a2 ha, eqF _ w _ _ _ f2 _ _ _ _ _ _ n2 t2 o2 b1 b2 hb, eqF _ w _ _ _ f3 _ _ _ _ _ _ n3 t3 o3 c1 c2 hc]
  cases (xs.take 65 == ys.take 65) <;> cases (xs[65] == ys[65]) <;> cases (xs[66] == ys[66]) <;> rfl
theorem hist_eq (xs ys : List Nat) (hx : xs.length = 67) (hy : ys.length = 67) (w : World) : (Op.equalIn 10000 34 (.agg (u64s xs).toArray) (.agg (u64s ys).toArray)).run Try.prog w = .ok (xs == ys) w := by
  have h := hist_eqd 9997 xs ys hx hy w
  simp only [Nat.reduceAdd] at h
  exact h
theorem arr_eq' (xs ys : List Nat) (hx : xs.length = 65) (hy : ys.length = 65) (w : World) : (Op.equalIn 10000 32 (.agg (u64s xs).toArray) (.agg (u64s ys).toArray)).run Try.prog w = .ok (xs == ys) w := by
  have h := arr_eq 9998 xs ys hx hy w
  simp only [Nat.reduceAdd] at h
  exact h
end Go.Proofs.Ytekglcphdjjmcaa.eqa
