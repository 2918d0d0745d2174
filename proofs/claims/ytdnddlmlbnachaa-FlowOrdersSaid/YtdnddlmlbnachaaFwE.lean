/-
  Equality of arrays of 16 bytes, of addresses, of keys.
-/
import Derived.Test.YtdnddlmlbnachaaFwB
set_option linter.unusedVariables false
set_option linter.unusedSimpArgs false
namespace Go.Proofs.Ytdnddlmlbnachaa.fw
open Go.RowKit Go.Proofs.Ytdnddlmlbnachaa.oc Go.Proofs.Ytdnddlmlbnachaa.mz Go.Proofs.Ytdnddlmlbnachaa.pf Go.Proofs.Ytdnddlmlbnachaa.wh
theorem part_u8 (l : List Nat) (i : Nat) (h : i < l.length) (w : World) : (part 5 (b8s l).toArray i).run Try.prog w = .ok (.int .u8 ((l[i]'h : Nat) : Int)) w := by
  have hg : (b8s l)[i]? = some (.int .u8 ((l[i]'h : Nat) : Int)) := by simp [b8s, List.getElem?_eq_getElem h]
  simp [part, Try.isAgg5, Sem.run_bind, hg, go_sem]
theorem beq_drop {xs ys : List Nat} {a : Nat} (hx : a < xs.length) (hy : a < ys.length) : (xs.drop a == ys.drop a) = ((xs[a] == ys[a]) && (xs.drop (a + 1) == ys.drop (a + 1))) := by
  rw [List.drop_eq_getElem_cons hx, List.drop_eq_getElem_cons hy]
  rfl
theorem loop_eq (d : Nat) (xs ys : List Nat) (m : Nat) (hx : xs.length = m) (hy : ys.length = m) (w : World) : ∀ (n a : Nat), a + n = m →
    (Sem.run Try.prog (forIn (List.range' a n) ((none : Option Bool), ()) fun i __s => do
      let __do_lift ← part 5 (b8s xs).toArray (i * 1)
      let __do_lift_1 ← part 5 (b8s ys).toArray (i * 1)
      let __do_lift ← Op.equalIn (d + 1) 5 __do_lift __do_lift_1
      if (!__do_lift) = true then pure (ForInStep.done (some false, ())) else pure (ForInStep.yield (none, ()))) w) = .ok (if xs.drop a == ys.drop a then (none, ()) else (some false, ())) w
  | 0, a, h => by
    have e1 : xs.drop a = [] := List.drop_eq_nil_of_le (by omega)
    have e2 : ys.drop a = [] := List.drop_eq_nil_of_le (by omega)
    rw [e1, e2]
    simp [Sem.run_pure]
  | n + 1, a, h => by
    have ih := loop_eq d xs ys m hx hy w n (a + 1) (by omega)
    have p1 := part_u8 xs a (by omega) w
    have p2 := part_u8 ys a (by omega) w
    rw [List.range'_succ, List.forIn_cons, beq_drop (by omega) (by omega)]
    have he := run_equalIn_int (P := Try.prog) (w := w) d 5 .u8 .u8 ((xs[a]'(by omega) : Nat) : Int) ((ys[a]'(by omega) : Nat) : Int) Try.underlying5
    rw [Nat.mul_one]
    simp only [Sem.run_bind, p1, p2, Result.andThen_ok, he]
    by_cases hq : xs[a]'(by omega) = ys[a]'(by omega)
    · have hqi : ((xs[a]'(by omega) : Nat) : Int) == ((ys[a]'(by omega) : Nat) : Int) := by rw [hq]; simp
      rw [hqi]
      simp only [Bool.not_true, Bool.false_eq_true, if_false, Sem.run_pure, Result.andThen_ok]
      rw [ih]
      simp [hq]
    · have hqi : (((xs[a]'(by omega) : Nat) : Int) == ((ys[a]'(by omega) : Nat) : Int)) = false := by simpa using fun e => hq (by omega)
      rw [hqi]
      simp [hq, Sem.run_pure]
theorem arr_eq (d : Nat) (xs ys : List Nat) (hx : xs.length = 16) (hy : ys.length = 16) (w : World) : (Op.equalIn (d + 2) 22 (.agg (b8s xs).toArray) (.agg (b8s ys).toArray)).run Try.prog w = .ok (xs == ys) w := by
  unfold Op.equalIn
  have h2 := run_underlying (P := Try.prog) Try.underlying22 w
  rw [Sem.run_bind, h2]
  simp only [Result.andThen_ok, Std.Legacy.Range.forIn_eq_forIn_range', Std.Legacy.Range.size, Sem.run_bind, Try.sizeOf5]
  have hl := loop_eq d xs ys 16 hx hy w 16 0 rfl
  simp only [Nat.sub_zero, Nat.add_sub_cancel, Nat.div_one]
  rw [hl]
  simp only [List.drop_zero, Result.andThen_ok]
  by_cases hq : xs = ys
  · subst hq; simp [Sem.run_pure]
  · simp [hq, Sem.run_pure]
theorem agg_of {t : TypeId} (h : (Try.prog.underlying t).map (·.isRow) = some true) (w : World) : (isAgg t).run Try.prog w = .ok true w := by
  cases hu : Try.prog.underlying t with
  | none => simp [hu] at h
  | some d =>
    unfold isAgg
    rw [Sem.run_bind, run_underlying hu w]
    cases d <;> simp_all [TypeDesc.isRow]
theorem size_of {t : TypeId} {n : Nat} (h : (Try.prog.info? t).map (·.size) = some n) (w : World) : (sizeOf t).run Try.prog w = .ok n w := by
  cases hq : Try.prog.info? t with
  | none => simp [hq] at h
  | some i => simp [hq] at h; simp [sizeOf, typeInfo, hq, h]
theorem part_row {t : TypeId} {n : Nat} (hr : (Try.prog.underlying t).map (·.isRow) = some true) (hn : (Try.prog.info? t).map (·.size) = some n) (l : List Value) (o : Nat) (w : World) : (part t l.toArray o).run Try.prog w = .ok (.agg ((l.drop o).take n).toArray) w := by
  have he : l.toArray.extract o (o + n) = ((l.drop o).take n).toArray := by simp [List.extract]
  simp only [part, Sem.run_bind, agg_of hr w, Result.andThen_ok, size_of hn w, if_true, Sem.run_pure, he]
theorem eqF (P : Program) (w : World) (d : Nat) (xs ys : Array Value) (f : Field) (fs : List Field) (t : TypeId) (o : Nat) (x y : Value) (b : Bool) (hn : (f.name == "_") = false) (ht : f.type = t) (ho : f.offset = o)
    (hx : (part t xs o).run P w = .ok x w) (hy : (part t ys o).run P w = .ok y w) (he : (Op.equalIn d t x y).run P w = .ok b w) :
    (Op.eqFields d xs ys (f :: fs)).run P w = if b then (Op.eqFields d xs ys fs).run P w else .ok false w := by
  subst ht
  subst ho
  have hn' : f.name ≠ "_" := by intro e; rw [e] at hn; simp at hn
  rw [Op.eqFields, if_pos hn', Sem.run_bind, hx, Result.andThen_ok, Sem.run_bind, hy, Result.andThen_ok, Sem.run_bind, he, Result.andThen_ok]
  cases b
  · rfl
  · rfl
instance : DecidableEq Ad := fun a b => decidable_of_iff (a.v6 = b.v6 ∧ a.B = b.B) ⟨fun h => Ad.eq_of h.1 h.2, fun h => by rw [h]; exact ⟨rfl, rfl⟩⟩
theorem beq_ad (a b : Ad) : (a.v6 == b.v6 && a.B == b.B) = decide (a = b) := by
  cases a; cases b
  rw [Bool.eq_iff_iff]
  simp
theorem addr_fields : ((Try.prog.fieldsOf 24).toList.map (fun f => (f.name == "_", f.type, f.offset))) = [(false, 4, 0), (false, 22, 1)] := by kernel_rfl
theorem part_one {t : TypeId} (ha : ∀ w, (isAgg t).run Try.prog w = .ok false w) (l : List Value) (o : Nat) (x : Value) (h : l[o]? = some x) (w : World) : (part t l.toArray o).run Try.prog w = .ok x w := by
  simp [part, ha w, Sem.run_bind, h, go_sem]
theorem addr_eqd (d : Nat) (a b : Ad) (ha : a.Wf) (hb : b.Wf) (w : World) : (Op.equalIn (d + 3) 24 (av a) (av b)).run Try.prog w = .ok (decide (a = b)) w := by
  unfold av
  have h := run_equalIn_struct (P := Try.prog) (w := w) (d + 2) 24 (adc a).toArray (adc b).toArray (by kernel_rfl) (by kernel_rfl)
  rw [h]
  have hf := addr_fields
  generalize (Try.prog.fieldsOf 24).toList = fs at hf
  obtain ⟨f1, fs, rfl⟩ : ∃ f r, fs = f :: r := by cases fs with | nil => simp at hf | cons a b => exact ⟨_, _, rfl⟩
  obtain ⟨f2, fs, rfl⟩ : ∃ f r, fs = f :: r := by cases fs with | nil => simp at hf | cons a b => exact ⟨_, _, rfl⟩
  simp only [List.map_cons, List.cons.injEq, Prod.mk.injEq, List.map_eq_nil_iff] at hf
  obtain ⟨⟨n1, t1, o1⟩, ⟨n2, t2, o2⟩, rfl⟩ := hf
  have a1 := part_one (t := 4) Try.isAgg4 (adc a) 0 (.bool a.v6) rfl w
  have a2 := part_one (t := 4) Try.isAgg4 (adc b) 0 (.bool b.v6) rfl w
  have b1 := part_row (t := 22) (n := 16) (by kernel_rfl) arr_info (adc a) 1 w
  have b2 := part_row (t := 22) (n := 16) (by kernel_rfl) arr_info (adc b) 1 w
  have e1 : ((adc a).drop 1).take 16 = b8s a.B := by rw [show (adc a).drop 1 = b8s a.B from rfl, List.take_of_length_le (by rw [b8_len, ha.len]; omega)]
  have e2 : ((adc b).drop 1).take 16 = b8s b.B := by rw [show (adc b).drop 1 = b8s b.B from rfl, List.take_of_length_le (by rw [b8_len, hb.len]; omega)]
  rw [e1] at b1
  rw [e2] at b2
  have h1 := run_equalIn_bool (P := Try.prog) w (d + 1) 4 a.v6 b.v6 Try.underlying4
  have h2 := arr_eq d a.B b.B ha.len hb.len w
  rw [eqF _ w _ _ _ f1 _ _ _ _ _ _ n1 t1 o1 a1 a2 h1, eqF _ w _ _ _ f2 _ _ _ _ _ _ n2 t2 o2 b1 b2 h2, ← beq_ad]
  cases (a.v6 == b.v6) <;> cases (a.B == b.B) <;> rfl
instance : DecidableEq Ky := fun a b => decidable_of_iff (a.src = b.src ∧ a.dst = b.dst ∧ a.pr = b.pr ∧ a.sp = b.sp ∧ a.dp = b.dp) ⟨fun h => by cases a; cases b; simp at h; simp [h.1, h.2.1, h.2.2.1, h.2.2.2.1, h.2.2.2.2], fun h => by rw [h]; exact ⟨rfl, rfl, rfl, rfl, rfl⟩⟩
theorem key_fields : ((Try.prog.fieldsOf 31).toList.map (fun f => (f.name == "_", f.type, f.offset))) = [(false, 24, 0), (false, 24, 17), (false, 5, 34), (false, 25, 35), (false, 25, 36)] := by kernel_rfl
theorem key_eqd (d : Nat) (p q : Ky) (hp : p.Wf) (hq : q.Wf) (w : World) : (Op.equalIn (d + 4) 31 (kv p) (kv q)).run Try.prog w = .ok (decide (p = q)) w := by
  unfold kv
  have h := run_equalIn_struct (P := Try.prog) (w := w) (d + 3) 31 (kvc p).toArray (kvc q).toArray (by kernel_rfl) (by kernel_rfl)
  rw [h]
  have hf := key_fields
  generalize (Try.prog.fieldsOf 31).toList = fs at hf
  obtain ⟨f1, fs, rfl⟩ : ∃ f r, fs = f :: r := by cases fs with | nil => simp at hf | cons a b => exact ⟨_, _, rfl⟩
  obtain ⟨f2, fs, rfl⟩ : ∃ f r, fs = f :: r := by cases fs with | nil => simp at hf | cons a b => exact ⟨_, _, rfl⟩
  obtain ⟨f3, fs, rfl⟩ : ∃ f r, fs = f :: r := by cases fs with | nil => simp at hf | cons a b => exact ⟨_, _, rfl⟩
  obtain ⟨f4, fs, rfl⟩ : ∃ f r, fs = f :: r := by cases fs with | nil => simp at hf | cons a b => exact ⟨_, _, rfl⟩
  obtain ⟨f5, fs, rfl⟩ : ∃ f r, fs = f :: r := by cases fs with | nil => simp at hf | cons a b => exact ⟨_, _, rfl⟩
  simp only [List.map_cons, List.cons.injEq, Prod.mk.injEq, List.map_eq_nil_iff] at hf
  obtain ⟨⟨n1, t1, o1⟩, ⟨n2, t2, o2⟩, ⟨n3, t3, o3⟩, ⟨n4, t4, o4⟩, ⟨n5, t5, o5⟩, rfl⟩ := hf
  have a1 := part_row (t := 24) (n := 17) (by kernel_rfl) ad_info (kvc p) 0 w
  have a2 := part_row (t := 24) (n := 17) (by kernel_rfl) ad_info (kvc q) 0 w
  have b1 := part_row (t := 24) (n := 17) (by kernel_rfl) ad_info (kvc p) 17 w
  have b2 := part_row (t := 24) (n := 17) (by kernel_rfl) ad_info (kvc q) 17 w
  rw [List.drop_zero, kvc_src hp] at a1
  rw [List.drop_zero, kvc_src hq] at a2
  rw [kvc_dst hp] at b1
  rw [kvc_dst hq] at b2
  have c1 := part_one (t := 5) Try.isAgg5 (kvc p) 34 _ (kvc_pr hp) w
  have c2 := part_one (t := 5) Try.isAgg5 (kvc q) 34 _ (kvc_pr hq) w
  have d1 := part_one (t := 25) Try.isAgg25 (kvc p) 35 _ (kvc_sp hp) w
  have d2 := part_one (t := 25) Try.isAgg25 (kvc q) 35 _ (kvc_sp hq) w
  have e1 := part_one (t := 25) Try.isAgg25 (kvc p) 36 _ (kvc_dp hp) w
  have e2 := part_one (t := 25) Try.isAgg25 (kvc q) 36 _ (kvc_dp hq) w
  have h1 := addr_eqd d p.src q.src hp.s hq.s w
  have h2 := addr_eqd d p.dst q.dst hp.d hq.d w
  have h3 := run_equalIn_int (P := Try.prog) (w := w) (d + 2) 5 .u8 .u8 ((p.pr : Nat) : Int) ((q.pr : Nat) : Int) Try.underlying5
  have h4 := run_equalIn_int (P := Try.prog) (w := w) (d + 2) 25 .u16 .u16 ((p.sp : Nat) : Int) ((q.sp : Nat) : Int) Try.underlying25
  have h5 := run_equalIn_int (P := Try.prog) (w := w) (d + 2) 25 .u16 .u16 ((p.dp : Nat) : Int) ((q.dp : Nat) : Int) Try.underlying25
  unfold av at h1 h2
  rw [eqF _ w _ _ _ f1 _ _ _ _ _ _ n1 t1 o1 a1 a2 h1, eqF _ w _ _ _ f2 _ _ _ _ _ _ n2 t2 o2 b1 b2 h2, eqF _ w _ _ _ f3 _ _ _ _ _ _ n3 t3 o3 c1 c2 h3, eqF _ w _ _ _ f4 _ _ _ _ _ _ n4 t4 o4 d1 d2 h4, eqF _ w _ _ _ f5 _ _ _ _ _ _ n5 t5 o5 e1 e2 h5]
  have hd : decide (p = q) = (decide (p.src = q.src) && (decide (p.dst = q.dst) && (((p.pr : Int) == (q.pr : Int)) && (((p.sp : Int) == (q.sp : Int)) && ((p.dp : Int) == (q.dp : Int)))))) := by
    rw [Bool.eq_iff_iff]
    cases p; cases q
    simp
    omega
  rw [hd]
  cases decide (p.src = q.src) <;> cases decide (p.dst = q.dst) <;> cases ((p.pr : Int) == (q.pr : Int)) <;> cases ((p.sp : Int) == (q.sp : Int)) <;> cases ((p.dp : Int) == (q.dp : Int)) <;> rfl
theorem key_equ (p q : Ky) (hp : p.Wf) (hq : q.Wf) (w : World) : (Op.equalIn 10000 31 (kv p) (kv q)).run Try.prog w = .ok (decide (p = q)) w := by
  have h := key_eqd 9996 p q hp hq w
  simp only [Nat.reduceAdd] at h
  exact h
theorem key_eql (p q : Ky) (hp : p.Wf) (hq : q.Wf) (w : World) : (binOp .eql 31 (kv p) (kv q)).run Try.prog w = .ok (.bool (decide (p = q))) w := by
  have h := key_eqd 9996 p q hp hq w
  simp only [Nat.reduceAdd] at h
  unfold kv at h ⊢
  rw [run_eql_struct, h]; rfl
theorem key_neq (p q : Ky) (hp : p.Wf) (hq : q.Wf) (w : World) : (binOp .neq 31 (kv p) (kv q)).run Try.prog w = .ok (.bool (!decide (p = q))) w := by
  have h := key_eqd 9996 p q hp hq w
  simp only [Nat.reduceAdd] at h
  unfold kv at h ⊢
  rw [run_neq_struct, h]; rfl
end Go.Proofs.Ytdnddlmlbnachaa.fw
