/-
  queue: Drain under a gate.
-/
import Derived.Test.YtlpgdpdjaoppbaaQuNew
import Derived.Test.YtlpgdpdjaoppbaaOcQue
set_option linter.unusedVariables false
namespace Go.Proofs.Ytlpgdpdjaoppbaa.qu
open Go.RowKit Go.Proofs.Ytlpgdpdjaoppbaa.oc Go.Proofs.Ytlpgdpdjaoppbaa.mz Go.Proofs.Ytlpgdpdjaoppbaa.at_ Go.Proofs.Ytlpgdpdjaoppbaa.gt Go.Proofs.Ytlpgdpdjaoppbaa.gw
theorem u64_info : (Try.prog.info? 31).map (fun i => (i.zero, i.size, i.bytes)) = some (some (.int .u64 0), 1, 8) := by kernel_rfl
theorem u64s_len (l : List Nat) : (u64s l).length = l.length := by simp [u64s]
/-- the words behind all Takes, their operations: at most k of them -/
def drainW (n : Nat) : List Nat → List Nat → List Nat
  | [], ws => ws
  | _ :: r, ws => drainW n r (takeW n ws)
def takeM (n : Nat) (ws : List Nat) : List (Nat × Nat) := [(1, 1), (1, seqOf n (ws[1]?.getD 0)), (5, 1), (1, seqOf n (ws[1]?.getD 0) + 1), (2, seqOf n (ws[1]?.getD 0))]
def takeN (n : Nat) (ws : List Nat) : List (Nat × Nat) := [(1, 1), (1, seqOf n (ws[1]?.getD 0))]
def drainM (n : Nat) : List Nat → Nat → List Nat → List (Nat × Nat)
  | _, 0, ws => []
  | [], _ + 1, ws => takeN n ws
  | _ :: r, k + 1, ws => takeM n ws ++ drainM n r k (takeW n ws)
theorem drain_lk {n c : Nat} : ∀ (row ws : List Nat), Lk n ws row c → Lk n (drainW n row ws) [] c
  | [], ws, h => h
  | x :: r, ws, h => drain_lk r (takeW n ws) h.take
theorem drain_len (n : Nat) : ∀ (row : List Nat) (k : Nat) (ws : List Nat), (drainM n row k ws).length ≤ 5 * row.length + 2
  | [], 0, ws => by simp [drainM]
  | [], k + 1, ws => by simp [drainM, takeN]
  | x :: r, 0, ws => by simp [drainM]
  | x :: r, k + 1, ws => by
    have := drain_len n r k (takeW n ws)
    simp [drainM, takeM]
    omega
/-- what Drain leaves -/
def Drained (Q W n N : Nat) (ws' l : List Nat) (gv : Value) (ms' : List (Nat × Nat)) (F : Nat → Prop) (w : World) (e : Ending) (w' : World) : Prop :=
  ∃ v F', e = .returned (.tuple #[v, .int .i64 0]) ∧ Que w' w.heap.size 31 v (u64s l) ∧ St w' Q W n N ws' gv ms' F' ∧ Keeps (fun b => b = W ∨ F b) w w'
/-- what the loop's head finds: k were taken -/
structure Dr (w wr : World) (Q W n N : Nat) (ws row : List Nat) (c : Nat) (gv : Value) (ms : List (Nat × Nat)) (F : Nat → Prop) (v : Value) (k : Nat) : Prop where
  it : ∃ done row' ws' ms' F', row = done ++ row' ∧ done.length = k ∧ St wr Q W n N ws' gv ms' F' ∧ Lk n ws' row' c ∧ ms'.length ≤ ms.length + 5 * k ∧ Que wr w.heap.size 31 v (u64s done) ∧ (∀ b, v.ownBlock = some b → ¬ F' b) ∧ (∀ b, F' b → b < wr.heap.size) ∧ (∀ b, b < w.heap.size → F' b → F b) ∧
    ms' ++ drainM n row' (n - k) ws' = ms ++ drainM n row n ws ∧ drainW n row' ws' = drainW n row ws
  le : k ≤ n
  keep : Keeps (fun b => b = W ∨ F b) w wr
theorem Dr.done {w wr : World} {Q W n N : Nat} {ws row : List Nat} {c : Nat} {gv : Value} {ms : List (Nat × Nat)} {F : Nat → Prop} {v : Value} (h : Dr w wr Q W n N ws row c gv ms F v n) (hr : row.length ≤ n) :
    ∃ F', Que wr w.heap.size 31 v (u64s row) ∧ St wr Q W n N (drainW n row ws) gv (ms ++ drainM n row n ws) F' := by
  obtain ⟨done, row', ws', ms', F', h1, h2, h3, h4, h5, h6, h7, h8, h9, h10, h11⟩ := h.it
  have : row' = [] := by
    have := congrArg List.length h1
    simp at this
    exact List.eq_nil_of_length_eq_zero (by omega)
  subst this
  rw [List.append_nil] at h1
  subst h1
  simp only [Nat.sub_self, drainM, List.append_nil] at h10
  rw [← h10, ← h11]
  exact ⟨F', h6, h3⟩
theorem Dr.step {w wr w3 w9 : World} {Q W n N : Nat} {ws row : List Nat} {c : Nat} {gv : Value} {ms : List (Nat × Nat)} {F : Nat → Prop} {v v9 : Value} {k x : Nat} {done r ws' : List Nat} {ms' : List (Nat × Nat)} {F' : Nat → Prop} {o : Obj}
    (hQW : Q < w.heap.size ∧ W < w.heap.size) (hk : k < n) (hw : Keeps (fun b => b = W ∨ F b) w wr) (h1 : row = done ++ x :: r) (h2 : done.length = k) (h3 : St wr Q W n N ws' gv ms' F') (h4 : Lk n ws' (x :: r) c) (h5 : ms'.length ≤ ms.length + 5 * k)
    (h6 : Que wr w.heap.size 31 v (u64s done)) (h7 : ∀ b, v.ownBlock = some b → ¬ F' b) (h8 : ∀ b, F' b → b < wr.heap.size) (h9 : ∀ b, b < w.heap.size → F' b → F b) (h10 : ms' ++ drainM n (x :: r) (n - k) ws' = ms ++ drainM n row n ws) (h11 : drainW n (x :: r) ws' = drainW n row ws)
    (l : Left Q W n N (takeW n ws') gv (ms' ++ [(1, 1)] ++ [(1, seqOf n (ws'[1]?.getD 0))] ++ [(5, 1)] ++ [(1, seqOf n (ws'[1]?.getD 0) + 1)] ++ [(2, seqOf n (ws'[1]?.getD 0))]) F' wr w3)
    (hq : Que w9 w.heap.size 31 v9 (u64s done ++ [.int .u64 (x : Int)])) (hg : (w3.alloc o).grownBy w9 v.ownBlock) (hv : v9.ownBlock = v.ownBlock ∨ v9.ownBlock = some (w3.alloc o).heap.size) : Dr w w9 Q W n N ws row c gv ms F v9 (k + 1) := by
  have s3 := l.st h3
  have z1 := l.keep.size
  have zw := hw.size
  have kk : Keeps (fun b => v.ownBlock = some b) w3 w9 := ((Keeps.refl _ w3).alloc o).trans (Keeps.of_grown hg)
  have hlt : ∀ b, v.ownBlock = some b → w.heap.size ≤ b ∧ b < wr.heap.size := fun b hb => h6.lt hb
  have hF : ∀ b, Grown wr w3 F' b → ¬ v.ownBlock = some b := fun b hb e => h7 b e (grown_old (hlt b e).2 hb)
  have hF2 : ∀ b, Grown wr w3 F' b → b < w3.heap.size := fun b hb => by
    rcases hb with hb | hb
    · have := h8 b hb; omega
    · exact hb.2
  refine ⟨⟨done ++ [x], r, takeW n ws', _, Grown wr w3 F', by rw [h1]; simp, by simp [h2], s3.keeps kk (fun e => by have := hlt _ e; omega) (fun e => by have := hlt _ e; omega) hF, h4.take, by simp; omega, by simpa [u64s] using hq, fun b hb hf => ?_, fun b hb => by have := hF2 b hb; have := kk.size; omega, fun b hb hf => h9 b hb (grown_old (by omega) hf), ?_, h11⟩, hk, ?_⟩
  · rcases hv with e | e
    · exact hF b hf (by rw [← e]; exact hb)
    · rw [hb] at e
      injection e with e
      have := hF2 b hf
      rw [e, World.size_alloc] at this
      omega
  · rw [← h10]
    obtain ⟨m, hm⟩ : ∃ m, n - k = m + 1 := ⟨n - k - 1, by omega⟩
    rw [hm, show n - (k + 1) = m from by omega]
    simp [drainM, takeM]
  · refine Keeps.glue (Keeps.glue hw l.keep (fun b hb z => ?_)) kk (fun b hb e => ?_)
    · rcases z with z | z
      · exact .inl z
      · exact .inr (h9 b hb z)
    · have := hlt b e; omega
section
variable (Q W n N : Nat) (ws row : List Nat) (c : Nat) (gv : Value) (ms : List (Nat × Nat)) (F : Nat → Prop) (w : World)
set_option maxRecDepth 100000 in
set_option maxHeartbeats 4000000 in
theorem drain_ (s : St w Q W n N ws gv ms F) (hl : ms.length < 700000) (h : Lk n ws row c) (hc : c < 800000) (hFb : ∀ b, F b → b < w.heap.size) :
    Calls Try.prog 11 #[.pointer (some ⟨Q, 0, none⟩), gv] w (Drained Q W n N (drainW n row ws) row gv (ms ++ drainM n row n ws) F w) := by
  obtain ⟨i0, hi0, hz0, hz1, hz2⟩ := info_parts u64_info
  have HN := Lib.hid (none_ Q W n ws w s.qu)
  have c1 := s.qu.cell1
  have htop := s.qu.top
  have hQW : Q < w.heap.size ∧ W < w.heap.size := ⟨s.qu.ltQ, s.qu.ltW⟩
  have HD0 := Lib.hid (show Dr w w Q W n N ws row c gv ms F (.slice none 0 0) 0 from ⟨⟨[], row, ws, ms, F, rfl, rfl, s, h, by omega, Que.nil_ _ _ _, fun b hb => by simp [Value.ownBlock] at hb, hFb, fun b _ z => z, rfl, rfl⟩, Nat.zero_le _, Keeps.refl _ _⟩)
  have HB : Hid ((Q < w.heap.size ∧ W < w.heap.size) ∧ ms.length < 700000 ∧ c < 800000 ∧ n ≤ 1024 ∧ row.length ≤ n) := Lib.hid ⟨hQW, hl, hc, htop, h.few⟩
  clear s hl h hc hFb hQW
  go_enter Try.func11, Try.ntmps11
  go_wp2_with fail
  refine HN.out.mono ?_
  rintro e w' ⟨rfl, rfl⟩
  go_wp2
  clear c1
  go_loopw [6, 16] (fun v i wr => ∃ k : Nat, i = .int .u64 (k : Int) ∧ Dr w wr Q W n N ws row c gv ms F v k) (fun _ i _ => 2000 - (intOf i).toNat)
  case atStart => exact ⟨0, rfl, HD0.out⟩
  case round =>
    clear HD0
    obtain ⟨k, rfl, hR⟩ := hrel
    have hle := hR.le
    have HR := Lib.hid hR
    clear hR
    by_cases hlt : k < n
    · have hlt' : (k : Int) < (n : Int) := by omega
      obtain ⟨done, row', ws', ms', F', h1, h2, h3, h4, h5, h6, h7, h8, h9, h10, h11⟩ := HR.out.it
      rcases row' with _ | ⟨x, r⟩
      · have HT := Lib.hid (take_no Q W n N ws' c gv ms' F' wr h3 (by have := HB.out; omega) h4 (by have := HB.out; omega))
        have HE : Hid (∀ w', Left Q W n N ws' gv (ms' ++ [(1, 1)] ++ [(1, seqOf n (ws'[1]?.getD 0))]) F' wr w' → ∃ F', Que w' w.heap.size 31 u6 (u64s row) ∧ St w' Q W n N (drainW n row ws) gv (ms ++ drainM n row n ws) F' ∧ Keeps (fun b => b = W ∨ F b) w w') := Lib.hid (fun w' l => by
          rw [List.append_nil] at h1
          subst h1
          obtain ⟨m, hm⟩ : ∃ m, n - k = m + 1 := ⟨n - k - 1, by omega⟩
          have e1 : ms' ++ [(1, 1)] ++ [(1, seqOf n (ws'[1]?.getD 0))] = ms ++ drainM n row n ws := by rw [← h10, hm]; simp [drainM, takeN]
          have e2 : ws' = drainW n row ws := h11
          have hz := HR.out.keep.size
          have hqb := HB.out.1
          rw [← e1, ← e2]
          refine ⟨_, h6.keeps l.keep (fun b hb z => ?_), l.st h3, Keeps.glue HR.out.keep l.keep (fun b hb z => ?_)⟩
          · rcases z with z | z
            · have := (h6.lt hb).1; omega
            · exact h7 b hb z
          · rcases z with z | z
            · exact .inl z
            · exact .inr (h9 b hb z))
        clear h1 h2 h3 h4 h5 h6 h7 h8 h9 h10 h11
        go_wp2_with fail
        refine HT.out.mono ?_
        rintro e w3 ⟨rfl, l⟩
        have HE2 := Lib.hid (HE.out w3 l)
        clear l HE
        go_wp2
        try rw [Exit.noGoto_ret]
        go_ret2
        obtain ⟨F'', q1, q2, q3⟩ := HE2.out
        exact ⟨_, F'', rfl, q1, q2, q3⟩
      · have HT := Lib.hid (take_yes Q W n N ws' r c gv ms' F' wr x h3 (by have := HB.out; omega) h4 (by have := HB.out; omega))
        obtain ⟨A1, c1, rfl⟩ := h6.form
        rw [u64s_len] at h6 h7 ⊢
        have HST : Hid (∀ w3 w9 v9 o, Left Q W n N (takeW n ws') gv (ms' ++ [(1, 1)] ++ [(1, seqOf n (ws'[1]?.getD 0))] ++ [(5, 1)] ++ [(1, seqOf n (ws'[1]?.getD 0) + 1)] ++ [(2, seqOf n (ws'[1]?.getD 0))]) F' wr w3 → Que w9 w.heap.size 31 v9 (u64s done ++ [.int .u64 (x : Int)]) → (w3.alloc o).grownBy w9 (Value.ownBlock (.slice A1 done.length c1)) → (v9.ownBlock = Value.ownBlock (.slice A1 done.length c1) ∨ v9.ownBlock = some (w3.alloc o).heap.size) → Dr w w9 Q W n N ws row c gv ms F v9 (k + 1)) :=
          Lib.hid (fun w3 w9 v9 o l hq hg hv => Dr.step HB.out.1 hlt HR.out.keep h1 h2 h3 h4 h5 h6 h7 h8 h9 h10 h11 l hq hg hv)
        have HQ := Lib.hid (show ∀ w3, Left Q W n N (takeW n ws') gv (ms' ++ [(1, 1)] ++ [(1, seqOf n (ws'[1]?.getD 0))] ++ [(5, 1)] ++ [(1, seqOf n (ws'[1]?.getD 0) + 1)] ++ [(2, seqOf n (ws'[1]?.getD 0))]) F' wr w3 → Que w3 w.heap.size 31 (.slice A1 done.length c1) (u64s done) ∧ w.heap.size ≤ w3.heap.size from fun w3 l => ⟨h6.keeps l.keep (fun b hb z => by
          rcases z with z | z
          · have := (h6.lt hb).1; have := HB.out.1; omega
          · exact h7 b hb z), by have := HR.out.keep.size; have := l.keep.size; omega⟩)
        have hdl : (done.length : Int) ≤ 1024 := by omega
        clear h1 h2 h3 h4 h5 h6 h7 h8 h9 h10 h11
        go_wp2_with fail
        refine HT.out.mono ?_
        rintro e w3 ⟨rfl, l⟩
        obtain ⟨hq3, hz3⟩ := HQ.out w3 l
        have HQ3 := Lib.hid hq3
        have L := Lib.hid l
        clear l hq3 HQ
        go_wp2_with (at_builtin; refine Que.wpList_append rfl _ _ 29 rfl i0 _ 8 Try.underlying29 hi0 hz0 hz1 hz2 rfl rfl (HQ3.out.alloc _) ⟨w3.heap.size, 0, none⟩ 1 (.int .u64 (x : Int)) rfl (by rw [(Blk.new w3 31 #[.int .u64 (x : Int)]).cell]; rfl) rfl (by rw [u64s_len]; unfold maxLen; omega) (by rw [u64s_len]; omega) (by simp; omega) ?_; intro v2 w9 hq9 hg9 hat9)
        go_roundw
        case rel => exact ⟨k + 1, by go_num, HST.out w3 w9 v2 _ L.out hq9 hg9 hat9⟩
        case measure => simp [intOf]; omega
    · have hlt' : ¬ (k : Int) < (n : Int) := by omega
      have hke : k = n := by omega
      go_wp2
      try rw [Exit.noGoto_ret]
      go_ret2
      subst hke
      obtain ⟨F'', q1, q2⟩ := HR.out.done HB.out.2.2.2.2
      exact ⟨_, F'', rfl, q1, q2, HR.out.keep⟩
end
end Go.Proofs.Ytlpgdpdjaoppbaa.qu
