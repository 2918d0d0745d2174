/-
  bytes.Equal, bytes.Clone.
-/
import Derived.Test.YtidengmcbppcoaaPkI
set_option linter.unusedVariables false
set_option linter.unusedSimpArgs false
namespace Go.Proofs.Ytidengmcbppcoaa.pk
open Go.RowKit Go.Proofs.Ytidengmcbppcoaa.oc Go.Proofs.Ytidengmcbppcoaa.mz Go.Proofs.Ytidengmcbppcoaa.pf Go.Proofs.Ytidengmcbppcoaa.wh Go.Proofs.Ytidengmcbppcoaa.qk Go.Proofs.Ytidengmcbppcoaa.bys
def nint (l : List Nat) : List Int := l.map fun (x : Nat) => (x : Int)
theorem nums_back : ∀ (l : List Nat), Small l → ((nint l).map fun n => UInt8.ofNat n.toNat).map UInt8.toNat = l
  | [], _ => rfl
  | x :: r, h => by
    have hx := h x (by simp)
    have ih := nums_back r (fun y hy => h y (by simp [hy]))
    unfold nint at ih
    simp only [nint, List.map_cons, Int.toNat_natCast]
    rw [ih]
    congr 1
    simp [Nat.mod_eq_of_lt hx]
theorem nums_eq {l m : List Nat} (hl : Small l) (hm : Small m) : ((strOfNums (nint l)).toList == (strOfNums (nint m)).toList) = decide (l = m) := by
  rw [Bool.eq_iff_iff, beq_iff_eq, decide_eq_true_iff]
  constructor
  · intro h
    have e : (strOfNums (nint l)).data.toList = (strOfNums (nint m)).data.toList := by
      simpa [ByteArray.toList_eq] using h
    rw [strOfNums_data, strOfNums_data] at e
    have := congrArg (List.map UInt8.toNat) e
    rwa [nums_back l hl, nums_back m hm] at this
  · intro h; rw [h]
section
variable (w : World)
theorem conv_bytes (A : Option Addr) (l : List Nat) (n c B : Nat) (hn : l.length = n) (hr : Rd w B A (by_ l)) (hA : 0 < n ∨ A = none ∨ ∃ b o, A = some ⟨b, o, none⟩) : (convert 27 9 (.slice A n c)).run Try.prog w = .ok (.string (strOfNums (nint l))) w := by
  have core : ∀ b o, A = some ⟨b, o, none⟩ → (convert 27 9 (.slice A n c)).run Try.prog w = .ok (.string (strOfNums (nint l))) w := fun b o e => by
    subst e
    refine run_convert_bytes_arg w 27 5 Try.underlying27 Try.underlying5 b o n c (nint l) (by simp [nint, hn]) (fun i hi => ?_) 9 Try.underlying9
    obtain ⟨b', o', e, _, hc⟩ := hr.byte (getq (bs := l) (k := i) (by omega))
    injection e with e
    injection e with e1 e2
    subst e1; subst e2
    rw [hc]
    have hi' : i < l.length := by omega
    simp [nint, List.getD, List.getElem?_eq_getElem hi']
  rcases hA with h | h | ⟨b, o, h⟩
  · obtain ⟨b, o, e, _, _⟩ := hr.byte (getq (bs := l) (k := 0) (by omega))
    exact core b o e
  · subst h
    by_cases h0 : l = []
    · subst h0
      have := run_convert_bytes_nil (P := Try.prog) w 27 5 Try.underlying27 Try.underlying5 n c 9 Try.underlying9
      rw [this]; rfl
    · obtain ⟨b, o, e, _, _⟩ := hr.byte (getq (bs := l) (k := 0) (by have := List.length_pos_iff.2 h0; omega))
      cases e
  · exact core b o h
set_option maxRecDepth 100000 in
set_option maxHeartbeats 1000000 in
theorem equal_ (A A' : Option Addr) (l m : List Nat) (n n' c c' B B' : Nat) (hl : l.length = n) (hm : m.length = n') (sl : Small l) (sm : Small m) (hr : Rd w B A (by_ l)) (hr' : Rd w B' A' (by_ m)) (hA : 0 < n ∨ A = none ∨ ∃ b o, A = some ⟨b, o, none⟩) (hA' : 0 < n' ∨ A' = none ∨ ∃ b o, A' = some ⟨b, o, none⟩) :
    Calls Try.prog 30 #[.slice A n c, .slice A' n' c'] w fun e w' => e = .returned (.bool (decide (l = m))) ∧ w' = w := by
  have e1 := conv_bytes w A l n c B hl hr hA
  have e2 := conv_bytes w A' m n' c' B' hm hr' hA'
  have e3 := nums_eq sl sm
  generalize strOfNums (nint l) = s at *
  generalize strOfNums (nint m) = t at *
  generalize decide (l = m) = r at *
  clear hl hm sl sm hr hr' hA hA'
  go_enter Try.func30, Try.ntmps30
  go_wp2
  try rw [Exit.noGoto_ret]
  go_ret
  exact ⟨by first | rfl | (rw [← e3]; rfl), rfl⟩
end
end Go.Proofs.Ytidengmcbppcoaa.pk
