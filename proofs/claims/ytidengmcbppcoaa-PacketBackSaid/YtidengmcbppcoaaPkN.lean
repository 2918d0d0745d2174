/-
  The document's own two; a row's part, where it lies.
-/
import Derived.Test.YtidengmcbppcoaaPkM
import Derived.Test.YtidengmcbppcoaaPkT
import Derived.Test.YtidengmcbppcoaaOcNum
set_option linter.unusedVariables false
set_option linter.unusedSimpArgs false
namespace Go.Proofs.Ytidengmcbppcoaa.pk
open Go.RowKit Go.Proofs.Ytidengmcbppcoaa.oc Go.Proofs.Ytidengmcbppcoaa.mz Go.Proofs.Ytidengmcbppcoaa.pf Go.Proofs.Ytidengmcbppcoaa.wh Go.Proofs.Ytidengmcbppcoaa.qk Go.Proofs.Ytidengmcbppcoaa.bys
/-- a row's part, where it lies -/
theorem rd_part {w : World} {B g o : Nat} {l : List Nat} (h : Rd w B (some ⟨g, o, none⟩) (by_ l)) (p n : Nat) : Rd w B (some ⟨g, o + p, none⟩) (by_ ((l.drop p).take n)) := fun j v hv => by
  have hj : j < n := by
    have := (List.getElem?_eq_some_iff.1 hv).1
    simp only [by_, List.length_map, List.length_take] at this
    omega
  have hv' : (by_ l)[p + j]? = some v := by
    rw [← hv]
    simp only [by_, List.getElem?_map, List.getElem?_take, List.getElem?_drop, if_pos hj]
  obtain ⟨b, o', e, hb, hc⟩ := h (p + j) v hv'
  injection e with e
  injection e with e1 e2
  subst e1; subst e2
  exact ⟨_, _, rfl, hb, by rw [show o + p + j = o + (p + j) from by omega]; exact hc⟩
section
variable (w : World)
set_option maxRecDepth 100000 in
set_option maxHeartbeats 1000000 in
theorem rtwo_ (v : Nat) (hv : v < 9223372036854775808) : Calls Try.prog 58 #[.int .i64 (v : Int)] w fun e w' => ∃ x, e = .returned x ∧ w'.ownsRow w.heap.size 5 1 x 2 (by_ (be 2 v)) ∧ Below w.heap.size w w' := by
  have e1 : IntKind.u64.wrap (v : Int) = (v : Int) := by rw [wrap_u64]; omega
  have HB := Lib.hid (bytes_any v 2 w (by omega) (by omega))
  clear hv
  go_enter Try.func58, Try.ntmps58
  go_wp2_with (go_at_call 45; refine HB.out.mono ?_; rintro e w2 ⟨x, rfl, ho, hb⟩)
  try rw [Exit.noGoto_ret]
  go_ret
  exact ⟨x, rfl, ho, hb⟩
set_option maxRecDepth 100000 in
set_option maxHeartbeats 1000000 in
theorem rnumber_ (g o N c B p n : Nat) (l : List Nat) (hl : l.length = N) (hN : N ≤ 140737488355328) (hc : N ≤ c) (hc9 : c ≤ 9223372036854775807) (hs : Small l) (hr : Rd w B (some ⟨g, o, none⟩) (by_ l)) (hp : p + n ≤ N) (hn : n ≤ 7) (h1n : 1 ≤ n) :
    Calls Try.prog 61 #[.slice (some ⟨g, o, none⟩) N c, .int .i64 (p : Int), .int .i64 (n : Int)] w fun e w' => e = .returned (.int .i64 (num ((l.drop p).take n) : Nat)) ∧ w = w' := by
  have hln : ((l.drop p).take n).length = n := by rw [List.length_take, List.length_drop, hl]; omega
  have hsm : Small ((l.drop p).take n) := fun x hx => hs x (List.mem_of_mem_drop (List.mem_of_mem_take hx))
  have hlt := num_lt _ hsm
  rw [hln] at hlt
  have h7 : (256 : Nat) ^ n ≤ 256 ^ 7 := Nat.pow_le_pow_right (by omega) hn
  obtain ⟨ee, hee⟩ : ∃ ee : Nat, ee = p + n := ⟨_, rfl⟩
  have HC := Lib.hid (number_any (some ⟨g, o + p, none⟩) ((l.drop p).take n) (ee - p) (c - p) B w (by omega) (by omega) hsm (rd_part hr p n))
  generalize num ((l.drop p).take n) = v at *
  have hv : (v : Int) < 9223372036854775808 := by have : (256 : Nat) ^ 7 = 72057594037927936 := by decide
                                                  omega
  have e1 : IntKind.i64.wrap (v : Int) = (v : Int) := wi64 (by omega) (by omega)
  have e2 : IntKind.i64.wrap ((p : Int) + (n : Int)) = (ee : Int) := by rw [wi64 (by omega) (by omega)]; omega
  have b1 : p ≤ ee := by omega
  have b4 : ¬ c = p := by omega
  have b5 : ¬ p = c := by omega
  have b6 : ¬ c - p = 0 := by omega
  have b7 : p < c := by omega
  have b2 : ee ≤ c := by omega
  clear hln hsm hlt h7 hv hl hN hs hr hp hn hee h1n
  go_enter Try.func61, Try.ntmps61
  go_wp2_with (go_at_call 73; refine HC.out.mono ?_; rintro e w2 ⟨rfl, rfl⟩)
  try rw [Exit.noGoto_ret]
  go_ret
  exact ⟨rfl, rfl⟩
end
end Go.Proofs.Ytidengmcbppcoaa.pk
