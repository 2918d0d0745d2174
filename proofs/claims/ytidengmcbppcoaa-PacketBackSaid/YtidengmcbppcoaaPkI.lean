/-
  packet: number, checkSize; bytes.Equal, bytes.Clone.
-/
import Derived.Test.YtidengmcbppcoaaPkH
import Derived.Test.YtidengmcbppcoaaOcTake
import Derived.Laws.BytesArg
set_option linter.unusedVariables false
set_option linter.unusedSimpArgs false
namespace Go.Proofs.Ytidengmcbppcoaa.pk
open Go.RowKit Go.Proofs.Ytidengmcbppcoaa.oc Go.Proofs.Ytidengmcbppcoaa.mz Go.Proofs.Ytidengmcbppcoaa.pf Go.Proofs.Ytidengmcbppcoaa.wh Go.Proofs.Ytidengmcbppcoaa.qk Go.Proofs.Ytidengmcbppcoaa.bys
def num2 (l : List Nat) (p : Nat) : Nat := num ((l.drop p).take 2)
theorem num2_lt {l : List Nat} (hs : Small l) (p : Nat) : num2 l p < 65536 := by
  have h1 := num_lt ((l.drop p).take 2) ((hs.drop p).take 2)
  have h2 : ((l.drop p).take 2).length ≤ 2 := by rw [List.length_take]; omega
  have h3 : 256 ^ ((l.drop p).take 2).length ≤ 256 ^ 2 := Nat.pow_le_pow_right (by omega) h2
  unfold num2
  omega
section
variable (w : World)
set_option maxRecDepth 100000 in
set_option maxHeartbeats 1000000 in
theorem number_ (A : Option Addr) (l : List Nat) (n c B p : Nat) (hn : l.length = n) (hm : n ≤ 140737488355328) (hc : n ≤ c) (hc9 : c ≤ 9223372036854775807) (hs : Small l) (hr : Rd w B A (by_ l)) (hp : p + 2 ≤ n) :
    Calls Try.prog 65 #[.slice A n c, .int .i64 (p : Int)] w fun e w' => e = .returned (.int .u16 (num2 l p : Nat)) ∧ w = w' := by
  have H := Lib.hid (take16_yes A l n c B p w hn hm hc hc9 hs hr hp)
  unfold num2
  clear hn hc hc9 hs hr
  go_enter Try.func65, Try.ntmps65
  go_wp2_with fail
  refine H.out.mono ?_
  rintro e w2 ⟨rfl, rfl⟩
  go_wp2
  try rw [Exit.noGoto_ret]
  go_ret
  exact ⟨rfl, rfl⟩
def sizeE (n s f : Nat) : Int := if s < f ∨ 2048 < s then 161 else if n < s then 160 else 0
set_option maxRecDepth 100000 in
set_option maxHeartbeats 1000000 in
theorem checksize_ (A : Option Addr) (n c s f : Nat) (hn : n ≤ 140737488355328) (hs : s ≤ 140737488355328) (hf : f ≤ 100) :
    Calls Try.prog 74 #[.slice A n c, .int .i64 (s : Int), .int .i64 (f : Int)] w fun e w' => e = .returned (.int .i64 (sizeE n s f)) ∧ w' = w := by
  by_cases h1 : s < f
  · have d1 : (s : Int) < (f : Int) := by omega
    rw [show sizeE n s f = 161 from by unfold sizeE; rw [if_pos (.inl h1)]]
    clear h1
    go_enter Try.func74, Try.ntmps74
    go_wp2
    try rw [Exit.noGoto_ret]
    go_ret
    exact ⟨rfl, rfl⟩
  · have d1 : ¬ (s : Int) < (f : Int) := by omega
    have e1 : decide (s < f) = false := decide_eq_false h1
    by_cases h2 : 2048 < s
    · have d2 : (2048 : Int) < (s : Int) := by omega
      rw [show sizeE n s f = 161 from by unfold sizeE; rw [if_pos (.inr h2)]]
      clear h1 h2
      go_enter Try.func74, Try.ntmps74
      go_wp2
      try rw [Exit.noGoto_ret]
      go_ret
      exact ⟨rfl, rfl⟩
    · have d2 : ¬ (2048 : Int) < (s : Int) := by omega
      by_cases h3 : n < s
      · have d3 : (n : Int) < (s : Int) := by omega
        rw [show sizeE n s f = 160 from by unfold sizeE; rw [if_neg (by omega), if_pos h3]]
        clear h1 h2
        go_enter Try.func74, Try.ntmps74
        go_wp2
        try rw [Exit.noGoto_ret]
        go_ret
        exact ⟨rfl, rfl⟩
      · have d3 : ¬ (n : Int) < (s : Int) := by omega
        have e3 : decide (n < s) = false := decide_eq_false h3
        rw [show sizeE n s f = 0 from by unfold sizeE; rw [if_neg (by omega), if_neg h3]]
        clear h2
        go_enter Try.func74, Try.ntmps74
        go_wp2
        try rw [Exit.noGoto_ret]
        go_ret
        exact ⟨rfl, rfl⟩
end
end Go.Proofs.Ytidengmcbppcoaa.pk
