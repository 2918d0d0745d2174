/-
  Sum and Hash of all parts, walked.
-/
import Derived.Test.YtidengmcbppcoaaRows
import Derived.Test.YtidengmcbppcoaaOcH
import Derived.Test.YtidengmcbppcoaaOcFold
import Derived.WalkLawsBesides
import Derived.WalkSpells
import Derived.Outline
import Derived.Lib.Hide
namespace Go.Proofs.Ytidengmcbppcoaa.oc
open Go.RowKit

set_option maxHeartbeats 400000 in
theorem sum_any (P : Option Addr) (ps : List (List Nat)) (n c B : Nat) (w : World) (hn : ps.length = n) (hm : n ≤ 140737488355328) (hl : ps.flatten.length ≤ 140737488355328)
    (hs : ∀ bs, bs ∈ ps → Small bs) (hr : Pt w B P ps) :
    Calls Try.prog 55 #[.slice P n c] w fun e w' => e = .returned (.int .u16 (csum ps.flatten : Nat)) ∧ w = w' := by
  have hsf : ∀ k, Small (ps.take k).flatten := by
    intro k x hx
    obtain ⟨l, hl, hx⟩ := List.mem_flatten.1 hx
    exact hs l (List.mem_of_mem_take hl) x hx
  have HN := Lib.hid hn
  clear hn
  have x8 : bits .xor .i64 8 8 = 0 := by decide +kernel
  have x0 : bits .xor .i64 0 8 = 8 := by decide +kernel
  go_enter Try.func55, Try.ntmps55
  go_wp2
  go_loop [3, 4, 11] (fun t s i => ∃ k : Nat, k ≤ n ∧ i = .int .i64 k ∧ t = .int .u64 (tot (ps.take k).flatten : Nat) ∧ s = .int .i64 (sh (ps.take k).flatten)) (fun _ _ i => n - (intOf i).toNat)
  case atStart => exact ⟨0, Nat.zero_le _, rfl, rfl, rfl⟩
  case round =>
    obtain ⟨k, hk, rfl, rfl, rfl⟩ := hrel
    by_cases hlt : k < n
    · have hx := getp (ps := ps) (k := k) (by rw [HN.out]; exact hlt)
      obtain ⟨b, o, A, cc, rfl, hb, hc, hrA⟩ := hr k _ hx
      have hfl := flat_snoc hx
      have hf1 := flat_le ps (k + 1)
      rw [hfl, List.length_append] at hf1
      have hsl := hsf (k + 1)
      rw [hfl] at hsl
      have HF := Lib.hid hfl
      clear hfl hx
      generalize (ps.take k).flatten = pre at *
      generalize ps.getD k [] = part at *
      obtain ⟨m, hm1⟩ : ∃ m, part.length = m := ⟨_, rfl⟩
      rw [hm1] at hf1 hc
      have HM := Lib.hid hm1
      clear hm1
      go_wp2
      go_loop [3, 4, 17] (fun t s i => ∃ j : Nat, j ≤ m ∧ i = .int .i64 j ∧ t = .int .u64 (tot (pre ++ part.take j) : Nat) ∧ s = .int .i64 (sh (pre ++ part.take j))) (fun _ _ i => m - (intOf i).toNat)
      case atStart => exact ⟨0, Nat.zero_le _, rfl, by simp, by simp⟩
      case round =>
        obtain ⟨j, hj, rfl, rfl, rfl⟩ := hrel
        by_cases hltj : j < m
        · have hx := getq (bs := part) (k := j) (by rw [HM.out]; exact hltj)
          obtain ⟨b', o', rfl, hb', hc'⟩ := hrA.byte hx
          have hap : pre ++ part.take (j + 1) = (pre ++ part.take j) ++ [part.getD j 0] := by rw [take_snoc hx, List.append_assoc]
          have hx8 : part.getD j 0 < 256 := hsl _ (List.mem_append_right _ (List.mem_of_getElem? hx))
          have hs1 : Small (pre ++ part.take j) := fun x hx => hsl x (by
            rcases List.mem_append.1 hx with h | h
            · exact List.mem_append_left _ h
            · exact List.mem_append_right _ (List.mem_of_mem_take h))
          have ht := tot_le _ hs1
          have ht1 : (pre ++ part.take j).length ≤ pre.length + m := by rw [List.length_append, List.length_take]; omega
          have HA := Lib.hid hap
          clear hap hx
          generalize pre ++ part.take j = q at *
          generalize part.getD j 0 = x at *
          cases hp : (st q).2
          · have e1 := sh_false hp
            obtain ⟨e2, e3⟩ := tot_false hp x
            have E2 := Lib.hid e2
            have E3 := Lib.hid e3
            clear e2 e3 hp
            generalize tot q = t at *
            go_wp2
            go_round
            case rel => exact ⟨j + 1, by omega, by go_num, by rw [HA.out, E2.out]; go_num, by rw [HA.out, E3.out]⟩
            case measure => simp [intOf]; omega
          · have e1 := sh_true hp
            obtain ⟨e2, e3⟩ := tot_true hp x
            have E2 := Lib.hid e2
            have E3 := Lib.hid e3
            clear e2 e3 hp
            generalize tot q = t at *
            go_wp2
            go_round
            case rel => exact ⟨j + 1, by omega, by go_num, by rw [HA.out, E2.out]; go_num, by rw [HA.out, E3.out]⟩
            case measure => simp [intOf]; omega
        · go_wp2
          go_round
          case rel => exact ⟨k + 1, by omega, by go_num, by rw [HF.out, List.take_of_length_le (by rw [HM.out]; omega)], by rw [HF.out, List.take_of_length_le (by rw [HM.out]; omega)]⟩
          case measure => simp [intOf]; omega
    · have hk' : (ps.take k).flatten = ps.flatten := by rw [List.take_of_length_le (by rw [HN.out]; omega)]
      have ht := tot_le ps.flatten (by have := hsf k; rwa [hk'] at this)
      rw [hk']
      have hci := csum_int ps.flatten
      have HC := Lib.hid hci
      clear hk' hci
      have hfb := fold_le (tot ps.flatten)
      go_wp2_with (go_at_call 69; refine (fold_nat _ _ (by omega)).mono ?_; rintro e w' ⟨rfl, rfl⟩)
      go_ret
      exact ⟨ret_int HC.out, rfl⟩

end Go.Proofs.Ytidengmcbppcoaa.oc
