/-
  octets: Hash alone.
-/
import Derived.Test.YtdnddlmlbnachaaRows
import Derived.Test.YtdnddlmlbnachaaOcH
import Derived.WalkLawsBesides
import Derived.WalkSpells
import Derived.Outline
import Derived.Lib.Hide
import Derived.Lib.BitFns
namespace Go.Proofs.Ytdnddlmlbnachaa.fw
open Go.RowKit Go.Proofs.Ytdnddlmlbnachaa.oc
set_option maxHeartbeats 400000 in
theorem hash_any (P : Option Addr) (ps : List (List Nat)) (n c B : Nat) (w : World) (hn : ps.length = n) (hm : n ≤ 140737488355328) (hl : ps.flatten.length ≤ 140737488355328)
    (hs : ∀ bs, bs ∈ ps → Small bs) (hr : Pt w B P ps) :
    Calls Try.prog 32 #[.slice P n c] w fun e w' => e = .returned (.int .u64 (fnv ps.flatten : Nat)) ∧ w = w' := by
  have HN := Lib.hid hn
  clear hn
  go_enter Try.func32, Try.ntmps32
  go_wp2
  go_loop [3, 10] (fun t i => ∃ k : Nat, k ≤ n ∧ i = .int .i64 k ∧ t = .int .u64 (fnv (ps.take k).flatten : Nat)) (fun _ i => n - (intOf i).toNat)
  case atStart => exact ⟨0, Nat.zero_le _, rfl, rfl⟩
  case round =>
    obtain ⟨k, hk, rfl, rfl⟩ := hrel
    by_cases hlt : k < n
    · have hx := getp (ps := ps) (k := k) (by rw [HN.out]; exact hlt)
      have hsp := hs _ (List.mem_of_getElem? hx)
      obtain ⟨b, o, A, cc, rfl, hb, hc, hrA⟩ := hr k _ hx
      have hfl := flat_snoc hx
      have hf1 := flat_le ps (k + 1)
      rw [hfl, List.length_append] at hf1
      have HF := Lib.hid hfl
      clear hfl hx
      generalize (ps.take k).flatten = pre at *
      generalize ps.getD k [] = part at *
      obtain ⟨m, hm1⟩ : ∃ m, part.length = m := ⟨_, rfl⟩
      rw [hm1] at hf1 hc
      have HM := Lib.hid hm1
      clear hm1
      go_wp2
      go_loop [3, 16] (fun t i => ∃ j : Nat, j ≤ m ∧ i = .int .i64 j ∧ t = .int .u64 (fnv (pre ++ part.take j) : Nat)) (fun _ i => m - (intOf i).toNat)
      case atStart => exact ⟨0, Nat.zero_le _, rfl, by simp⟩
      case round =>
        obtain ⟨j, hj, rfl, rfl⟩ := hrel
        by_cases hltj : j < m
        · have hx := getq (bs := part) (k := j) (by rw [HM.out]; exact hltj)
          obtain ⟨b', o', rfl, hb', hc'⟩ := hrA.byte hx
          have hap : fnv (pre ++ part.take (j + 1)) = hstep (fnv (pre ++ part.take j)) (part.getD j 0) := by rw [take_snoc hx, ← List.append_assoc, fnv_snoc]
          have hx8 : part.getD j 0 < 256 := hsp.at_ hx
          have ht := fnv_lt (pre ++ part.take j)
          have HA := Lib.hid hap
          clear hap hx
          generalize fnv (pre ++ part.take j) = q at *
          generalize part.getD j 0 = x at *
          have ex := u64_xor_nat q x ht (by omega)
          go_wp2
          go_round
          case rel => exact ⟨j + 1, by omega, by go_num, by rw [HA.out, ← hstep_int]⟩
          case measure => simp [intOf]; omega
        · go_wp2
          go_round
          case rel => exact ⟨k + 1, by omega, by go_num, by rw [HF.out, List.take_of_length_le (by rw [HM.out]; omega)]⟩
          case measure => simp [intOf]; omega
    · have hk' : (ps.take k).flatten = ps.flatten := by rw [List.take_of_length_le (by rw [HN.out]; omega)]
      rw [hk']
      clear hk'
      go_wp2
      go_ret
      exact ⟨rfl, rfl⟩
end Go.Proofs.Ytdnddlmlbnachaa.fw
