/-
  Bytes one behind the other; a number as bytes: the document's own.
-/
import Derived.Test.YtidengmcbppcoaaRows
import Derived.Test.YtidengmcbppcoaaPkS
import Derived.WalkLawsBesides
import Derived.WalkSpells
import Derived.Outline
import Derived.Lib.Hide
namespace Go.Proofs.Ytidengmcbppcoaa.oc
open Go.RowKit

theorem join_any (P : Option Addr) (ps : List (List Nat)) (n c B : Nat) (w : World) (hn : ps.length = n) (hm : n ≤ 140737488355328) (hl : ps.flatten.length ≤ 140737488355328) (hr : Pt w B P ps) (hB : B ≤ w.heap.size) :
    Calls Try.prog 44 #[.slice P n c] w fun e w' => ∃ v, e = .returned v ∧ w'.ownsRow w.heap.size 5 1 v ps.flatten.length (by_ ps.flatten) ∧ Below w.heap.size w w' := by
  obtain ⟨i0, hi0, hz0, hz1, hz2⟩ := info_parts byte_info
  have HN := Lib.hid hn
  clear hn
  go_enter Try.func44, Try.ntmps44
  go_wp2
  go_loopw [3, 4] (fun v i wr => ∃ k : Nat, k ≤ n ∧ i = .int .i64 k ∧ wr.ownsRow w.heap.size 5 1 v (ps.take k).flatten.length (by_ (ps.take k).flatten) ∧ Below w.heap.size w wr) (fun _ i _ => n - (intOf i).toNat)
  case atStart => exact ⟨0, Nat.zero_le _, rfl, World.ownsRow_nil _ _ _ _, Below.refl _ _⟩
  case round =>
    obtain ⟨k, hk, rfl, ho, hb⟩ := hrel
    by_cases hlt : k < n
    · have hx := getp (ps := ps) (k := k) (by rw [HN.out]; exact hlt)
      obtain ⟨b, o, A, cc, rfl, hb1, hc, hrA⟩ := hr k _ hx
      have hfl := flat_snoc hx
      have hf1 := flat_le ps (k + 1)
      rw [hfl, List.length_append] at hf1
      have HF := Lib.hid hfl
      have hc1 : wr.cell? ⟨b, o + k, none⟩ = some (.slice A (ps.getD k []).length cc) := (hb.cell (p := ⟨b, o + k, none⟩) (by show b < _; omega)).trans hc
      have hr1 := hrA.below (hb.mono hB)
      clear hfl hx hc hrA
      generalize (ps.take k).flatten = pre at *
      generalize ps.getD k [] = part at *
      have hz := hb.size
      have hbl := by_length part
      have HB := Lib.hid hbl
      clear hbl
      go_wp2_with (at_builtin; refine wpList_app rfl _ _ 27 rfl w.heap.size 5 i0 _ 1 Try.underlying27 hi0 hz0 hz1 hz2 rfl _ pre.length (by_ pre) rfl ho B A part.length cc (by_ part) rfl hr1 HB.out (by_one _) (by omega) (by omega) hz ?_; intro v2 w2 hown2 hg2 hat2)
      have hb2 := app_below hb ho hg2 hz
      have ho2 : w2.ownsRow w.heap.size 5 1 v2 (ps.take (k + 1)).flatten.length (by_ (ps.take (k + 1)).flatten) := by
        rw [HF.out, by_append, List.length_append]
        exact hown2
      clear hown2 hg2 hat2 ho hr1 hc1
      go_wp2
      go_roundw
      case rel => exact ⟨k + 1, by omega, by go_num, ho2, hb2⟩
      case measure => simp [intOf]; omega
    · have hk' : (ps.take k).flatten = ps.flatten := by rw [List.take_of_length_le (by rw [HN.out]; omega)]
      rw [hk'] at ho
      have HO := Lib.hid ho
      clear hk' ho
      go_wp2
      go_ret
      exact ⟨_, rfl, HO.out, hb⟩

theorem wrap_shift (v k : Nat) : IntKind.u8.wrap ((v : Int) / 2 ^ (8 * k)) = ((v / 256 ^ k % 256 : Nat) : Int) := by
  have e : ((v : Int) / 2 ^ (8 * k)) = ((v / 2 ^ (8 * k) : Nat) : Int) := by rw [Int.natCast_ediv, Int.natCast_pow]; rfl
  rw [e, IntKind.wrap_u8', show (2 : Nat) ^ (8 * k) = 256 ^ k from by rw [Nat.pow_mul]]
  omega
theorem be_at (m v j : Nat) (h : j < m) : (be m v)[j]? = some (v / 256 ^ (m - 1 - j) % 256) := by
  induction m generalizing j with
  | zero => omega
  | succ m ih =>
    rcases j with _ | j
    · simp [be]
    · rw [be, List.getElem?_cons_succ, ih j (by omega), show m + 1 - 1 - (j + 1) = m - 1 - j from by omega]
theorem bytes_any (v m : Nat) (w : World) (_hv : v < 18446744073709551616) (hm : m ≤ 8) :
    Calls Try.prog 45 #[.int .u64 v, .int .i64 m] w fun e w' => ∃ x, e = .returned x ∧ w'.ownsRow w.heap.size 5 1 x m (by_ (be m v)) ∧ Below w.heap.size w w' := by
  obtain ⟨i0, hi0, hz0, hz1, hz2⟩ := info_parts byte_info
  go_enter Try.func45, Try.ntmps45
  go_wp2
  go_loopw [5, 6] (fun x i wr => ∃ k : Nat, k ≤ m ∧ i = .int .i64 ((k : Int) - 1) ∧ wr.ownsRow w.heap.size 5 1 x (m - k) (by_ ((be m v).take (m - k))) ∧ Below w.heap.size w wr) (fun _ i _ => (intOf i + 1).toNat)
  case atStart => exact ⟨m, Nat.le_refl _, rfl, by rw [Nat.sub_self]; exact World.ownsRow_nil _ _ _ _, Below.refl _ _⟩
  case round =>
    obtain ⟨k, hk, hi, ho, hb⟩ := hrel
    rcases k with _ | k
    · subst hi
      have ho1 : wr.ownsRow w.heap.size 5 1 u5 m (by_ (be m v)) := by
        have := ho
        rw [Nat.sub_zero, List.take_of_length_le (by rw [be_length]; exact Nat.le_refl _)] at this
        exact this
      have HO := Lib.hid ho1
      clear ho ho1
      go_wp2
      go_ret
      exact ⟨_, rfl, HO.out, hb⟩
    · rw [show (((k + 1 : Nat) : Int) - 1) = (k : Int) from by omega] at hi
      subst hi
      have hz := hb.size
      have hw := wrap_shift v k
      have hlit := lit_row wr #[.int .u8 ((v : Int) / 256 ^ k % 256)] 5 [v / 256 ^ k % 256] (by simp [by_])
      have hat := be_at m v (m - (k + 1)) (by omega)
      rw [show m - 1 - (m - (k + 1)) = k from by omega] at hat
      have htk := take_snoc hat
      rw [show m - (k + 1) + 1 = m - k from by omega] at htk
      have HT := Lib.hid htk
      clear htk hat
      obtain ⟨q, hq⟩ : ∃ q, m - (k + 1) = q := ⟨_, rfl⟩
      rw [hq] at ho
      have HQ := Lib.hid hq
      have q8 : q ≤ 8 := by omega
      clear hq
      go_wp2_with (at_builtin; refine wpList_app rfl _ _ 27 rfl w.heap.size 5 i0 _ 1 Try.underlying27 hi0 hz0 hz1 hz2 rfl _ q (by_ ((be m v).take q)) rfl (ho.alloc _) (wr.heap.size + 1) (some ⟨wr.heap.size, 0, none⟩) 1 1 (by_ [v / 256 ^ k % 256]) rfl hlit rfl (by_one _) (by omega) (by omega) (by simp; omega) ?_; intro v2 w2 hown2 hg2 hat2)
      have hb2 := app_below (hb.alloc hz _) (ho.alloc _) hg2 (by simp; omega)
      have ho2 : w2.ownsRow w.heap.size 5 1 v2 (m - k) (by_ ((be m v).take (m - k))) := by
        rw [HT.out, by_append]
        have := hown2
        rw [← HQ.out, show m - (k + 1) + 1 = m - k from by omega] at this
        exact this
      clear hown2 hg2 hat2 ho hlit hw
      go_wp2
      go_roundw
      case rel => exact ⟨k, by omega, rfl, ho2, hb2⟩
      case measure => simp [intOf]
end Go.Proofs.Ytidengmcbppcoaa.oc
