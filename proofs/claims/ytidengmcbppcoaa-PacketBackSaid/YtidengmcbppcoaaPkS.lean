/-
  Bytes with marked room behind them; whether they were kept.
-/
import Derived.Test.YtidengmcbppcoaaRows
import Derived.Test.YtidengmcbppcoaaOcB
import Derived.Test.YtidengmcbppcoaaOcApp
import Derived.Test.YtidengmcbppcoaaOcPut
import Derived.WalkLawsBesides
import Derived.WalkSpells
import Derived.Outline
import Derived.Lib.Hide
import Derived.Deep.QuietTactic
import Derived.BigQuiet
namespace Go.Proofs.Ytidengmcbppcoaa.oc
open Go.RowKit
/-- the marks behind -/
def marks (k : Nat) : List Nat := (List.range k).map (· + 200)
theorem marks_length (k : Nat) : (marks k).length = k := by simp [marks]
theorem marks_succ (k : Nat) : marks (k + 1) = marks k ++ [k + 200] := by simp [marks, List.range_succ]

theorem lit_row (w : World) (cs : Array Value) (t : TypeId) (bs : List Nat) (h : cs.toList = by_ bs) : Rd (w.alloc (.cells cs t)) (w.heap.size + 1) (some ⟨w.heap.size, 0, none⟩) (by_ bs) := by
  have := (Blk.new w t cs).rd
  rwa [h] at this

theorem spare_any (A : Option Addr) (bs : List Nat) (n c B : Nat) (w : World) (hn : bs.length = n) (hm : n ≤ 140737488351232) (hr : Rd w B A (by_ bs)) :
    Calls Try.prog 14 #[.slice A n c] w fun e w' => ∃ g cap, e = .returned (.slice (some ⟨g, 0, none⟩) n cap) ∧ n + 20 ≤ cap ∧ cap ≤ maxLen ∧
      w'.ownsRow w.heap.size 5 1 (.slice (some ⟨g, 0, none⟩) (n + 20) cap) (n + 20) (by_ (bs ++ marks 20)) ∧ Below w.heap.size w w' := by
  obtain ⟨i0, hi0, hz0, hz1, hz2⟩ := info_parts byte_info
  have HN := Lib.hid hn
  clear hn
  have hl : (by_ bs).length = n := by rw [by_length]; exact HN.out
  have HL := Lib.hid hl
  clear hl
  go_enter Try.func14, Try.ntmps14
  go_wp2_with (at_builtin; refine wpList_app rfl _ _ 27 rfl w.heap.size 5 i0 _ 1 Try.underlying27 hi0 hz0 hz1 hz2 rfl (.slice none 0 0) 0 [] rfl (World.ownsRow_nil _ _ _ _) B A n c (by_ bs) rfl hr HL.out (by_one bs) (by omega) (by omega) (Nat.le_refl _) ?_; intro v1 w1 hown1 hg1 hat1)
  have hb1 : Below w.heap.size w w1 := app_below (e := 5) (Below.refl _ _) (World.ownsRow_nil _ _ _ _) hg1 (Nat.le_refl _)
  have ho1 : w1.ownsRow w.heap.size 5 1 v1 (n + 0) (by_ (bs ++ marks 0)) := by simpa [marks] using hown1
  clear hown1 hg1 hat1 hr
  go_loopw [3, 4] (fun v i wr => ∃ k : Nat, k ≤ 20 ∧ i = .int .i64 k ∧ wr.ownsRow w.heap.size 5 1 v (n + k) (by_ (bs ++ marks k)) ∧ Below w.heap.size w wr) (fun _ i _ => 20 - (intOf i).toNat)
  case atStart => exact ⟨0, Nat.zero_le _, rfl, ho1, hb1⟩
  case round =>
    obtain ⟨k, hk, rfl, ho, hb⟩ := hrel
    clear ho1 hb1
    by_cases hlt : k < 20
    · have hz := hb.size
      have hlit := lit_row wr #[.int .u8 (200 + (k : Int))] 5 [k + 200] (by simp [by_]; omega)
      go_wp2_with (at_builtin; refine wpList_app rfl _ _ 27 rfl w.heap.size 5 i0 _ 1 Try.underlying27 hi0 hz0 hz1 hz2 rfl _ (n + k) (by_ (bs ++ marks k)) rfl (ho.alloc _) (wr.heap.size + 1) (some ⟨wr.heap.size, 0, none⟩) 1 1 (by_ [k + 200]) rfl hlit rfl (by_one _) (by omega) (by omega) (by simp; omega) ?_; intro v2 w2 hown2 hg2 hat2)
      have hb2 := app_below (hb.alloc hz _) (ho.alloc _) hg2 (by simp; omega)
      have ho2 : w2.ownsRow w.heap.size 5 1 v2 (n + (k + 1)) (by_ (bs ++ marks (k + 1))) := by
        rw [marks_succ, ← List.append_assoc, by_append, ← Nat.add_assoc]
        exact hown2
      clear hown2 hg2 hat2 ho hlit
      go_wp2
      go_roundw
      case rel => exact ⟨k + 1, by omega, by go_num, ho2, hb2⟩
      case measure => simp [intOf]; omega
    · obtain rfl : k = 20 := by omega
      obtain ⟨g, cap, rfl, hg, hlt2⟩ := ho.form (by omega)
      have hcap : n + 20 ≤ cap ∧ cap ≤ maxLen := by
        rcases ho.2 with ⟨h, _⟩ | ⟨g', cap', cur, h, _, _, h3, h4, _⟩
        · cases h
        · injection h with _ _ h
          subst h
          exact ⟨h3, h4⟩
      obtain ⟨hc1, hc2⟩ := hcap
      have hc3 : cap ≤ 9223372036854775807 := by simpa [maxLen] using hc2
      have HO := Lib.hid ho
      clear ho
      go_wp2
      go_ret
      exact ⟨g, cap, rfl, hc1, hc2, HO.out, hb⟩

theorem marks_at {j : Nat} (h : j < 20) : (marks 20)[j]? = some (j + 200) := by simp [marks, h]
theorem kept_any (A : Option Addr) (bs : List Nat) (n c cap g B B' : Nat) (w : World) (hn : bs.length = n) (hm : n ≤ 140737488351232) (hs : Small bs) (hr : Rd w B A (by_ bs)) (hc : n + 20 ≤ cap) (hc2 : cap ≤ maxLen)
    (hf : Rd w B' (some ⟨g, 0, none⟩) (by_ (bs ++ marks 20))) :
    Calls Try.prog 18 #[.slice (some ⟨g, 0, none⟩) n cap, .slice A n c] w fun e w' => e = .returned (.bool true) ∧ ∃ d, w.drewN d = w' := by
  have hc3 : cap ≤ 9223372036854775807 := by simpa [maxLen] using hc2
  have hcell : ∀ k x : Nat, (bs ++ marks 20)[k]? = some x → w.cell? ⟨g, k, none⟩ = some (.int .u8 (x : Int)) := fun k x hx => by
    obtain ⟨b, o, e, _, h⟩ := hf.byte hx
    injection e with e
    injection e with e1 e2
    subst e1
    subst e2
    rwa [Nat.zero_add] at h
  have HC := Lib.hid hcell
  have HN := Lib.hid hn
  clear hn hcell hf hc2
  go_enter Try.func18, Try.ntmps18
  go_wp2
  go_loopw [6] (fun i wr => ∃ k d : Nat, k ≤ n + 20 ∧ i = .int .i64 k ∧ w.drewN d = wr) (fun i _ => n + 20 - (intOf i).toNat)
  case atStart => exact ⟨0, 0, Nat.zero_le _, rfl, rfl⟩
  case round =>
    obtain ⟨k, d, hk, rfl, rfl⟩ := hrel
    have k0 : (0 : Int) ≤ (k : Int) := by omega
    by_cases hlt : k < n
    · have hx := getq (bs := bs) (k := k) (by rw [HN.out]; exact hlt)
      have hx8 := hs.at_ hx
      have hfull := HC.out k _ (by rw [List.getElem?_append_left (by rw [HN.out]; exact hlt)]; exact hx)
      obtain ⟨b, o, rfl, hb, hcb⟩ := hr.byte hx
      have k1 : decide ((k : Int) < (n : Int)) = true := by simp; omega
      have k2 : (k : Int) < (n : Int) := by omega
      have k3 : decide (n ≤ k) = false := by simp; omega
      have k5 : decide (k < n) = true := by simp; omega
      have k4 : (k : Int) < (n : Int) + 20 := by omega
      clear hx
      generalize bs.getD k 0 = x at *
      go_wp2
      go_quiet (fail)
      go_wp2
      go_roundw
      case rel => exact ⟨k + 1, d + nq, by omega, by go_num, rfl⟩
      case measure => simp [intOf]; omega
    · by_cases hlt2 : k < n + 20
      · have hfull := HC.out k _ (by rw [List.getElem?_append_right (by rw [HN.out]; omega), HN.out]; exact marks_at (by omega))
        have e1 : (((k - n + 200 : Nat) : Int)) = 200 + (k : Int) - (n : Int) := by omega
        rw [e1] at hfull
        have k1 : decide ((k : Int) < (n : Int)) = false := by simp; omega
        have k2 : (n : Int) ≤ (k : Int) := by omega
        have k3 : decide (n ≤ k) = true := by simp; omega
        have k5 : decide (k < n) = false := by simp; omega
        have k4 : (k : Int) < (n : Int) + 20 := by omega
        clear e1
        go_wp2
        go_quiet (fail)
        go_wp2
        go_roundw
        case rel => exact ⟨k + 1, d + nq, by omega, by go_num, rfl⟩
        case measure => simp [intOf]; omega
      · go_wp2
        go_ret
        exact ⟨rfl, d, rfl⟩
end Go.Proofs.Ytidengmcbppcoaa.oc
