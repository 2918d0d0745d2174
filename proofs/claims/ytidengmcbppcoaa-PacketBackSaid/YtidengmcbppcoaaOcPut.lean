/-
  Put of each kind: the bytes behind what there is, in new memory.
-/
import Derived.Test.YtidengmcbppcoaaRows
import Derived.Test.YtidengmcbppcoaaOcB
import Derived.Test.YtidengmcbppcoaaOcSize
import Derived.WalkLawsBesides
import Derived.WalkSpells
import Derived.Outline
import Derived.Lib.Hide
import Derived.Laws.CopyOwn
namespace Go.Proofs.Ytidengmcbppcoaa.oc
open Go.RowKit

theorem byte_info : (Try.prog.info? 5).map (fun i => (i.zero, i.size, i.bytes)) = some (some (.int .u8 0), 1, 1) := by kernel_rfl
theorem byte_size : (Try.prog.info? 5).map (·.size) = some 1 := by kernel_rfl
theorem be_one (k v : Nat) (r : Nat) (h : r = v / 256 ^ k) : ((r : Nat) : Int) % 256 = ((v / 256 ^ k % 256 : Nat) : Int) := by subst h; omega


set_option maxHeartbeats 400000 in
theorem put16_any (A : Option Addr) (bs : List Nat) (n c B v : Nat) (w : World) (hn : bs.length = n) (hm : n + 2 ≤ 140737488355328) (hv : v < 65536) (hr : Rd w B A (by_ bs)) (hB : B ≤ w.heap.size) :
    Calls Try.prog 53 #[.slice A n c, .int .u16 v] w fun e w' =>
      e = .returned (.slice (some ⟨w.heap.size, 0, none⟩) (n + 2) (n + 2)) ∧ Blk w' w.heap.size 5 (by_ (bs ++ be 2 v)) ∧ Below w.heap.size w w' := by
  obtain ⟨i0, hi0, hz0, hz1, hz2⟩ := info_parts byte_info
  have HN := Lib.hid hn
  clear hn
  have hmk : ∀ u : World, (Instr.makeSlice 27 (.int .i64 ((n : Int) + 2)) (.int .i64 ((n : Int) + 2))).run Try.prog u =
      .ok (.slice (some ⟨u.heap.size, 0, none⟩) (n + 2) (n + 2)) (u.alloc (.cells (madeCells #[.int .u8 0] (n + 2)) 5)) := fun u => by
    have h := run_make (P := Try.prog) u 27 5 i0 (.int .u8 0) Try.underlying27 hi0 hz0 .i64 .i64 ((n : Int) + 2) ((n : Int) + 2) (by omega) (Int.le_refl _) (by rw [hz2]; omega) (by omega)
    have e : ((n : Int) + 2).toNat = n + 2 := by omega
    rw [e] at h
    simpa [hz1, Value.cells] using h
  obtain ⟨o1, ho1⟩ : ∃ o : Obj, o = .cells (madeCells #[.int .u8 0] (n + 2)) 5 := ⟨_, rfl⟩
  have hblk : Blk (w.alloc o1) w.heap.size 5 (List.replicate (n + 2) (.int .u8 0)) := by
    have h := Blk.new w 5 (madeCells #[.int .u8 0] (n + 2))
    rw [toList_madeCells_one] at h
    rw [ho1]
    exact h
  rw [← ho1] at hmk
  have HO := Lib.hid ho1
  clear ho1
  have hr1 : Rd (w.alloc o1) B A (by_ bs) := hr.alloc hB _
  have hb1 : Below w.heap.size w (w.alloc o1) := (Below.refl _ _).alloc (Nat.le_refl _) _
  have hc1 : (by_ bs).length = Nat.min n (n + 2) := by rw [by_length, HN.out]; exact (Nat.min_eq_left (by omega)).symm
  have hc2 : 0 < (by_ bs).length → ∃ ad, A = some ad ∧ ∀ j v, (by_ bs)[j]? = some v → (w.alloc o1).cell? (ad.add j) = some v := fun hpos => hr1.src hpos
  have hc3 : 0 + (by_ bs).length ≤ (List.replicate (n + 2) (Value.int .u8 0)).length := by rw [by_length, HN.out, List.length_replicate]; omega
  have HC1 := Lib.hid hc1
  have HC2 := Lib.hid hc2
  have HC3 := Lib.hid hc3
  clear hc1 hc2 hc3
  go_enter Try.func53, Try.ntmps53
  go_wp2_with (first
    | (go_at_call 67; refine (size16 _).mono ?_; rintro e w' ⟨rfl, rfl⟩)
    | ((with_reducible show wpList _ _ _ (⟨some 15, _, _, _, _, _⟩ :: _) _ _); refine wpList_copy_splice rfl (.tmp 13) (.tmp 14) 27 27 rfl 5 Try.underlying27 byte_size (some ⟨w.heap.size, 0, none⟩) A (n + 2) (n + 2) n c rfl rfl w.heap.size 0 (List.replicate (n + 2) (.int .u8 0)) 5 hblk (by_ bs) HC1.out (fun hp => ⟨rfl, HC2.out hp⟩) HC3.out (by_one bs) w.heap.size w hb1 (Nat.le_refl _) ?_; intro w2 hg2 hb2))
  have hg3 : Blk w2 w.heap.size 5 (by_ bs ++ List.replicate 2 (Value.int .u8 0) ++ by_ (be 0 v)) := put_start hg2.out HN.out
  clear hg2 hblk hmk hr1 hb1 HC1 HC2 HC3 HO hi0 hz0 hz1 hz2 hr
  go_loopw [6, 7] (fun r i wr => ∃ j : Nat, j ≤ 2 ∧ r = .int .u64 ((v / 256 ^ (2 - j) : Nat) : Int) ∧ i = .int .i64 (((n + j : Nat) : Int) - 1) ∧
      Blk wr w.heap.size 5 (by_ bs ++ List.replicate j (Value.int .u8 0) ++ by_ (be (2 - j) v)) ∧ Below w.heap.size w wr) (fun _ i _ => (intOf i - n + 1).toNat)
  case atStart => exact ⟨2, Nat.le_refl _, by simp, by simp, hg3, hb2⟩
  case round =>
    obtain ⟨j, hj, rfl, hi, hbl, hbw⟩ := hrel
    rcases j with _ | j
    · subst hi
      have HB := Lib.hid hbl
      clear hbl
      go_wp2
      go_ret
      exact ⟨rfl, by have := HB.out; simpa [by_append] using this, hbw⟩
    · obtain ⟨p, hp⟩ : ∃ p, p = n + j := ⟨_, rfl⟩
      rw [show (((n + (j + 1) : Nat) : Int) - 1) = (p : Int) from by omega] at hi
      subst hi
      have p0 : n ≤ p := by omega
      have p1 : p < n + 2 := by omega
      obtain ⟨q, hq⟩ : ∃ q, q = v / 256 ^ (2 - (j + 1)) := ⟨_, rfl⟩
      have q1 : q < 18446744073709551616 := by
        have := Nat.div_le_self v (256 ^ (2 - (j + 1)))
        omega
      have hat := put_at bs n j (2 - (j + 1)) v HN.out
      have hst := put_step bs n j (2 - (j + 1)) v HN.out
      rw [← hq, ← hp, show 2 - (j + 1) + 1 = 2 - j from by omega] at hst
      rw [← hp] at hat
      have hc := hbl.cell p
      rw [hat] at hc
      have hf := hbl.frozen p
      have hd := div_step v (2 - (j + 1))
      rw [← hq, show 2 - (j + 1) + 1 = 2 - j from by omega] at hd
      rw [← hq]
      have HB := Lib.hid hbl
      have HS := Lib.hid hst
      have HP := Lib.hid hp
      have HD := Lib.hid hd
      clear hbl hst hp hq hat hd
      go_wp2
      go_roundw
      case rel => exact ⟨j, by omega, by rw [← HD.out]; go_num, by rw [← HP.out], by have := HB.out.put p (.int .u8 ((q % 256 : Nat) : Int)); rw [HS.out] at this; exact this, hbw.setCell (Nat.le_refl _) _⟩
      case measure => simp [intOf]; omega

set_option maxHeartbeats 400000 in
theorem put32_any (A : Option Addr) (bs : List Nat) (n c B v : Nat) (w : World) (hn : bs.length = n) (hm : n + 4 ≤ 140737488355328) (hv : v < 4294967296) (hr : Rd w B A (by_ bs)) (hB : B ≤ w.heap.size) :
    Calls Try.prog 54 #[.slice A n c, .int .u32 v] w fun e w' =>
      e = .returned (.slice (some ⟨w.heap.size, 0, none⟩) (n + 4) (n + 4)) ∧ Blk w' w.heap.size 5 (by_ (bs ++ be 4 v)) ∧ Below w.heap.size w w' := by
  obtain ⟨i0, hi0, hz0, hz1, hz2⟩ := info_parts byte_info
  have HN := Lib.hid hn
  clear hn
  have hmk : ∀ u : World, (Instr.makeSlice 27 (.int .i64 ((n : Int) + 4)) (.int .i64 ((n : Int) + 4))).run Try.prog u =
      .ok (.slice (some ⟨u.heap.size, 0, none⟩) (n + 4) (n + 4)) (u.alloc (.cells (madeCells #[.int .u8 0] (n + 4)) 5)) := fun u => by
    have h := run_make (P := Try.prog) u 27 5 i0 (.int .u8 0) Try.underlying27 hi0 hz0 .i64 .i64 ((n : Int) + 4) ((n : Int) + 4) (by omega) (Int.le_refl _) (by rw [hz2]; omega) (by omega)
    have e : ((n : Int) + 4).toNat = n + 4 := by omega
    rw [e] at h
    simpa [hz1, Value.cells] using h
  obtain ⟨o1, ho1⟩ : ∃ o : Obj, o = .cells (madeCells #[.int .u8 0] (n + 4)) 5 := ⟨_, rfl⟩
  have hblk : Blk (w.alloc o1) w.heap.size 5 (List.replicate (n + 4) (.int .u8 0)) := by
    have h := Blk.new w 5 (madeCells #[.int .u8 0] (n + 4))
    rw [toList_madeCells_one] at h
    rw [ho1]
    exact h
  rw [← ho1] at hmk
  have HO := Lib.hid ho1
  clear ho1
  have hr1 : Rd (w.alloc o1) B A (by_ bs) := hr.alloc hB _
  have hb1 : Below w.heap.size w (w.alloc o1) := (Below.refl _ _).alloc (Nat.le_refl _) _
  have hc1 : (by_ bs).length = Nat.min n (n + 4) := by rw [by_length, HN.out]; exact (Nat.min_eq_left (by omega)).symm
  have hc2 : 0 < (by_ bs).length → ∃ ad, A = some ad ∧ ∀ j v, (by_ bs)[j]? = some v → (w.alloc o1).cell? (ad.add j) = some v := fun hpos => hr1.src hpos
  have hc3 : 0 + (by_ bs).length ≤ (List.replicate (n + 4) (Value.int .u8 0)).length := by rw [by_length, HN.out, List.length_replicate]; omega
  have HC1 := Lib.hid hc1
  have HC2 := Lib.hid hc2
  have HC3 := Lib.hid hc3
  clear hc1 hc2 hc3
  go_enter Try.func54, Try.ntmps54
  go_wp2_with (first
    | (go_at_call 68; refine (size32 _).mono ?_; rintro e w' ⟨rfl, rfl⟩)
    | ((with_reducible show wpList _ _ _ (⟨some 15, _, _, _, _, _⟩ :: _) _ _); refine wpList_copy_splice rfl (.tmp 13) (.tmp 14) 27 27 rfl 5 Try.underlying27 byte_size (some ⟨w.heap.size, 0, none⟩) A (n + 4) (n + 4) n c rfl rfl w.heap.size 0 (List.replicate (n + 4) (.int .u8 0)) 5 hblk (by_ bs) HC1.out (fun hp => ⟨rfl, HC2.out hp⟩) HC3.out (by_one bs) w.heap.size w hb1 (Nat.le_refl _) ?_; intro w2 hg2 hb2))
  have hg3 : Blk w2 w.heap.size 5 (by_ bs ++ List.replicate 4 (Value.int .u8 0) ++ by_ (be 0 v)) := put_start hg2.out HN.out
  clear hg2 hblk hmk hr1 hb1 HC1 HC2 HC3 HO hi0 hz0 hz1 hz2 hr
  go_loopw [6, 7] (fun r i wr => ∃ j : Nat, j ≤ 4 ∧ r = .int .u64 ((v / 256 ^ (4 - j) : Nat) : Int) ∧ i = .int .i64 (((n + j : Nat) : Int) - 1) ∧
      Blk wr w.heap.size 5 (by_ bs ++ List.replicate j (Value.int .u8 0) ++ by_ (be (4 - j) v)) ∧ Below w.heap.size w wr) (fun _ i _ => (intOf i - n + 1).toNat)
  case atStart => exact ⟨4, Nat.le_refl _, by simp, by simp, hg3, hb2⟩
  case round =>
    obtain ⟨j, hj, rfl, hi, hbl, hbw⟩ := hrel
    rcases j with _ | j
    · subst hi
      have HB := Lib.hid hbl
      clear hbl
      go_wp2
      go_ret
      exact ⟨rfl, by have := HB.out; simpa [by_append] using this, hbw⟩
    · obtain ⟨p, hp⟩ : ∃ p, p = n + j := ⟨_, rfl⟩
      rw [show (((n + (j + 1) : Nat) : Int) - 1) = (p : Int) from by omega] at hi
      subst hi
      have p0 : n ≤ p := by omega
      have p1 : p < n + 4 := by omega
      obtain ⟨q, hq⟩ : ∃ q, q = v / 256 ^ (4 - (j + 1)) := ⟨_, rfl⟩
      have q1 : q < 18446744073709551616 := by
        have := Nat.div_le_self v (256 ^ (4 - (j + 1)))
        omega
      have hat := put_at bs n j (4 - (j + 1)) v HN.out
      have hst := put_step bs n j (4 - (j + 1)) v HN.out
      rw [← hq, ← hp, show 4 - (j + 1) + 1 = 4 - j from by omega] at hst
      rw [← hp] at hat
      have hc := hbl.cell p
      rw [hat] at hc
      have hf := hbl.frozen p
      have hd := div_step v (4 - (j + 1))
      rw [← hq, show 4 - (j + 1) + 1 = 4 - j from by omega] at hd
      rw [← hq]
      have HB := Lib.hid hbl
      have HS := Lib.hid hst
      have HP := Lib.hid hp
      have HD := Lib.hid hd
      clear hbl hst hp hq hat hd
      go_wp2
      go_roundw
      case rel => exact ⟨j, by omega, by rw [← HD.out]; go_num, by rw [← HP.out], by have := HB.out.put p (.int .u8 ((q % 256 : Nat) : Int)); rw [HS.out] at this; exact this, hbw.setCell (Nat.le_refl _) _⟩
      case measure => simp [intOf]; omega


end Go.Proofs.Ytidengmcbppcoaa.oc
