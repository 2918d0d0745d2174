/-
  The law FlowSpread, walked.
-/
import Derived.Test.YtdnddlmlbnachaaFwLo
set_option linter.unusedVariables false
set_option linter.unusedSimpArgs false
namespace Go.Proofs.Ytdnddlmlbnachaa.fw
open Go.RowKit Go.Proofs.Ytdnddlmlbnachaa.oc Go.Proofs.Ytdnddlmlbnachaa.mz Go.Proofs.Ytdnddlmlbnachaa.pf Go.Proofs.Ytdnddlmlbnachaa.wh Go.Proofs.Ytdnddlmlbnachaa.qk Go.Proofs.Ytdnddlmlbnachaa.bys
def cnt (L : List Nat) : List Value := L.map fun (x : Nat) => Value.int .i64 (x : Int)
theorem cnt_at {L : List Nat} {j x : Nat} (h : L[j]? = some x) : (cnt L)[j]? = some (.int .i64 (x : Int)) := by simp [cnt, h]
theorem cnt_set (L : List Nat) (j x : Nat) : cnt (L.set j x) = (cnt L).set j (.int .i64 (x : Int)) := by simp [cnt, List.map_set]
def six (k : Ky) : Ky := ⟨k.src, k.dst, 6, k.sp, k.dp⟩
theorem six_wf {k : Ky} (h : k.Wf) : (six k).Wf := ⟨h.s, h.d, by show (6 : Nat) < 256; omega, h.sl, h.dl⟩
theorem kport_wf {k : Ky} (h : k.Wf) (p : Nat) (hp : p < 65536) : (kport k p).Wf := ⟨h.s, h.d, h.p, hp, h.dl⟩
def prt (k : Ky) (m : Nat) : Ky := kport (six k) ((k.sp + m) % 65536)
theorem prt_wf {k : Ky} (h : k.Wf) (m : Nat) : (prt k m).Wf := kport_wf (six_wf h) _ (by omega)
def lan (k : Ky) (i : Nat) : Nat := khash (prt k (i + 1)) % 4
theorem lan_lt (k : Ky) (i : Nat) : lan k i < 4 := Nat.mod_lt _ (by omega)
/-- how it stands ahead of round m -/
structure SI (w wr : World) (k : Ky) (m : Nat) (L : List Nat) : Prop where
  key : Blk wr w.heap.size 31 (kvc (prt k m))
  lan : Blk wr (w.heap.size + 1) 53 (cnt L)
  len : L.length = 4
  le : ∀ x ∈ L, x ≤ m
  pos : ∀ i, i < m → ∀ x, L[fw.lan k i]? = some x → 1 ≤ x
  keep : Keeps (fun x => w.heap.size ≤ x) w wr
theorem SI.step {w wr wa wd : World} {k : Ky} {m x : Nat} {L : List Nat} (hk : k.Wf) (h : SI w wr k m L) (hx : L[fw.lan k m]? = some x)
    (ha : wa = wr.setCell ⟨w.heap.size, 35, none⟩ (.int .u16 (((k.sp + (m + 1)) % 65536 : Nat) : Int))) (k1 : ∀ S, Keeps S wa wd) : SI w (wd.setCell ⟨w.heap.size + 1, fw.lan k m, none⟩ (.int .i64 ((x + 1 : Nat) : Int))) k (m + 1) (L.set (fw.lan k m) (x + 1)) := by
  have b1 := h.key.put 35 (.int .u16 (((k.sp + (m + 1)) % 65536 : Nat) : Int))
  rw [kvc_set_sp (prt_wf hk m), ← ha] at b1
  have e : (⟨(prt k m).src, (prt k m).dst, (prt k m).pr, (k.sp + (m + 1)) % 65536, (prt k m).dp⟩ : Ky) = prt k (m + 1) := rfl
  rw [e] at b1
  have b2 : Blk wa (w.heap.size + 1) 53 (cnt L) := by rw [ha]; exact h.lan.far (p := ⟨w.heap.size, 35, none⟩) (by show ¬ w.heap.size + 1 = w.heap.size; omega) _
  have k0 : Keeps (fun x => w.heap.size ≤ x) w wa := by rw [ha]; exact h.keep.setCell (p := ⟨w.heap.size, 35, none⟩) (.inl (Nat.le_refl _)) _
  have b3 := Blk.keeps b1 (k1 (fun _ => False)) (fun z => z)
  have b4 := Blk.keeps b2 (k1 (fun _ => False)) (fun z => z)
  refine ⟨b3.far (p := ⟨w.heap.size + 1, fw.lan k m, none⟩) (by show ¬ w.heap.size = w.heap.size + 1; omega) _, ?_, by rw [List.length_set]; exact h.len, fun y hy => ?_, fun i hi y hy => ?_, (k0.trans (k1 _)).setCell (p := ⟨w.heap.size + 1, fw.lan k m, none⟩) (.inl (by show w.heap.size ≤ w.heap.size + 1; omega)) _⟩
  · rw [cnt_set]; exact b4.put _ _
  · have hx' := h.le x (List.mem_of_getElem? hx)
    rcases List.mem_or_eq_of_mem_set hy with q | q
    · have := h.le y q; omega
    · omega
  · rw [List.getElem?_set] at hy
    by_cases q : fw.lan k m = fw.lan k i
    · rw [if_pos q] at hy
      split at hy
      · injection hy with hy; omega
      · cases hy
    · rw [if_neg q] at hy
      rcases Nat.lt_or_ge i m with z | z
      · exact h.pos i z y hy
      · exact absurd (show fw.lan k m = fw.lan k i by rw [show i = m from by omega]) q
theorem SI.all {w wr : World} {k : Ky} {L : List Nat} (hk : k.Wf) (h : SI w wr k 256 L) (j : Nat) (hj : j < 4) : ∃ x, L[j]? = some x ∧ 1 ≤ x := by
  obtain ⟨i, hi, e⟩ := spread (six k) k.sp j hk.sl hj
  have hx : L[j]? = some (L[j]'(by rw [h.len]; exact hj)) := List.getElem?_eq_getElem _
  exact ⟨_, hx, h.pos i hi _ (by rw [show fw.lan k i = j from e]; exact hx)⟩
set_option maxRecDepth 100000 in
set_option maxHeartbeats 8000000 in
theorem walk_flowSpread (w : World) (k : Ky) (hk : k.Wf) : Calls Try.prog 8 #[kv k] w fun e w' => e = .returned (.bool true) ∧ Below w.heap.size w w' := by
  have x34 : (w.alloc (.cells (kvc k).toArray 31)).cell? ⟨w.heap.size, 34, none⟩ = some (.int .u8 (k.pr : Int)) := by
    obtain ⟨w1, hw1, k1, b0, s1⟩ := box1 w (kvc k) 31
    rw [← hw1, b0.cell, kvc_pr hk]
  have f34 : (w.alloc (.cells (kvc k).toArray 31)).frozen? ⟨w.heap.size, 34, none⟩ = false := by
    obtain ⟨w1, hw1, k1, b0, s1⟩ := box1 w (kvc k) 31
    rw [← hw1, b0.frozen 34]
  obtain ⟨w2, hw2, k2, b3, b2, s2⟩ := box2 w ((kvc k).set 34 (.int .u8 6)) [.int .i64 0, .int .i64 0, .int .i64 0, .int .i64 0] 31 53
  have e0 : (kvc k).set 34 (.int .u8 6) = kvc (prt k 0) := by
    have e : prt k 0 = ⟨k.src, k.dst, 6, k.sp, k.dp⟩ := by
      unfold prt kport six
      simp only [Nat.add_zero, Nat.mod_eq_of_lt hk.sl]
    rw [e]
    exact kvc_set_pr hk 6
  rw [e0] at b3
  have hsi : SI w w2 k 0 [0, 0, 0, 0] := ⟨b3, b2, rfl, by simp, fun i hi => absurd hi (Nat.not_lt_zero _), k2 _⟩
  have HSI := Lib.hid hsi
  have HK := Lib.hid hk
  have HE := fun w => Lib.hid (awake_ w)
  have HW := Lib.hid hw2
  clear e0 k2 s2 b2 b3 hsi hw2 hk
  unfold kv
  generalize kvc k = C at *
  go_enter Try.func8, Try.ntmps8
  go_wp2_with fail
  rw [← HW.out]
  clear x34 f34 HW
  go_loopw [4] (fun i wr => ∃ (m : Nat) (L : List Nat), m ≤ 256 ∧ i = .int .i64 (m : Int) ∧ SI w wr k m L) (fun i _ => 256 - (intOf i).toNat)
  case atStart => exact ⟨0, _, by omega, rfl, HSI.out⟩
  case round =>
    obtain ⟨m, L, hm, rfl, hsi⟩ := hrel
    by_cases hlt : m < 256
    · have hlt' : (m : Int) < 256 := by omega
      have m0 : (0 : Int) ≤ (m : Int) := by omega
      have hwf := prt_wf HK.out m
      have x35 : wr.cell? ⟨w.heap.size, 35, none⟩ = some (.int .u16 (((k.sp + m) % 65536 : Nat) : Int)) := by rw [hsi.key.cell, kvc_sp hwf]; rfl
      have f35 := hsi.key.frozen 35
      obtain ⟨wa, hwa⟩ : ∃ wa, wa = wr.setCell ⟨w.heap.size, 35, none⟩ (.int .u16 (((k.sp + (m + 1)) % 65536 : Nat) : Int)) := ⟨_, rfl⟩
      have ba : Blk wa w.heap.size 31 (kvc (prt k (m + 1))) := by
        rw [hwa]
        have := hsi.key.put 35 (.int .u16 (((k.sp + (m + 1)) % 65536 : Nat) : Int))
        rw [kvc_set_sp hwf] at this
        exact this
      have HBA := Lib.hid ba
      have bl : Blk wa (w.heap.size + 1) 53 (cnt L) := by rw [hwa]; exact hsi.lan.far (p := ⟨w.heap.size, 35, none⟩) (by show ¬ w.heap.size + 1 = w.heap.size; omega) _
      have HBL := Lib.hid bl
      have hll := lan_lt k m
      have hx : L[fw.lan k m]? = some (L[fw.lan k m]'(by rw [hsi.len]; exact hll)) := List.getElem?_eq_getElem _
      obtain ⟨x, hxe⟩ : ∃ x, x = L[fw.lan k m]'(by rw [hsi.len]; exact hll) := ⟨_, rfl⟩
      rw [← hxe] at hx
      have hx9 : x ≤ 256 := by have := hsi.le x (List.mem_of_getElem? hx); omega
      have HST := Lib.hid (fun wd (k1 : ∀ S, Keeps S wa wd) => SI.step HK.out hsi hx hwa k1)
      have HX := Lib.hid hx
      have HSZ := Lib.hid (key_sz (prt_wf HK.out (m + 1)))
      have HLA := fun w => Lib.hid (plane_ok w (prt k (m + 1)) (prt_wf HK.out (m + 1)) 4 (by omega) (by omega))
      have HPA := fun w => Lib.hid (ppart_ok w (prt k (m + 1)) (prt_wf HK.out (m + 1)) 4 (by omega) (by omega))
      have hp4 : khash (prt k (m + 1)) / 1048576 % 4 < 4 := Nat.mod_lt _ (by omega)
      rw [show khash (prt k (m + 1)) % 4 = fw.lan k m from rfl] at HLA
      obtain ⟨a1, ha1⟩ : ∃ a1 : Nat, a1 = (k.sp + m) % 65536 := ⟨_, rfl⟩
      obtain ⟨a2, ha2⟩ : ∃ a2 : Nat, a2 = (k.sp + (m + 1)) % 65536 := ⟨_, rfl⟩
      have hwr : IntKind.u16.wrap ((a1 : Int) + 1) = (a2 : Int) := by rw [IntKind.wrap_u16]; omega
      rw [← ha1] at x35
      rw [← ha2] at hwa
      have HWA := Lib.hid hwa
      unfold kv at HLA HPA
      clear hwa ba bl hx hxe hsi hwf ha1 ha2
      generalize kvc (prt k (m + 1)) = CP at *
      generalize khash (prt k (m + 1)) / 1048576 % 4 = pp at *
      generalize hlq : fw.lan k m = q at *
      have d1 : ¬ (q : Int) < 0 := by omega
      have d2 : ¬ (3 : Int) < (q : Int) := by omega
      have d3 : ¬ (3 : Int) < (pp : Int) := by omega
      have d4 : (0 : Int) ≤ (q : Int) := by omega
      have d5 : (q : Int) < 4 := by omega
      go_wp2_with (first | (with_reducible rw [← HWA.out]; refine wpList_load_mid rfl 31 _ rfl w.heap.size 0 rfl CP _ (Blk.range HBA.out) Try.underlying31 rfl HSZ.out ?_))
      refine (HLA _).out.mono ?_
      rintro e wb ⟨rfl, kb⟩
      have KB := Lib.hid kb
      have HBB := Lib.hid (Blk.keeps HBA.out (kb (fun _ => False)) (fun z => z))
      clear kb x35 f35
      go_wp2_with (refine wpList_load_mid rfl 31 _ rfl w.heap.size 0 rfl CP _ (Blk.range HBB.out) Try.underlying31 rfl HSZ.out ?_)
      refine (HPA _).out.mono ?_
      rintro e wc ⟨rfl, kc⟩
      have KC : Hid (∀ S, Keeps S wa wc) := Lib.hid (fun S => (KB.out S).trans (kc S))
      have bc := Blk.keeps HBL.out (KC.out (fun _ => False)) (fun z => z)
      have xc : wc.cell? ⟨w.heap.size + 1, q, none⟩ = some (.int .i64 (x : Int)) := by rw [bc.cell, cnt_at HX.out]
      have fc := bc.frozen q
      have HN := Lib.hid (HST.out wc KC.out)
      clear kc bc HST
      go_wp2
      go_roundw
      case rel => exact ⟨m + 1, _, by omega, by go_num, HN.out⟩
      case measure => simp [intOf]; omega
    · obtain rfl : m = 256 := by omega
      have HA : Hid (∀ j, j < 4 → ∃ x, L[j]? = some x ∧ 1 ≤ x ∧ x ≤ 256) := Lib.hid (fun j hj => by
        obtain ⟨x, h1, h2⟩ := SI.all HK.out hsi j hj
        exact ⟨x, h1, h2, hsi.le x (List.mem_of_getElem? h1)⟩)
      have HB := Lib.hid hsi.lan
      have HKP := Lib.hid (hsi.keep.only (fun b hb => hb))
      clear hsi hlt
      go_wp2_with fail
      go_loopw [9] (fun i wq => ∃ (j : Nat), j ≤ 4 ∧ i = .int .i64 (j : Int) ∧ wr = wq) (fun i _ => 4 - (intOf i).toNat)
      case atStart => exact ⟨0, by omega, rfl, rfl⟩
      case round =>
        obtain ⟨j, hj, rfl, rfl⟩ := hrel
        by_cases hlt : j < 4
        · obtain ⟨x, h1, h2, h3⟩ := HA.out j hlt
          have xc : wr.cell? ⟨w.heap.size + 1, j, none⟩ = some (.int .i64 (x : Int)) := by rw [HB.out.cell, cnt_at h1]
          have hlt' : (j : Int) < 4 := by omega
          have m0 : (0 : Int) ≤ (j : Int) := by omega
          have d : ((x : Int) == 0) = false := beq_eq_false_iff_ne.2 (by omega)
          clear h1
          go_wp2
          go_roundw
          case rel => exact ⟨j + 1, by omega, by go_num, by first | trivial | rfl⟩
          case measure => simp [intOf]; omega
        · obtain rfl : j = 4 := by omega
          go_wp2_with fail
          refine (HE _).out.mono ?_
          rintro e wz ⟨rfl, kz⟩
          have KZ : Hid (∀ S, Keeps S w wz) := Lib.hid (fun S => (HKP.out.mono (fun _ _ z => z.elim)).trans (kz S))
          clear kz
          go_wp2
          try rw [Exit.noGoto_ret]
          go_ret
          exact ⟨rfl, below_of KZ.out⟩
end Go.Proofs.Ytdnddlmlbnachaa.fw
