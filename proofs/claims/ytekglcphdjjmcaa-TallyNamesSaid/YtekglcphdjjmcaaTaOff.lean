/-
  tally: calls on objects that are none; what Below tells of no numbers.
-/
import Derived.Test.YtekglcphdjjmcaaTaAw
import Derived.Test.YtekglcphdjjmcaaTaB
set_option linter.unusedVariables false
namespace Go.Proofs.Ytekglcphdjjmcaa.th
open Go.RowKit Go.Proofs.Ytekglcphdjjmcaa.oc Go.Proofs.Ytekglcphdjjmcaa.mz Go.Proofs.Ytekglcphdjjmcaa.at_ Go.Proofs.Ytekglcphdjjmcaa.gt Go.Proofs.Ytekglcphdjjmcaa.gw Go.Proofs.Ytekglcphdjjmcaa.tac
set_option maxRecDepth 100000 in
theorem sum_off (p : Value) (w : World) (h : ta.Off w p) :
    Calls Try.prog 7 #[p, .nilIface] w fun e w' => e = .returned (.tuple #[.int .u64 0, .int .i64 1]) ∧ w = w' := by
  have HP := Lib.hid (ta.parts_off .nilIface w p h)
  clear h
  go_enter Try.func7, Try.ntmps7
  go_wp2_with fail
  refine HP.out.mono ?_
  rintro e w1 ⟨rfl, rfl⟩
  go_wp2_with fail
  refine wp_loop_rounds 1 ?_
  rw [rounds_succ]
  go_wp2_with fail
  go_ret2
  exact ⟨rfl, rfl⟩
set_option maxRecDepth 100000 in
theorem hadd_off (p gv : Value) (v : Int) (w : World) (h : ta.Off w p) :
    Calls Try.prog 10 #[p, gv, .int .u64 v] w fun e w' => e = .returned (.int .i64 1) ∧ w = w' := by
  have HN := Lib.hid (none_off p w h)
  clear h
  go_enter Try.func10, Try.ntmps10
  go_wp2_with fail
  refine HN.out.mono ?_
  rintro e w1 ⟨rfl, rfl⟩
  go_wp2_with fail
  go_ret
  exact ⟨rfl, rfl⟩
theorem off_keeps {w w' : World} {p : Value} {S : Nat → Prop} (h : ta.Off w p) (k : Keeps S w w') (hs : ∀ b, b < w.heap.size → ¬ S b) : ta.Off w' p := by
  rcases h with h | ⟨T, e, h⟩
  · exact .inl h
  · refine .inr ⟨T, e, ?_⟩
    have hl : T < w.heap.size := by
      rcases Nat.lt_or_ge T w.heap.size with q | q
      · exact q
      · exfalso; simp [World.cell?, Array.getElem?_eq_none q] at h
    exact k.cell h (hs T hl)
theorem zero_build (w : World) (ho : Act) : True := trivial
set_option maxRecDepth 100000 in
set_option maxHeartbeats 2000000 in
theorem hget_off (p gv : Value) (w : World) (h : ta.Off w p) :
    Calls Try.prog 9 #[p, gv] w fun e w' => e = .returned (.tuple #[hv (List.replicate 67 0), .int .i64 1]) ∧ ∀ S, Keeps S w w' := by
  have hz := hist_zero
  obtain ⟨Z, hZ⟩ : ∃ Z, Z = zh := ⟨_, rfl⟩
  rw [← hZ] at hz
  have HZ := Lib.hid hZ
  obtain ⟨wA, hwA⟩ : ∃ wA, wA = w.alloc (.cells Z 34) := ⟨_, rfl⟩
  have kA : ∀ S, Keeps S w wA := fun S => by rw [hwA]; exact (Keeps.refl S w).alloc _
  have HN := Lib.hid (none_off p wA (off_keeps h (kA (fun _ => False)) (fun _ _ z => z)))
  have b8 := Blk.new w 34 Z
  rw [← hwA] at b8
  have hZl : Z.toList.length = 67 := by rw [hZ]; rfl
  have hZu : Z.toList = u64s (List.replicate 67 0) := by rw [hZ]; rfl
  have hZs : Z.size = 67 := by rw [← hZl, Array.length_toList]
  have hth := wh.Blk.thereAll b8
  rw [hZl, ← hZs] at hth
  have hall : Z.all (·.oneCell') = true := by
    rw [hZ]
    unfold zh
    exact wh.u64_ones _
  have hsz := (zero_of_info zh_info).2
  rw [← hZs] at hsz
  have HTH : Hid (wA.there w.heap.size 0 Z.size ∧ (Try.prog.info? 34).map (·.size) = some Z.size ∧ Z.all (·.oneCell') = true) := Lib.hid ⟨hth, hsz, hall⟩
  have b9 : Blk (wA.setCells w.heap.size 0 Z.toList) w.heap.size 34 Z.toList := wh.Blk.setAll b8 _ rfl
  have k9 := wh.keeps_setCells w.heap.size Z.toList wA 0
  have B9 := Lib.hid b9
  have K9 : Hid (∀ S, Keeps S w (wA.setCells w.heap.size 0 Z.toList)) := Lib.hid (fun S => ((kA (· = w.heap.size)).trans k9).mono (fun b hb e => absurd e (by omega)))
  have HWA := Lib.hid hwA
  have HZU := Lib.hid hZu
  clear kA b8 hZl hZ hwA b9 k9 h hth hall hsz hZs hZu
  go_enter Try.func9, Try.ntmps9
  go_wp2_with fail
  rw [← HWA.out]
  refine HN.out.mono ?_
  rintro e w1 ⟨rfl, rfl⟩
  go_wp2_with (first
    | (refine wpList_store_mid rfl 34 _ _ rfl w.heap.size 0 Z rfl rfl HTH.out.1 HTH.out.2.1 HTH.out.2.2 ?_))
  have HI := HTH.out.2.1
  rw [← Array.length_toList] at HI
  have hB9 := B9.out
  have HVV : hv (List.replicate 67 0) = .agg Z.toList.toArray := by unfold hv; rw [HZU.out]
  rw [HVV]
  have HK9 := K9.out
  clear HZU HVV HZ hz HTH B9 K9
  generalize Z.toList = ZL at *
  generalize wA.setCells w.heap.size 0 ZL = wz at *
  refine bodyPost_ret (wh.ret_cell (p := 4) (u := 5) (ty := 34) (by kernel_rfl) _ _ _ w.heap.size _ _ _ (by rfl) hB9 Try.underlying34 rfl HI) rfl ?_
  exact ⟨rfl, HK9⟩
end Go.Proofs.Ytekglcphdjjmcaa.th
