/-
  CellNotes' body.
-/
import Derived.Test.YtakpfkfhbeobeaaCeRnd
import Derived.Test.YtakpfkfhbeobeaaOcQuads
import Derived.Deep.RegionHeld3
set_option linter.unusedVariables false
namespace Go.Proofs.Ytakpfkfhbeobeaa.ce
open Go.RowKit Go.Proofs.Ytakpfkfhbeobeaa.oc Go.Proofs.Ytakpfkfhbeobeaa.mz Go.Proofs.Ytakpfkfhbeobeaa.rf3
theorem lt1 (w : World) (o : Obj) : w.heap.size < (w.alloc o).heap.size := by simp
theorem lt3 (w : World) (o o' : Obj) : w.heap.size + 1 < ((w.alloc o).alloc o').heap.size := by simp
theorem lit3' (w : World) (ob : Obj) (c f y : Nat) : ∀ (i z : Nat), [c, f, y][i]? = some z → ((w.alloc ob).alloc (.cells #[.int .u64 (c : Int), .int .u64 (f : Int), .int .u64 (y : Int)] 22)).cell? ⟨w.heap.size + 1, i, none⟩ = some (.int .u64 (z : Int)) := fun i z h => by
  have := lit3 (w.alloc ob) c f y i z h
  rwa [World.size_alloc] at this
theorem lt2 (w : World) (o o' : Obj) : w.heap.size < ((w.alloc o).alloc o').heap.size := by simp; omega
set_option maxRecDepth 100000 in
set_option maxHeartbeats 8000000 in
theorem walk_cellNotes (w : World) (c0 b0 : Nat) (A : Option Addr) (m0 cap : Nat) (xs : List (List Quad)) (hc : c0 < 18446744073709551616) (hb : b0 < 4294967296) (hlen : xs.length = m0) (hx : IsRows w A xs) :
    Calls Try.prog 3 #[.agg #[.int .u64 (c0 : Int), .int .u32 (b0 : Int), .slice A m0 cap]] w fun e w' => e = .returned (.bool true) ∧ Below w.heap.size w w' := by
  obtain ⟨w1, hw1, k1, bP⟩ := enter_blk w #[.int .u64 (c0 : Int), .int .u32 (b0 : Int), .slice A m0 cap] 26
  have p0 : w1.cell? ⟨w.heap.size, 0, none⟩ = some (.int .u64 (c0 : Int)) := by rw [bP.cell]; rfl
  have p1 : w1.cell? ⟨w.heap.size, 1, none⟩ = some (.int .u32 (b0 : Int)) := by rw [bP.cell]; rfl
  have HM := Lib.hid (made_any c0 b0 w1 hc)
  have HW1 := Lib.hid hw1
  have K1 : Hid (∀ S, Keeps S w w1) := Lib.hid k1
  have BP := Lib.hid bP
  have HX := Lib.hid (And.intro hlen hx)
  have HB := Lib.hid (And.intro hc hb)
  clear hw1 k1 bP hlen hx hc
  go_enter Try.func3, Try.ntmps3
  go_wp2_with fail
  rw [← HW1.out]
  go_wp2_with fail
  refine HM.out.mono ?_
  rintro e w2 ⟨C, L, B, E, rfl, cl2, k2, nC, nL, nB, nE⟩
  obtain ⟨w3, hw3, k3, b3⟩ := three_box w2 (.pointer (some ⟨C, 0, none⟩)) (.pointer (some ⟨L, 0, none⟩)) (.pointer (some ⟨B, 0, none⟩))
  have cl3 := cl2.keeps (k3 (fun _ => False)) id id id id
  have bP3 := Blk.keeps BP.out (((k2 (fun _ => False)).trans (k3 _))) id
  have m0' : w3.cell? ⟨w.heap.size, 0, none⟩ = some (.int .u64 (c0 : Int)) := by rw [bP3.cell]; rfl
  have m1' : w3.cell? ⟨w.heap.size, 1, none⟩ = some (.int .u32 (b0 : Int)) := by rw [bP3.cell]; rfl
  have z1 := (K1.out (fun _ => False)).size
  have HN : Hid (w.heap.size ≤ C ∧ w.heap.size ≤ L ∧ w.heap.size ≤ B ∧ w.heap.size ≤ w2.heap.size) := Lib.hid ⟨by omega, by omega, by omega, by have := (k2 (fun _ => False)).size; omega⟩
  have hP3 : w.heap.size ≠ w3.heap.size := Nat.ne_of_lt bP3.lt
  have hP4 : w.heap.size ≠ w3.heap.size + 1 := by have := bP3.lt; omega
  have HW3 := Lib.hid hw3
  have K3 : Hid (Keeps (fun b => w.heap.size ≤ b) w w3) := Lib.hid ((K1.out _).trans ((k2 _).trans (k3 _)))
  have CL3 := Lib.hid cl3
  have BP3 := Lib.hid bP3
  have B3 := Lib.hid b3
  have hb1 : (b0 : Int) < 4294967296 := by omega
  have hb2 : (0 : Int) ≤ (b0 : Int) := by omega
  clear hw3 k2 k3 nC nL nB nE cl2 cl3 bP3 b3 HM z1
  generalize hPX : w2.heap.size = PX at *
  have hwb : IntKind.u64.wrap (b0 : Int) = (b0 : Int) := by rw [wrap_u64]; omega
  have hBX := fun wx : World => boxed_ b0 wx hb
  rw [← hwb] at hBX
  clear hwb
  have HBX : Hid (∀ wx : World, _) := Lib.hid hBX
  clear hBX
  go_wp2_with fail
  rw [← HW3.out]
  go_wp2_with fail
  go_region_held3 (fun w' => w'.cell? ⟨w.heap.size, 0, none⟩ = some (.int .u64 (c0 : Int)) ∧ w'.cell? ⟨w.heap.size, 1, none⟩ = some (.int .u32 (b0 : Int)))
    (first | exact ⟨m0', m1'⟩ | exact ⟨alloc_cell m0', alloc_cell m1'⟩ | exact ⟨q0, q1⟩ | exact ⟨alloc_cell q0, alloc_cell q1⟩ | exact ⟨alloc_cell (alloc_cell m0'), alloc_cell (alloc_cell m1')⟩ | exact ⟨two_cell q0 hP3, two_cell q1 hP3⟩ | exact ⟨two_cell q0 hP4, two_cell q1 hP4⟩)
    ((first
      | (go_at_call 6; refine (HBX.out _).mono ?_; rintro e wx ⟨rfl, rfl⟩)
      | (go_at_call 5; refine (world_ [c0, 0, box 0 b0] 3 _ 3 _ rfl (by omega) (by first | exact lit3 _ _ _ _ | exact lit3' _ _ _ _ _ | exact fun i z h => alloc_cell (lit3 _ _ _ _ i z h)) (by first | exact lt1 _ _ | exact lt2 _ _ _ | exact lt3 _ _ _)).mono ?_; rintro e ww ⟨A1, c1, A2, c2, rfl, hr, kw⟩; have kg : ∀ S, Keeps S w3 ww := (fun S => by first | exact (((Keeps.refl S w3).alloc _).drew).trans (kw S) | exact ((((Keeps.refl S w3).alloc _).alloc _).drew).trans (kw S)); have q0 := Keeps.cell (kg (fun _ => False)) m0' id; have q1 := Keeps.cell (kg (fun _ => False)) m1' id; (first | (have bX : Blk ww w3.heap.size 36 [.slice none 0 0, .slice none 0 0] := Blk.keeps (((Blk.new w3 36 #[.slice none 0 0, .slice none 0 0]).alloc (.cells #[.int .u64 (c0 : Int), .int .u64 0, .int .u64 ((box 0 b0 : Nat) : Int)] 22)).drew) (kw (fun _ => False)) id; have X0 : ww.cell? ⟨w3.heap.size, 0, none⟩ = some (.slice none 0 0) := (by rw [bX.cell]; rfl); have X1 : ww.cell? ⟨w3.heap.size, 1, none⟩ = some (.slice none 0 0) := (by rw [bX.cell]; rfl); have F0 : ww.frozen? ⟨w3.heap.size, 0, none⟩ = false := bX.frozen 0; have F1 : ww.frozen? ⟨w3.heap.size, 1, none⟩ = false := bX.frozen 1) | (have bX : Blk ww (w3.heap.size + 1) 36 [.slice none 0 0, .slice none 0 0] := Blk.keeps ((by have := (Blk.new (w3.alloc (.cells #[.int .u64 (c0 : Int), .int .u64 0, .int .u64 ((box 0 b0 : Nat) : Int)] 22)) 36 #[.slice none 0 0, .slice none 0 0]).drew; rw [World.size_alloc] at this; exact this)) (kw (fun _ => False)) id; have X0 : ww.cell? ⟨w3.heap.size + 1, 0, none⟩ = some (.slice none 0 0) := (by rw [bX.cell]; rfl); have X1 : ww.cell? ⟨w3.heap.size + 1, 1, none⟩ = some (.slice none 0 0) := (by rw [bX.cell]; rfl); have F0 : ww.frozen? ⟨w3.heap.size + 1, 0, none⟩ = false := bX.frozen 0; have F1 : ww.frozen? ⟨w3.heap.size + 1, 1, none⟩ = false := bX.frozen 1) | skip); have HR := Lib.hid hr; have KG : Hid (∀ S, Keeps S w3 ww) := Lib.hid kg; clear hr kw kg)))
  all_goals
    try (rename_i hheld; clear hheld)
    first
    | (obtain ⟨wst, hwst⟩ : ∃ wst, wst = ww.alloc (.cells #[.slice A1 3 c1, .slice A2 3 c2] 36) := ⟨_, rfl⟩
       obtain ⟨X, hX⟩ : ∃ X, X = ww.heap.size := ⟨_, rfl⟩
       have hs3 := (KG.out (fun _ => False)).size
       have bz : Blk wst X 36 [.slice A1 3 c1, .slice A2 3 c2] := by rw [hwst, hX]; exact Blk.new ww _ _
       have kz : Keeps (fun b => w3.heap.size ≤ b) ww wst := by rw [hwst]; exact (Keeps.refl _ ww).alloc _
       have hz : ∀ w'', Keeps (fun b => b < w3.heap.size ∨ b = X) wst w'' → IsWords w'' w''.heap.size (.slice A1 3 c1) [[c0], [0], [box 0 b0]] ∧ IsLists w'' w''.heap.size (.slice A2 3 c2) 3 := fun w'' kk => HR.out w'' ((show Keeps _ ww wst by rw [hwst]; exact (Keeps.refl _ ww).alloc _).trans (kk.mono (fun b _ z => by simp; omega)))
       have hXn : w3.heap.size ≤ X := by omega
       rw [← hwst]
       try rw [← hX]
       clear hwst hX)
    | (obtain ⟨wst, hwst⟩ : ∃ wst, wst = (ww.setCell ⟨w3.heap.size, 0, none⟩ (.slice A1 3 c1)).setCell ⟨w3.heap.size, 1, none⟩ (.slice A2 3 c2) := ⟨_, rfl⟩
       obtain ⟨X, hX⟩ : ∃ X, X = w3.heap.size := ⟨_, rfl⟩
       have hs3 := (KG.out (fun _ => False)).size
       have bz : Blk wst X 36 [.slice A1 3 c1, .slice A2 3 c2] := by rw [hwst, hX]; simpa using (bX.put 0 (.slice A1 3 c1)).put 1 (.slice A2 3 c2)
       have kz : Keeps (fun b => w3.heap.size ≤ b) ww wst := by rw [hwst]; exact ((Keeps.refl _ ww).setCell (p := ⟨w3.heap.size, 0, none⟩) (.inl (Nat.le_refl _)) _).setCell (p := ⟨w3.heap.size, 1, none⟩) (.inl (Nat.le_refl _)) _
       have hz : ∀ w'', Keeps (fun b => b < w3.heap.size ∨ b = X) wst w'' → IsWords w'' w''.heap.size (.slice A1 3 c1) [[c0], [0], [box 0 b0]] ∧ IsLists w'' w''.heap.size (.slice A2 3 c2) 3 := fun w'' kk => HR.out w'' ((show Keeps _ ww wst by rw [hwst]; exact ((Keeps.refl _ ww).setCell (p := ⟨w3.heap.size, 0, none⟩) (.inl (.inl (by simp; omega))) _).setCell (p := ⟨w3.heap.size, 1, none⟩) (.inl (.inl (by simp; omega))) _).trans (kk.mono (fun b _ z => by simp; omega)))
       have hXn : w3.heap.size ≤ X := by omega
       rw [← hwst]
       try rw [← hX]
       clear hwst hX)
    | (obtain ⟨wst, hwst⟩ : ∃ wst, wst = (ww.setCell ⟨w3.heap.size + 1, 0, none⟩ (.slice A1 3 c1)).setCell ⟨w3.heap.size + 1, 1, none⟩ (.slice A2 3 c2) := ⟨_, rfl⟩
       obtain ⟨X, hX⟩ : ∃ X, X = w3.heap.size + 1 := ⟨_, rfl⟩
       have hs3 := (KG.out (fun _ => False)).size
       have bz : Blk wst X 36 [.slice A1 3 c1, .slice A2 3 c2] := by rw [hwst, hX]; simpa using (bX.put 0 (.slice A1 3 c1)).put 1 (.slice A2 3 c2)
       have kz : Keeps (fun b => w3.heap.size ≤ b) ww wst := by rw [hwst]; exact ((Keeps.refl _ ww).setCell (p := ⟨w3.heap.size + 1, 0, none⟩) (.inl (Nat.le_succ _)) _).setCell (p := ⟨w3.heap.size + 1, 1, none⟩) (.inl (Nat.le_succ _)) _
       have hz : ∀ w'', Keeps (fun b => b < w3.heap.size ∨ b = X) wst w'' → IsWords w'' w''.heap.size (.slice A1 3 c1) [[c0], [0], [box 0 b0]] ∧ IsLists w'' w''.heap.size (.slice A2 3 c2) 3 := fun w'' kk => HR.out w'' ((show Keeps _ ww wst by rw [hwst]; exact ((Keeps.refl _ ww).setCell (p := ⟨w3.heap.size + 1, 0, none⟩) (.inl (.inl (by simp))) _).setCell (p := ⟨w3.heap.size + 1, 1, none⟩) (.inl (.inl (by simp))) _).trans (kk.mono (fun b _ z => by simp; omega)))
       have hXn : w3.heap.size ≤ X := by omega
       rw [← hwst]
       try rw [← hX]
       clear hwst hX)
    -- the loops
    skip
  all_goals
    have hbeg : Rnd w wst [.int .u64 (c0 : Int), .int .u32 (b0 : Int), .slice A m0 cap] C L B w.heap.size PX X c0 0 b0 0 (.slice A1 3 c1) (.slice A2 3 c2) 3 (40 * 0) := by
      have kzz : Keeps (fun b => w3.heap.size ≤ b) w3 wst := ((KG.out _)).trans kz
      have hl3 := CL3.out.lt
      have hn := HN.out
      have h3 := K3.out.size
      exact ⟨⟨E, CL3.out.keeps kzz (by omega) (by omega) (by omega) (by omega)⟩, Blk.keeps BP3.out kzz (by have := BP3.out.lt; omega), Blk.keeps B3.out kzz (by have := B3.out.lt; omega), bz, fun w'' kk => hz w'' (kk.mono (fun b _ z => by omega)), by omega, ⟨HB.out.1, by omega, HB.out.2, by omega⟩, ⟨hn.1, hn.2.1, hn.2.2.1, by omega⟩, K3.out.trans (kzz.mono (fun b _ z => by omega))⟩
    have HBEG := Lib.hid hbeg
    clear hbeg bz kz hz hXn hs3 HR KG q0 q1 m0' m1' hP3 hP4
    try clear bX X0 X1 F0 F1
    go_wp2
    go_loopw [5] (fun i wr => ∃ (k c x v n : Nat) (A1 : Option Addr) (c1 : Nat) (A2 : Option Addr) (c2 m : Nat), k ≤ 40 ∧ i = .int .i64 k ∧ Rnd w wr [.int .u64 (c0 : Int), .int .u32 (b0 : Int), .slice A m0 cap] C L B w.heap.size PX X c x v n (.slice A1 3 c1) (.slice A2 m c2) m (40 * k)) (fun i _ => 41 - (intOf i).toNat)
    case atStart => exact ⟨0, c0, 0, b0, 0, A1, c1, A2, c2, 3, Nat.zero_le _, rfl, HBEG.out⟩
    case round =>
      clear HBEG
      obtain ⟨k, c, x, v, n, A1, c1, A2, c2, m, hk, rfl, hR⟩ := hrel
      have HR := Lib.hid hR
      have pa2 : wr.cell? ⟨w.heap.size, 2, none⟩ = some (.slice A m0 cap) := by rw [hR.arg.cell]; rfl
      have k0 : (0 : Int) ≤ (k : Int) := by omega
      clear hR
      by_cases hkm : k < m0
      case neg =>
        have hkm' : ¬ (k : Int) < (m0 : Int) := by omega
        go_wp2_with fail
        refine (works_ wr).mono ?_
        rintro e we ⟨rfl, ke⟩
        have KE := Lib.hid (HR.out.keep.trans (ke _))
        clear ke
        go_wp2
        try rw [Exit.noGoto_ret]
        go_ret
        exact ⟨rfl, (KE.out.only (fun b z => z)).below⟩
      have hkm' : (k : Int) < (m0 : Int) := by omega
      by_cases hk4 : k < 40
      case neg =>
        have hk4' : ¬ (k : Int) < 40 := by omega
        go_wp2_with fail
        refine (works_ wr).mono ?_
        rintro e we ⟨rfl, ke⟩
        have KE := Lib.hid (HR.out.keep.trans (ke _))
        clear ke
        go_wp2
        try rw [Exit.noGoto_ret]
        go_ret
        exact ⟨rfl, (KE.out.only (fun b z => z)).below⟩
      have hk4' : (k : Int) < 40 := by omega
      obtain ⟨ds, hds⟩ : ∃ ds, xs[k]? = some ds := ⟨_, List.getElem?_eq_getElem (by rw [HX.out.1]; exact hkm)⟩
      obtain ⟨b, o, A', cc, rfl, hbl, hoc, hq⟩ := HX.out.2 k ds hds
      have HOC : Hid (b < w.heap.size ∧ w.cell? ⟨b, o + k, none⟩ = some (.slice A' ds.length cc)) := Lib.hid ⟨hbl, hoc⟩
      have HQ := Lib.hid hq
      clear hds hoc hq
      go_wp2_with fail
      clear pa2
      go_loopw [6] (fun i wr => ∃ (j c x v n : Nat) (A1 : Option Addr) (c1 : Nat) (A2 : Option Addr) (c2 m : Nat), j ≤ 40 ∧ i = .int .i64 j ∧ Rnd w wr [.int .u64 (c0 : Int), .int .u32 (b0 : Int), .slice (some ⟨b, o, none⟩) m0 cap] C L B w.heap.size PX X c x v n (.slice A1 3 c1) (.slice A2 m c2) m (40 * k + j)) (fun i _ => 41 - (intOf i).toNat)
      case atStart => exact ⟨0, c, x, v, n, A1, c1, A2, c2, m, by omega, rfl, HR.out⟩
      case round =>
        clear HR
        obtain ⟨j, c, x, v, n, A1, c1, A2, c2, m, hj, rfl, hR⟩ := hrel
        have HR := Lib.hid hR
        have pa2 : wr.cell? ⟨w.heap.size, 2, none⟩ = some (.slice (some ⟨b, o, none⟩) m0 cap) := by rw [hR.arg.cell]; rfl
        have po : wr.cell? ⟨b, o + k, none⟩ = some (.slice A' ds.length cc) := Keeps.cell hR.keep HOC.out.2 (by omega)
        have j0 : (0 : Int) ≤ (j : Int) := by omega
        clear hR
        by_cases hjl : j < ds.length
        case neg =>
          have hjl' : ¬ (j : Int) < (ds.length : Int) := by omega
          go_wp2_with fail
          go_roundw
          case rel => exact ⟨k + 1, c, x, v, n, A1, c1, A2, c2, m, by omega, by go_num, HR.out.more (by omega)⟩
          case measure => simp [intOf]; omega
        have hjl' : (j : Int) < (ds.length : Int) := by omega
        by_cases hj4 : j < 40
        case neg =>
          have hj4' : ¬ (j : Int) < 40 := by omega
          go_wp2_with fail
          go_roundw
          case rel => exact ⟨k + 1, c, x, v, n, A1, c1, A2, c2, m, by omega, by go_num, HR.out.more (by omega)⟩
          case measure => simp [intOf]; omega
        have hj4' : (j : Int) < 40 := by omega
        obtain ⟨⟨kd, dn, dm, dv⟩, hdj⟩ : ∃ d, ds[j]? = some d := ⟨_, List.getElem?_eq_getElem hjl⟩
        obtain ⟨hok, b2, o2, rfl, hbl2, hcell⟩ := HQ.out j _ hdj
        have g0 := hcell 0 _ rfl
        have g1 := hcell 1 _ rfl
        have g2 := hcell 2 _ rfl
        have g3 := hcell 3 _ rfl
        rw [Nat.add_zero] at g0
        obtain ⟨u1, u2, u3, u4, u5⟩ := hok
        simp only at u1 u2 u3 u4 u5 g0 g1 g2 g3
        obtain ⟨kk, hkk, hkr⟩ : ∃ kk : Nat, kk < 11 ∧ kd % 11 = (kk : Int) := ⟨(kd % 11).toNat, by omega, by omega⟩
        have hfit := HR.out.fit
        obtain ⟨c', x', v', n', told, mk, hS⟩ := step_all kk dn dm dv c x v n hkk u3 u4 u5 hfit.1 hfit.2.1 hfit.2.2.1 (by omega)
        have HS := Lib.hid hS
        have HU : Hid ((-9223372036854775808 ≤ kd ∧ kd < 9223372036854775808) ∧ dn < 18446744073709551616 ∧ dm < 18446744073709551616 ∧ dv < 4294967296 ∧ kk < 11 ∧ kd % 11 = (kk : Int)) := Lib.hid ⟨⟨u1, u2⟩, u3, u4, u5, hkk, hkr⟩
        have HG : Hid (b2 < w.heap.size ∧ w.cell? ⟨b2, o2 + j * 4, none⟩ = some (.int .i64 kd) ∧ w.cell? ⟨b2, o2 + j * 4 + 1, none⟩ = some (.int .u64 (dn : Int)) ∧ w.cell? ⟨b2, o2 + j * 4 + 2, none⟩ = some (.int .u64 (dm : Int)) ∧ w.cell? ⟨b2, o2 + j * 4 + 3, none⟩ = some (.int .u32 (dv : Int))) := Lib.hid ⟨hbl2, g0, g1, g2, g3⟩
        clear u1 u2 u3 u4 u5 hkk hkr hS hdj hcell g0 g1 g2 g3 hfit
        go_wp2_with fail
        refine (new_notes wr).mono ?_
        rintro e wn ⟨rfl, nn, kn⟩
        have hlt := HR.out.lt
        have hap := HR.out.apart
        have hnw := HR.out.new
        obtain ⟨E, hcl⟩ := HR.out.cl
        have kwn : Keeps (fun b => w.heap.size ≤ b) w wn := HR.out.keep.trans (kn _)
        have a0 : wn.cell? ⟨b2, o2 + j * 4, none⟩ = some (.int .i64 kd) := Keeps.cell kwn HG.out.2.1 (by have := HG.out.1; omega)
        have a1 : wn.cell? ⟨b2, o2 + j * 4 + 1, none⟩ = some (.int .u64 (dn : Int)) := Keeps.cell kwn HG.out.2.2.1 (by have := HG.out.1; omega)
        have a2 : wn.cell? ⟨b2, o2 + j * 4 + 2, none⟩ = some (.int .u64 (dm : Int)) := Keeps.cell kwn HG.out.2.2.2.1 (by have := HG.out.1; omega)
        have a3 : wn.cell? ⟨b2, o2 + j * 4 + 3, none⟩ = some (.int .u32 (dv : Int)) := Keeps.cell kwn HG.out.2.2.2.2 (by have := HG.out.1; omega)
        have a4 : wn.cell? ⟨b, o + k, none⟩ = some (.slice (some ⟨b2, o2, none⟩) ds.length cc) := Keeps.cell (kn (fun _ => False)) po id
        have a5 : wn.cell? ⟨w.heap.size, 2, none⟩ = some (.slice (some ⟨b, o, none⟩) m0 cap) := Keeps.cell (kn (fun _ => False)) pa2 id
        have bo := Blk.keeps HR.out.obj (kn (fun _ => False)) id
        have a6 : wn.cell? ⟨PX, 0, none⟩ = some (.pointer (some ⟨C, 0, none⟩)) := by rw [bo.cell]; rfl
        have a7 : wn.cell? ⟨PX, 1, none⟩ = some (.pointer (some ⟨L, 0, none⟩)) := by rw [bo.cell]; rfl
        have a8 : wn.cell? ⟨PX, 2, none⟩ = some (.pointer (some ⟨B, 0, none⟩)) := by rw [bo.cell]; rfl
        have HDN := Lib.hid (HS.out.code C L B E kd (.iface 40 (.pointer (some ⟨wr.heap.size, 0, none⟩))) wn [] (· = wr.heap.size) (hcl.keeps (kn (fun _ => False)) id id id id) (.inr ⟨_, rfl, nn⟩) (by simp) (by omega) (by omega) (by omega) (by have := hcl.lt.2.2.2; omega) (fun b hb => by have := nn.above _ nn.me; omega) HU.out.1 HU.out.2.2.2.2.2)
        have HDD : Hid (Calls Try.prog 8 #[.agg #[.pointer (some ⟨C, 0, none⟩), .pointer (some ⟨L, 0, none⟩), .pointer (some ⟨B, 0, none⟩)], (.iface 40 (.pointer (some ⟨wr.heap.size, 0, none⟩))), .agg #[.int .i64 kd, .int .u64 (dn : Int), .int .u64 (dm : Int), .int .u32 (dv : Int)]] wn.drew fun e w' => DPost C L B c' x' v' n' (.iface 40 (.pointer (some ⟨wr.heap.size, 0, none⟩))) told ([] ++ mk) (· = wr.heap.size) wn.drew e w') := Lib.hid (HS.out.code C L B E kd (.iface 40 (.pointer (some ⟨wr.heap.size, 0, none⟩))) wn.drew [] (· = wr.heap.size) ((hcl.keeps (kn (fun _ => False)) id id id id).keeps ((Keeps.refl (fun _ => False) wn).drew) id id id id) ((Gate.keeps (.inr ⟨_, rfl, nn⟩) ((Keeps.refl (fun _ => False) wn).drew) (fun _ _ z => z))) (by simp) (by omega) (by omega) (by omega) (by have := hcl.lt.2.2.2; omega) (fun b hb => by have := nn.above _ nn.me; show b < wn.heap.size; omega) HU.out.1 HU.out.2.2.2.2.2)
        have KN : Hid (∀ S, Keeps S wr wn) := Lib.hid kn
        have HAP : Hid ((C < wr.heap.size ∧ L < wr.heap.size ∧ B < wr.heap.size ∧ X < wr.heap.size ∧ w.heap.size < wr.heap.size ∧ PX < wr.heap.size) ∧ ((X ≠ C ∧ X ≠ L ∧ X ≠ B) ∧ (w.heap.size ≠ C ∧ w.heap.size ≠ L ∧ w.heap.size ≠ B ∧ w.heap.size ≠ X) ∧ (PX ≠ C ∧ PX ≠ L ∧ PX ≠ B ∧ PX ≠ X)) ∧ (w.heap.size ≤ C ∧ w.heap.size ≤ L ∧ w.heap.size ≤ B ∧ w.heap.size ≤ X) ∧ b < w.heap.size ∧ b2 < w.heap.size) := Lib.hid ⟨hlt, hap, hnw, HOC.out.1, HG.out.1⟩
        clear nn kn hcl kwn bo HDN pa2 po hlt hap hnw
        go_wp2_with fail
        go_region_held3 (fun w' => w'.cell? ⟨b2, o2 + j * 4, none⟩ = some (.int .i64 kd) ∧ w'.cell? ⟨b2, o2 + j * 4 + 1, none⟩ = some (.int .u64 (dn : Int)) ∧ w'.cell? ⟨b2, o2 + j * 4 + 2, none⟩ = some (.int .u64 (dm : Int)) ∧ w'.cell? ⟨b2, o2 + j * 4 + 3, none⟩ = some (.int .u32 (dv : Int)) ∧ w'.cell? ⟨b, o + k, none⟩ = some (.slice (some ⟨b2, o2, none⟩) ds.length cc) ∧ w'.cell? ⟨w.heap.size, 2, none⟩ = some (.slice (some ⟨b, o, none⟩) m0 cap) ∧ w'.cell? ⟨PX, 0, none⟩ = some (.pointer (some ⟨C, 0, none⟩)) ∧ w'.cell? ⟨PX, 1, none⟩ = some (.pointer (some ⟨L, 0, none⟩)) ∧ w'.cell? ⟨PX, 2, none⟩ = some (.pointer (some ⟨B, 0, none⟩)))
          (first | exact ⟨a0, a1, a2, a3, a4, a5, a6, a7, a8⟩ | exact ⟨r0, r1, r2, r3, r4, r5, r6, r7, r8⟩)
          ((go_at_call 8; refine HDD.out.mono ?_; rintro e wa ⟨⟨A0, rfl, bA0, hA0⟩, ⟨E2, F2, cla, hga, hF2, hE2⟩, kwa⟩; have hqq := HAP.out; have kka : Keeps (fun b => b = wr.heap.size ∨ b = C ∨ b = L ∨ b = B) wn wa := ((Keeps.refl _ wn).drew).trans kwa; have r0 : wa.cell? ⟨b2, o2 + j * 4, none⟩ = some (.int .i64 kd) := Keeps.cell kka a0 (by omega); have r1 : wa.cell? ⟨b2, o2 + j * 4 + 1, none⟩ = some (.int .u64 (dn : Int)) := Keeps.cell kka a1 (by omega); have r2 : wa.cell? ⟨b2, o2 + j * 4 + 2, none⟩ = some (.int .u64 (dm : Int)) := Keeps.cell kka a2 (by omega); have r3 : wa.cell? ⟨b2, o2 + j * 4 + 3, none⟩ = some (.int .u32 (dv : Int)) := Keeps.cell kka a3 (by omega); have r4 : wa.cell? ⟨b, o + k, none⟩ = some (.slice (some ⟨b2, o2, none⟩) ds.length cc) := Keeps.cell kka a4 (by omega); have r5 : wa.cell? ⟨w.heap.size, 2, none⟩ = some (.slice (some ⟨b, o, none⟩) m0 cap) := Keeps.cell kka a5 (by omega); have r6 : wa.cell? ⟨PX, 0, none⟩ = some (.pointer (some ⟨C, 0, none⟩)) := Keeps.cell kka a6 (by omega); have r7 : wa.cell? ⟨PX, 1, none⟩ = some (.pointer (some ⟨L, 0, none⟩)) := Keeps.cell kka a7 (by omega); have r8 : wa.cell? ⟨PX, 2, none⟩ = some (.pointer (some ⟨B, 0, none⟩)) := Keeps.cell kka a8 (by omega); have KKA := Lib.hid kka; have CLA := Lib.hid cla; have HGA := Lib.hid hga; have BA0 := Lib.hid bA0; clear hqq kwa kka cla hga bA0 hF2 hE2))
        try (rename_i hheld; clear hheld)
        clear r6 r7 r8 a0 a1 a2 a3 a4 a5 a6 a7 a8 HDD
        have kra : Keeps (fun b => b = C ∨ b = L ∨ b = B) wr wa := ((KN.out _).trans KKA.out).mono (fun b hb z => by rcases z with z | z; exact absurd hb (by omega); exact z)
        have hgn : ∃ F, NInv wa wr.heap.size mk F := by
          rcases HGA.out with z | ⟨N, e, z⟩
          · cases z
          · injection e with _ e
            injection e with e
            injection e with e
            injection e with e
            subst e
            exact ⟨_, by simpa using z⟩
        have bWa := Blk.keeps HR.out.world kra (by have := HAP.out; omega)
        have x0 : wa.cell? ⟨X, 0, none⟩ = some (.slice A1 3 c1) := by rw [bWa.cell]; rfl
        have x1 : wa.cell? ⟨X, 1, none⟩ = some (.slice A2 m c2) := by rw [bWa.cell]; rfl
        have NA := Lib.hid hgn
        have KRA := Lib.hid kra
        have BWA := Lib.hid bWa
        have HRD0 : Hid (∀ w'', Keeps (fun b => b = C ∨ b = L ∨ b = B ∨ b = X) wr w'' → IsWords w'' w''.heap.size (.slice A1 3 c1) [[c], [x], [box n v]] ∧ IsLists w'' w''.heap.size (.slice A2 m c2) m) := Lib.hid HR.out.read
        have HSML : Hid (m < 1000000) := Lib.hid HR.out.small
        have hfit := HR.out.fit
        have hal := fun (wv lv cv dvv : Value) (m : Nat) (w : World) => alone_ (m := m) HS.out wv lv cv dvv w hfit.1 hfit.2.1 (box_lt hfit.2.2.1 (by omega))
        have AL : Hid (∀ (wv lv cv dvv : Value) (m : Nat) (w : World), _) := Lib.hid (fun (wv lv cv dvv : Value) (m : Nat) (w : World) q1 q2 q3 q4 q5 => hal wv lv cv dvv m w q1 q2 q3 q4 q5)
        have HFEW := Lib.hid HS.out.few
        have HFT := Lib.hid HS.out.fit
        clear hgn kra bWa hfit hal HGA
        go_wp2_with fail
        go_region_held3 (fun w' => w'.cell? ⟨b2, o2 + j * 4, none⟩ = some (.int .i64 kd) ∧ w'.cell? ⟨b2, o2 + j * 4 + 1, none⟩ = some (.int .u64 (dn : Int)) ∧ w'.cell? ⟨b2, o2 + j * 4 + 2, none⟩ = some (.int .u64 (dm : Int)) ∧ w'.cell? ⟨b2, o2 + j * 4 + 3, none⟩ = some (.int .u32 (dv : Int)) ∧ w'.cell? ⟨b, o + k, none⟩ = some (.slice (some ⟨b2, o2, none⟩) ds.length cc) ∧ w'.cell? ⟨w.heap.size, 2, none⟩ = some (.slice (some ⟨b, o, none⟩) m0 cap) ∧ w'.cell? ⟨X, 0, none⟩ = some (.slice A1 3 c1) ∧ w'.cell? ⟨X, 1, none⟩ = some (.slice A2 m c2))
          (first | exact ⟨r0, r1, r2, r3, r4, r5, x0, x1⟩ | exact ⟨p0, p1, p2, p3, p4, p5, p6, p7⟩ | exact ⟨alloc_cell r0, alloc_cell r1, alloc_cell r2, alloc_cell r3, alloc_cell r4, alloc_cell r5, alloc_cell x0, alloc_cell x1⟩ | exact ⟨alloc_cell p0, alloc_cell p1, alloc_cell p2, alloc_cell p3, alloc_cell p4, alloc_cell p5, alloc_cell p6, alloc_cell p7⟩ | exact ⟨q0, q1, q2, q3, q4, q5, q6, q7⟩ | exact ⟨alloc_cell q0, alloc_cell q1, alloc_cell q2, alloc_cell q3, alloc_cell q4, alloc_cell q5, alloc_cell q6, alloc_cell q7⟩ | exact ⟨two_cell q0 (Nat.ne_of_lt (Keeps.lt_cell p0)), two_cell q1 (Nat.ne_of_lt (Keeps.lt_cell p1)), two_cell q2 (Nat.ne_of_lt (Keeps.lt_cell p2)), two_cell q3 (Nat.ne_of_lt (Keeps.lt_cell p3)), two_cell q4 (Nat.ne_of_lt (Keeps.lt_cell p4)), two_cell q5 (Nat.ne_of_lt (Keeps.lt_cell p5)), two_cell q6 (Nat.ne_of_lt (Keeps.lt_cell p6)), two_cell q7 (Nat.ne_of_lt (Keeps.lt_cell p7))⟩ | exact ⟨two_cell q0 (Nat.ne_of_lt (Keeps.lt_cell r0)), two_cell q1 (Nat.ne_of_lt (Keeps.lt_cell r1)), two_cell q2 (Nat.ne_of_lt (Keeps.lt_cell r2)), two_cell q3 (Nat.ne_of_lt (Keeps.lt_cell r3)), two_cell q4 (Nat.ne_of_lt (Keeps.lt_cell r4)), two_cell q5 (Nat.ne_of_lt (Keeps.lt_cell r5)), two_cell q6 (Nat.ne_of_lt (Keeps.lt_cell x0)), two_cell q7 (Nat.ne_of_lt (Keeps.lt_cell x1))⟩)
          ((first
            | (go_at_call 10; refine (call_ kk dn dm dv kd _ HU.out.2.2.2.2.1 HU.out.1 HU.out.2.2.2.2.2 HU.out.2.2.2.1).mono ?_; rintro e wg ⟨cv, dvv, rfl, hbld, kg⟩; have p0 : wg.cell? ⟨b2, o2 + j * 4, none⟩ = some (.int .i64 kd) := (by first | exact Keeps.cell (kg (fun _ => False)) (show wa.drew.cell? _ = _ from r0) (fun z => z) | exact Keeps.cell (kg (fun _ => False)) (alloc_cell (show wa.drew.cell? _ = _ from r0)) (fun z => z)); have p1 : wg.cell? ⟨b2, o2 + j * 4 + 1, none⟩ = some (.int .u64 (dn : Int)) := (by first | exact Keeps.cell (kg (fun _ => False)) (show wa.drew.cell? _ = _ from r1) (fun z => z) | exact Keeps.cell (kg (fun _ => False)) (alloc_cell (show wa.drew.cell? _ = _ from r1)) (fun z => z)); have p2 : wg.cell? ⟨b2, o2 + j * 4 + 2, none⟩ = some (.int .u64 (dm : Int)) := (by first | exact Keeps.cell (kg (fun _ => False)) (show wa.drew.cell? _ = _ from r2) (fun z => z) | exact Keeps.cell (kg (fun _ => False)) (alloc_cell (show wa.drew.cell? _ = _ from r2)) (fun z => z)); have p3 : wg.cell? ⟨b2, o2 + j * 4 + 3, none⟩ = some (.int .u32 (dv : Int)) := (by first | exact Keeps.cell (kg (fun _ => False)) (show wa.drew.cell? _ = _ from r3) (fun z => z) | exact Keeps.cell (kg (fun _ => False)) (alloc_cell (show wa.drew.cell? _ = _ from r3)) (fun z => z)); have p4 : wg.cell? ⟨b, o + k, none⟩ = some (.slice (some ⟨b2, o2, none⟩) ds.length cc) := (by first | exact Keeps.cell (kg (fun _ => False)) (show wa.drew.cell? _ = _ from r4) (fun z => z) | exact Keeps.cell (kg (fun _ => False)) (alloc_cell (show wa.drew.cell? _ = _ from r4)) (fun z => z)); have p5 : wg.cell? ⟨w.heap.size, 2, none⟩ = some (.slice (some ⟨b, o, none⟩) m0 cap) := (by first | exact Keeps.cell (kg (fun _ => False)) (show wa.drew.cell? _ = _ from r5) (fun z => z) | exact Keeps.cell (kg (fun _ => False)) (alloc_cell (show wa.drew.cell? _ = _ from r5)) (fun z => z)); have p6 : wg.cell? ⟨X, 0, none⟩ = some (.slice A1 3 c1) := (by first | exact Keeps.cell (kg (fun _ => False)) (show wa.drew.cell? _ = _ from x0) (fun z => z) | exact Keeps.cell (kg (fun _ => False)) (alloc_cell (show wa.drew.cell? _ = _ from x0)) (fun z => z)); have p7 : wg.cell? ⟨X, 1, none⟩ = some (.slice A2 m c2) := (by first | exact Keeps.cell (kg (fun _ => False)) (show wa.drew.cell? _ = _ from x1) (fun z => z) | exact Keeps.cell (kg (fun _ => False)) (alloc_cell (show wa.drew.cell? _ = _ from x1)) (fun z => z)); have HBLD : Hid (∀ w'', Keeps (fun b => b < wa.heap.size) wg w'' → IsCode w'' w''.heap.size cv (codeOf kk dn dm dv) ∧ IsData w'' w''.heap.size dvv []) := Lib.hid (fun w'' kq => hbld w'' (kq.mono (fun b _ z => by first | exact z | exact Nat.lt_of_lt_of_le z (by simp)))); have KG : Hid (∀ S, Keeps S wa wg) := Lib.hid (fun S => (by first | exact ((Keeps.refl S wa).drew).trans (kg S) | exact (((Keeps.refl S wa).drew).alloc _).trans (kg S))); (first | (have bX := Blk.keeps (Blk.new wa.drew 36 #[.slice none 0 0, .slice none 0 0]) (kg (fun _ => False)) (fun z => z)) | skip); clear hbld kg)
            | (go_at_call 9; refine (AL.out (.slice A1 3 c1) (.slice A2 m c2) cv dvv m wg (HRD0.out _ ((KRA.out.mono (fun b _ z => by omega)).trans (KG.out _))).1 (HRD0.out _ ((KRA.out.mono (fun b _ z => by omega)).trans (KG.out _))).2 HSML.out (HBLD.out _ (Keeps.refl _ _)).1 (HBLD.out _ (Keeps.refl _ _)).2).mono ?_; rintro e wl ⟨tA, tc, A1', c1', A2', c2', m', mA, mc, rfl, hm', hrd, kl⟩; have q0 : wl.cell? ⟨b2, o2 + j * 4, none⟩ = some (.int .i64 kd) := (by first | exact Keeps.cell (kl (fun _ => False)) p0 (fun z => z) | exact Keeps.cell (kl (fun _ => False)) (alloc_cell p0) (fun z => z)); have q1 : wl.cell? ⟨b2, o2 + j * 4 + 1, none⟩ = some (.int .u64 (dn : Int)) := (by first | exact Keeps.cell (kl (fun _ => False)) p1 (fun z => z) | exact Keeps.cell (kl (fun _ => False)) (alloc_cell p1) (fun z => z)); have q2 : wl.cell? ⟨b2, o2 + j * 4 + 2, none⟩ = some (.int .u64 (dm : Int)) := (by first | exact Keeps.cell (kl (fun _ => False)) p2 (fun z => z) | exact Keeps.cell (kl (fun _ => False)) (alloc_cell p2) (fun z => z)); have q3 : wl.cell? ⟨b2, o2 + j * 4 + 3, none⟩ = some (.int .u32 (dv : Int)) := (by first | exact Keeps.cell (kl (fun _ => False)) p3 (fun z => z) | exact Keeps.cell (kl (fun _ => False)) (alloc_cell p3) (fun z => z)); have q4 : wl.cell? ⟨b, o + k, none⟩ = some (.slice (some ⟨b2, o2, none⟩) ds.length cc) := (by first | exact Keeps.cell (kl (fun _ => False)) p4 (fun z => z) | exact Keeps.cell (kl (fun _ => False)) (alloc_cell p4) (fun z => z)); have q5 : wl.cell? ⟨w.heap.size, 2, none⟩ = some (.slice (some ⟨b, o, none⟩) m0 cap) := (by first | exact Keeps.cell (kl (fun _ => False)) p5 (fun z => z) | exact Keeps.cell (kl (fun _ => False)) (alloc_cell p5) (fun z => z)); have q6 : wl.cell? ⟨X, 0, none⟩ = some (.slice A1 3 c1) := (by first | exact Keeps.cell (kl (fun _ => False)) p6 (fun z => z) | exact Keeps.cell (kl (fun _ => False)) (alloc_cell p6) (fun z => z)); have q7 : wl.cell? ⟨X, 1, none⟩ = some (.slice A2 m c2) := (by first | exact Keeps.cell (kl (fun _ => False)) p7 (fun z => z) | exact Keeps.cell (kl (fun _ => False)) (alloc_cell p7) (fun z => z)); have HM' : Hid (m' < 1000000) := Lib.hid hm'; (first | (have bY := Blk.keeps bX (kl (fun _ => False)) (fun z => z); have X0 : wl.cell? ⟨wa.heap.size, 0, none⟩ = some (.slice none 0 0) := ((show wl.cell? ⟨wa.drew.heap.size, 0, none⟩ = _ from by rw [bY.cell]; rfl)); have X1 : wl.cell? ⟨wa.heap.size, 1, none⟩ = some (.slice none 0 0) := ((show wl.cell? ⟨wa.drew.heap.size, 1, none⟩ = _ from by rw [bY.cell]; rfl)); have F0 : wl.frozen? ⟨wa.heap.size, 0, none⟩ = false := bY.frozen 0; have F1 : wl.frozen? ⟨wa.heap.size, 1, none⟩ = false := bY.frozen 1) | (have bY := Blk.keeps (Blk.new wg 36 #[.slice none 0 0, .slice none 0 0]) (kl (fun _ => False)) (fun z => z); have X0 : wl.cell? ⟨wg.heap.size, 0, none⟩ = some (.slice none 0 0) := (by rw [bY.cell]; rfl); have X1 : wl.cell? ⟨wg.heap.size, 1, none⟩ = some (.slice none 0 0) := (by rw [bY.cell]; rfl); have F0 : wl.frozen? ⟨wg.heap.size, 0, none⟩ = false := bY.frozen 0; have F1 : wl.frozen? ⟨wg.heap.size, 1, none⟩ = false := bY.frozen 1) | skip); have HRD := Lib.hid hrd; have KL := Lib.hid kl; clear hm' hrd kl)
            | (go_at_call 9; refine (AL.out (.slice A1 3 c1) (.slice A2 m c2) cv dvv m (wg.alloc _) (HRD0.out _ (((KRA.out.mono (fun b _ z => by omega)).trans (KG.out _)).alloc _)).1 (HRD0.out _ (((KRA.out.mono (fun b _ z => by omega)).trans (KG.out _)).alloc _)).2 HSML.out (HBLD.out _ ((Keeps.refl _ wg).alloc _)).1 (HBLD.out _ ((Keeps.refl _ wg).alloc _)).2).mono ?_; rintro e wl ⟨tA, tc, A1', c1', A2', c2', m', mA, mc, rfl, hm', hrd, kl⟩; have q0 : wl.cell? ⟨b2, o2 + j * 4, none⟩ = some (.int .i64 kd) := (by first | exact Keeps.cell (kl (fun _ => False)) p0 (fun z => z) | exact Keeps.cell (kl (fun _ => False)) (alloc_cell p0) (fun z => z)); have q1 : wl.cell? ⟨b2, o2 + j * 4 + 1, none⟩ = some (.int .u64 (dn : Int)) := (by first | exact Keeps.cell (kl (fun _ => False)) p1 (fun z => z) | exact Keeps.cell (kl (fun _ => False)) (alloc_cell p1) (fun z => z)); have q2 : wl.cell? ⟨b2, o2 + j * 4 + 2, none⟩ = some (.int .u64 (dm : Int)) := (by first | exact Keeps.cell (kl (fun _ => False)) p2 (fun z => z) | exact Keeps.cell (kl (fun _ => False)) (alloc_cell p2) (fun z => z)); have q3 : wl.cell? ⟨b2, o2 + j * 4 + 3, none⟩ = some (.int .u32 (dv : Int)) := (by first | exact Keeps.cell (kl (fun _ => False)) p3 (fun z => z) | exact Keeps.cell (kl (fun _ => False)) (alloc_cell p3) (fun z => z)); have q4 : wl.cell? ⟨b, o + k, none⟩ = some (.slice (some ⟨b2, o2, none⟩) ds.length cc) := (by first | exact Keeps.cell (kl (fun _ => False)) p4 (fun z => z) | exact Keeps.cell (kl (fun _ => False)) (alloc_cell p4) (fun z => z)); have q5 : wl.cell? ⟨w.heap.size, 2, none⟩ = some (.slice (some ⟨b, o, none⟩) m0 cap) := (by first | exact Keeps.cell (kl (fun _ => False)) p5 (fun z => z) | exact Keeps.cell (kl (fun _ => False)) (alloc_cell p5) (fun z => z)); have q6 : wl.cell? ⟨X, 0, none⟩ = some (.slice A1 3 c1) := (by first | exact Keeps.cell (kl (fun _ => False)) p6 (fun z => z) | exact Keeps.cell (kl (fun _ => False)) (alloc_cell p6) (fun z => z)); have q7 : wl.cell? ⟨X, 1, none⟩ = some (.slice A2 m c2) := (by first | exact Keeps.cell (kl (fun _ => False)) p7 (fun z => z) | exact Keeps.cell (kl (fun _ => False)) (alloc_cell p7) (fun z => z)); have HM' : Hid (m' < 1000000) := Lib.hid hm'; (first | (have bY := Blk.keeps bX (kl (fun _ => False)) (fun z => z); have X0 : wl.cell? ⟨wa.heap.size, 0, none⟩ = some (.slice none 0 0) := ((show wl.cell? ⟨wa.drew.heap.size, 0, none⟩ = _ from by rw [bY.cell]; rfl)); have X1 : wl.cell? ⟨wa.heap.size, 1, none⟩ = some (.slice none 0 0) := ((show wl.cell? ⟨wa.drew.heap.size, 1, none⟩ = _ from by rw [bY.cell]; rfl)); have F0 : wl.frozen? ⟨wa.heap.size, 0, none⟩ = false := bY.frozen 0; have F1 : wl.frozen? ⟨wa.heap.size, 1, none⟩ = false := bY.frozen 1) | (have bY := Blk.keeps (Blk.new wg 36 #[.slice none 0 0, .slice none 0 0]) (kl (fun _ => False)) (fun z => z); have X0 : wl.cell? ⟨wg.heap.size, 0, none⟩ = some (.slice none 0 0) := (by rw [bY.cell]; rfl); have X1 : wl.cell? ⟨wg.heap.size, 1, none⟩ = some (.slice none 0 0) := (by rw [bY.cell]; rfl); have F0 : wl.frozen? ⟨wg.heap.size, 0, none⟩ = false := bY.frozen 0; have F1 : wl.frozen? ⟨wg.heap.size, 1, none⟩ = false := bY.frozen 1) | skip); have HRD := Lib.hid hrd; have KL := Lib.hid kl; clear hm' hrd kl)))
        all_goals
          try (rename_i hheld; clear hheld)
          first
          | (obtain ⟨wz, hwz⟩ : ∃ wz, wz = wl.alloc (.cells #[.slice A1' 3 c1', .slice A2' m' c2'] 36) := ⟨_, rfl⟩
             have hsz : wr.heap.size ≤ wg.heap.size := Nat.le_trans KRA.out.size (KG.out (fun _ => False)).size
             have hsa : wa.heap.size ≤ wg.heap.size := (KG.out (fun _ => False)).size
             have hsr : wr.heap.size ≤ wa.heap.size := KRA.out.size
             obtain ⟨Y, hY⟩ : ∃ Y, Y = wl.heap.size := ⟨_, rfl⟩
             have bz : Blk wz Y 36 [.slice A1' 3 c1', .slice A2' m' c2'] := by rw [hwz, hY]; exact Blk.new wl _ _
             have kz : ∀ S, Keeps S wa wz := fun S => by rw [hwz]; exact (((KG.out S).trans (KL.out S))).alloc _
             have hz : (∀ w'', Keeps (fun b => b < wr.heap.size) wz w'' → IsData w'' w''.heap.size (.slice tA told.length tc) told ∧ IsWords w'' w''.heap.size (.slice A1' 3 c1') [[c'], [x'], [box n' v']] ∧ IsLists w'' w''.heap.size (.slice A2' m' c2') m' ∧ IsMarks w'' w''.heap.size (.slice mA mk.length mc) mk) := fun w'' kq => HRD.out w'' ((show Keeps _ wl wz by rw [hwz]; exact (Keeps.refl _ wl).alloc _).trans (kq.mono (fun b _ z => by omega)))
             rw [← hwz, ← hY]
             have BZ := Lib.hid bz
             have KZ : Hid (∀ S, Keeps S wa wz) := Lib.hid kz
             have HZ : Hid (∀ w'', Keeps (fun b => b < wr.heap.size) wz w'' → IsData w'' w''.heap.size (.slice tA told.length tc) told ∧ IsWords w'' w''.heap.size (.slice A1' 3 c1') [[c'], [x'], [box n' v']] ∧ IsLists w'' w''.heap.size (.slice A2' m' c2') m' ∧ IsMarks w'' w''.heap.size (.slice mA mk.length mc) mk) := Lib.hid hz
             clear hwz hY bz kz hz hsz hsa hsr)
          | (obtain ⟨wz, hwz⟩ : ∃ wz, wz = (wl.setCell ⟨wg.heap.size, 0, none⟩ (.slice A1' 3 c1')).setCell ⟨wg.heap.size, 1, none⟩ (.slice A2' m' c2') := ⟨_, rfl⟩
             have hsz : wr.heap.size ≤ wg.heap.size := Nat.le_trans KRA.out.size (KG.out (fun _ => False)).size
             have hsa : wa.heap.size ≤ wg.heap.size := (KG.out (fun _ => False)).size
             have hsr : wr.heap.size ≤ wa.heap.size := KRA.out.size
             obtain ⟨Y, hY⟩ : ∃ Y, Y = wg.heap.size := ⟨_, rfl⟩
             have bz : Blk wz Y 36 [.slice A1' 3 c1', .slice A2' m' c2'] := by rw [hwz, hY]; simpa using (bY.put 0 (.slice A1' 3 c1')).put 1 (.slice A2' m' c2')
             have kz : ∀ S, Keeps S wa wz := fun S => by rw [hwz]; exact (((((KG.out S).alloc _).trans (KL.out S))).setCell (.inr hsa) _).setCell (.inr hsa) _
             have hz : (∀ w'', Keeps (fun b => b < wr.heap.size) wz w'' → IsData w'' w''.heap.size (.slice tA told.length tc) told ∧ IsWords w'' w''.heap.size (.slice A1' 3 c1') [[c'], [x'], [box n' v']] ∧ IsLists w'' w''.heap.size (.slice A2' m' c2') m' ∧ IsMarks w'' w''.heap.size (.slice mA mk.length mc) mk) := fun w'' kq => HRD.out w'' ((show Keeps _ wl wz by rw [hwz]; exact ((Keeps.refl _ wl).setCell (.inl (show wg.heap.size < (wg.alloc _).heap.size by simp)) _).setCell (.inl (show wg.heap.size < (wg.alloc _).heap.size by simp)) _).trans (kq.mono (fun b _ z => by show b < (wg.alloc _).heap.size; rw [World.size_alloc]; omega)))
             rw [← hwz, ← hY]
             have BZ := Lib.hid bz
             have KZ : Hid (∀ S, Keeps S wa wz) := Lib.hid kz
             have HZ : Hid (∀ w'', Keeps (fun b => b < wr.heap.size) wz w'' → IsData w'' w''.heap.size (.slice tA told.length tc) told ∧ IsWords w'' w''.heap.size (.slice A1' 3 c1') [[c'], [x'], [box n' v']] ∧ IsLists w'' w''.heap.size (.slice A2' m' c2') m' ∧ IsMarks w'' w''.heap.size (.slice mA mk.length mc) mk) := Lib.hid hz
             clear hwz hY bz kz hz hsz hsa hsr)
          | (obtain ⟨wz, hwz⟩ : ∃ wz, wz = (wl.setCell ⟨wa.heap.size, 0, none⟩ (.slice A1' 3 c1')).setCell ⟨wa.heap.size, 1, none⟩ (.slice A2' m' c2') := ⟨_, rfl⟩
             have hsz : wr.heap.size ≤ wg.heap.size := Nat.le_trans KRA.out.size (KG.out (fun _ => False)).size
             have hsa : wa.heap.size ≤ wg.heap.size := (KG.out (fun _ => False)).size
             have hsr : wr.heap.size ≤ wa.heap.size := KRA.out.size
             obtain ⟨Y, hY⟩ : ∃ Y, Y = wa.heap.size := ⟨_, rfl⟩
             have bz : Blk wz Y 36 [.slice A1' 3 c1', .slice A2' m' c2'] := by rw [hwz, hY]; simpa using (bY.put 0 (.slice A1' 3 c1')).put 1 (.slice A2' m' c2')
             have kz : ∀ S, Keeps S wa wz := fun S => by rw [hwz]; exact ((((KG.out S).trans (KL.out S))).setCell (.inr (Nat.le_refl wa.heap.size)) _).setCell (.inr (Nat.le_refl wa.heap.size)) _
             have hz : (∀ w'', Keeps (fun b => b < wr.heap.size) wz w'' → IsData w'' w''.heap.size (.slice tA told.length tc) told ∧ IsWords w'' w''.heap.size (.slice A1' 3 c1') [[c'], [x'], [box n' v']] ∧ IsLists w'' w''.heap.size (.slice A2' m' c2') m' ∧ IsMarks w'' w''.heap.size (.slice mA mk.length mc) mk) := fun w'' kq => HRD.out w'' ((show Keeps _ wl wz by rw [hwz]; exact ((Keeps.refl _ wl).setCell (.inl bX.lt) _).setCell (.inl bX.lt) _).trans (kq.mono (fun b _ z => by show b < wg.heap.size; omega)))
             rw [← hwz, ← hY]
             have BZ := Lib.hid bz
             have KZ : Hid (∀ S, Keeps S wa wz) := Lib.hid kz
             have HZ : Hid (∀ w'', Keeps (fun b => b < wr.heap.size) wz w'' → IsData w'' w''.heap.size (.slice tA told.length tc) told ∧ IsWords w'' w''.heap.size (.slice A1' 3 c1') [[c'], [x'], [box n' v']] ∧ IsLists w'' w''.heap.size (.slice A2' m' c2') m' ∧ IsMarks w'' w''.heap.size (.slice mA mk.length mc) mk) := Lib.hid hz
             clear hwz hY bz kz hz hsz hsa hsr)
          obtain ⟨F', hna⟩ := NA.out
          have nz := hna.keeps (KZ.out (fun _ => False)) (fun _ _ z => z)
          obtain ⟨A8, cap8, e8, rd8⟩ := (HZ.out wz (Keeps.refl _ _)).1
          injection e8 with e81 e82 e83
          subst e81
          have rd9 := (Blk.keeps BA0.out (KZ.out (fun _ => False)) id).rd
          have HSW := Lib.hid (same_words (some ⟨A0, 0, none⟩) tA told told.length told.length tc _ _ wz rfl (by have := HFEW.out.1; omega) rd9 rd8)
          have NZ := Lib.hid nz
          clear rd8 rd9 e82 e83 nz hna
          go_wp2_with fail
          refine HSW.out.mono ?_
          rintro e w' ⟨rfl, dd, rfl⟩
          have HMM := Lib.hid (marks_notes wr.heap.size (wz.drewN dd) mk F' (NZ.out.keeps (Keeps.of_drew _ _) (fun _ _ z => z)) (by have := HFEW.out.2.1; omega) HFEW.out.2.2)
          go_wp2_with fail
          refine HMM.out.mono ?_
          rintro e wm ⟨A7, c7, rfl, im, km⟩
          have kzm : ∀ S, Keeps S wz wm := fun S => (Keeps.of_drew _ _).trans (km S)
          obtain ⟨A5, cap5, e5, rd5⟩ := (HZ.out wm (kzm _)).2.2.2
          injection e5 with e51 e52 e53
          subst e51
          obtain ⟨A6, cap6, e6, rd6⟩ := im
          injection e6 with e61 e62 e63
          subst e61
          have HSM := Lib.hid (same_marks A7 mA mk mk.length c7 mc _ _ wm rfl (by have := HFEW.out.2.1; omega) rd6 rd5)
          have KZM : Hid (∀ S, Keeps S wz wm) := Lib.hid kzm
          clear kzm rd5 rd6 e52 e53 e62 e63 km
          go_wp2_with fail
          refine HSM.out.mono ?_
          rintro e w' ⟨rfl, de, rfl⟩
          obtain ⟨wk, hwk⟩ : ∃ wk, wk = wm.drewN de := ⟨_, rfl⟩
          have kq : ∀ S, Keeps S wz wk := fun S => by rw [hwk]; exact (KZM.out S).trans (Keeps.of_drew _ _)
          have bk := Blk.keeps BZ.out (kq (fun _ => False)) (fun z => z)
          have bW := Blk.keeps (Blk.keeps BWA.out (KZ.out (fun _ => False)) (fun z => z)) (kq (fun _ => False)) (fun z => z)
          have xx0 : wk.cell? ⟨Y, 0, none⟩ = some (.slice A1' 3 c1') := by rw [bk.cell]; rfl
          have xx1 : wk.cell? ⟨Y, 1, none⟩ = some (.slice A2' m' c2') := by rw [bk.cell]; rfl
          have ww0 : wk.cell? ⟨X, 0, none⟩ = some (.slice A1 3 c1) := by rw [bW.cell]; rfl
          have ww1 : wk.cell? ⟨X, 1, none⟩ = some (.slice A2 m c2) := by rw [bW.cell]; rfl
          have fw0 := bW.frozen 0
          have fw1 := bW.frozen 1
          have KQ : Hid (∀ S, Keeps S wz wk) := Lib.hid kq
          have BW := Lib.hid bW
          clear kq bk bW
          rw [← hwk]
          clear hwk
          go_wp2_with fail
          go_roundw
          case rel => exact ⟨j + 1, c', x', v', n', A1', c1', A2', c2', m', by omega, by go_num, round_end HR.out CLA.out KRA.out KZ.out KQ.out BW.out (fun w'' kw => ⟨(HZ.out w'' kw).2.1, (HZ.out w'' kw).2.2.1⟩) HM'.out HFT.out⟩
          case measure => simp [intOf]; omega
end Go.Proofs.Ytakpfkfhbeobeaa.ce
