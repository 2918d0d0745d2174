/-
  tally's laws: few.
-/
import Derived.Test.YtekglcphdjjmcaaOcGrid
import Derived.Test.YtekglcphdjjmcaaOcQue
import Derived.Test.YtekglcphdjjmcaaMzBase
import Derived.Test.YtekglcphdjjmcaaMzK2
import Derived.IntWalk
import Derived.WalkLawsBesides
import Derived.Outline
import Derived.Lib.Hide
set_option linter.unusedVariables false
namespace Go.Proofs.Ytekglcphdjjmcaa.tj
open Go.RowKit Go.Proofs.Ytekglcphdjjmcaa.oc Go.Proofs.Ytekglcphdjjmcaa.mz
/-- the slice A of length n shows the rows, in blocks below B -/
def Gr (w : World) (B : Nat) (A : Option Addr) (n : Nat) (rows : List (List Nat)) : Prop := rows.length = n ∧ ∀ i x, rows[i]? = some x → (∀ y ∈ x, y < 18446744073709551616) ∧ ∃ b o A' c', A = some ⟨b, o, none⟩ ∧ b < B ∧ w.cell? ⟨b, o + i, none⟩ = some (.slice A' x.length c') ∧ x.length ≤ c' ∧ Rd w B A' (u64s x)
theorem Gr.keeps {w w' : World} {B n : Nat} {A : Option Addr} {rows : List (List Nat)} {S : Nat → Prop} (h : Gr w B A n rows) (k : Keeps S w w') (hs : ∀ b, b < B → ¬ S b) : Gr w' B A n rows :=
  ⟨h.1, fun i x hx => by
    obtain ⟨h1, b, o, A', c', h2, h3, h4, h5, h6⟩ := h.2 i x hx
    refine ⟨h1, b, o, A', c', h2, h3, k.cell h4 (hs b h3), h5, fun j v hv => ?_⟩
    obtain ⟨b2, o2, g1, g2, g3⟩ := h6 j v hv
    exact ⟨b2, o2, g1, g2, k.cell g3 (hs b2 g2)⟩⟩
theorem gr_of_grid {w : World} {A : Option Addr} {n : Nat} {rows : List (List Nat)} (h : IsGrid .u64 18446744073709551616 w A n rows) : Gr w w.heap.size A n rows :=
  ⟨h.1, fun i x hx => by
    obtain ⟨b, o, A', c', h1, h2, h3, h4⟩ := h.2 i x hx
    exact ⟨h4.2.2.1, b, o, A', c', h1, h2, h3, h4.2.1, h4.2.2.2⟩⟩
/-- the rows that few takes -/
def cutR (rows : List (List Nat)) : List (List Nat) := (rows.take 6).map (fun r => r.take 40)
def fewR (rows : List (List Nat)) : List (List Nat) := if rows.length = 0 then [[1]] else cutR rows
/-- the headers hs are those of the rows -/
def Hd (w : World) (B : Nat) (hs : List Value) (rows : List (List Nat)) : Prop := hs.length = rows.length ∧ ∀ (i : Nat) (x : List Nat), rows[i]? = some x → ∃ A' c', hs[i]? = some (.slice A' x.length c') ∧ x.length ≤ c' ∧ Rd w B A' (u64s x)
theorem hd_info : (Try.prog.info? 29).map (fun i => (i.zero, i.size, i.bytes)) = some (some (.slice none 0 0), 1, 24) := by kernel_rfl
theorem Hd.snoc {w : World} {B : Nat} {hs : List Value} {rows : List (List Nat)} {x : List Nat} {A' : Option Addr} {c' : Nat} (h : Hd w B hs rows) (h1 : x.length ≤ c') (h2 : Rd w B A' (u64s x)) : Hd w B (hs ++ [.slice A' x.length c']) (rows ++ [x]) :=
  ⟨by simp [h.1], fun i y hy => by
    rcases Nat.lt_or_ge i rows.length with q | q
    · rw [List.getElem?_append_left q] at hy
      obtain ⟨A2, c2, g1, g2, g3⟩ := h.2 i y hy
      exact ⟨A2, c2, by rw [List.getElem?_append_left (by rw [h.1]; exact q)]; exact g1, g2, g3⟩
    · rw [List.getElem?_append_right q] at hy
      have e : i - rows.length = 0 := by
        rcases Nat.eq_zero_or_pos (i - rows.length) with z | z
        · exact z
        · rw [List.getElem?_eq_none (by simp; omega)] at hy; cases hy
      rw [e] at hy
      simp at hy
      subst hy
      refine ⟨A', c', ?_, h1, h2⟩
      rw [List.getElem?_append_right (by rw [h.1]; exact q), h.1, e]
      rfl⟩
theorem Rd.keeps {w w' : World} {B : Nat} {A : Option Addr} {xs : List Value} {S : Nat → Prop} (h : Rd w B A xs) (k : Keeps S w w') (hs : ∀ b, b < B → ¬ S b) : Rd w' B A xs := fun j v hv => by
  obtain ⟨b, o, h1, h2, h3⟩ := h j v hv
  exact ⟨b, o, h1, h2, k.cell h3 (hs b h2)⟩
theorem Rd.wider {w : World} {B B' : Nat} {A : Option Addr} {xs : List Value} (h : Rd w B A xs) (hb : B ≤ B') : Rd w B' A xs := fun j v hv => by
  obtain ⟨b, o, h1, h2, h3⟩ := h j v hv
  exact ⟨b, o, h1, by omega, h3⟩
theorem Gr.of_que {w : World} {base B : Nat} {v : Value} {hs : List Value} {rows : List (List Nat)} (hq : Que w base 29 v hs) (hh : Hd w B hs rows) (hB : B ≤ w.heap.size) (h64 : ∀ x ∈ rows, ∀ y ∈ x, y < 18446744073709551616) : ∃ A c, v = .slice A rows.length c ∧ Gr w w.heap.size A rows.length rows := by
  rcases hq with ⟨rfl, rfl⟩ | ⟨g, off, cap, cs, rfl, _, hb, _, _, hc⟩
  · have : rows.length = 0 := by rw [← hh.1]; rfl
    have : rows = [] := List.eq_nil_of_length_eq_zero this
    subst this
    exact ⟨none, 0, rfl, rfl, fun i x hx => by simp at hx⟩
  · refine ⟨_, _, by rw [hh.1], rfl, fun i x hx => ?_⟩
    obtain ⟨A', c', g1, g2, g3⟩ := hh.2 i x hx
    refine ⟨h64 x (List.mem_of_getElem? hx), g, off, A', c', rfl, hb.lt, ?_, g2, Rd.wider g3 hB⟩
    rw [hb.cell]
    exact hc i _ g1
theorem Hd.keeps {w w' : World} {B : Nat} {hs : List Value} {rows : List (List Nat)} {S : Nat → Prop} (h : Hd w B hs rows) (k : Keeps S w w') (hS : ∀ b, b < B → ¬ S b) : Hd w' B hs rows :=
  ⟨h.1, fun i x hx => by
    obtain ⟨A', c', g1, g2, g3⟩ := h.2 i x hx
    exact ⟨A', c', g1, g2, Rd.keeps g3 k hS⟩⟩
theorem Rd.pre {w : World} {B m : Nat} {A : Option Addr} {x : List Nat} (h : Rd w B A (u64s x)) : Rd w B A (u64s (x.take m)) := fun j v hv => h j v (by
  rw [show u64s (x.take m) = (u64s x).take m from by simp [u64s], List.getElem?_take] at hv
  split at hv
  · exact hv
  · cases hv)
/-- what the loop's head finds -/
def FewR (w : World) (B : Nat) (rows : List (List Nat)) (i v : Value) (wr : World) : Prop := ∃ (k : Nat) (hs : List Value), k ≤ rows.length ∧ k ≤ 6 ∧ i = .int .i64 (k : Int) ∧ Que wr w.heap.size 29 v hs ∧ Hd wr B hs ((rows.take k).map (fun r => r.take 40)) ∧ ∀ S, Keeps S w wr
/-- what few answers -/
def FewPost (w : World) (rows : List (List Nat)) (e : Ending) (w' : World) : Prop := ∃ A' c', e = .returned (.slice A' (fewR rows).length c') ∧ Gr w' w'.heap.size A' (fewR rows).length (fewR rows) ∧ ∀ S, Keeps S w w'
/-- a round: a header more -/
theorem FewR.next {w wr w' : World} {rows : List (List Nat)} {k : Nat} {hs : List Value} {v v' : Value} {x : List Nat} {A' : Option Addr} {c' : Nat} {o : Obj} (hx : rows[k]? = some x) (hk6 : k < 6) (hq : Que wr w.heap.size 29 v hs) (hh : Hd wr w.heap.size hs ((rows.take k).map (fun r => r.take 40))) (hkk : ∀ S, Keeps S w wr)
    (h1 : (x.take 40).length ≤ c') (h2 : Rd wr w.heap.size A' (u64s (x.take 40))) (q1 : Que w' w.heap.size 29 v' (hs ++ [.slice A' (x.take 40).length c'])) (q2 : (wr.alloc o).grownBy w' v.ownBlock) : FewR w w.heap.size rows (.int .i64 ((k + 1 : Nat) : Int)) v' w' := by
  have kk : Keeps (fun b => v.ownBlock = some b) wr w' := ((Keeps.refl _ wr).alloc o).trans (Keeps.of_grown q2)
  have hb : ∀ b, b < w.heap.size → ¬ v.ownBlock = some b := fun b hb e => by have := (hq.lt e).1; omega
  have hk : k < rows.length := (List.getElem?_eq_some_iff.1 hx).1
  refine ⟨k + 1, _, by omega, by omega, rfl, q1, ?_, fun S => ⟨Nat.le_trans (hkk S).size kk.size, fun b hb' hs' => ?_, (hkk S).same.trans kk.same⟩⟩
  · have e : (rows.take (k + 1)).map (fun r => r.take 40) = (rows.take k).map (fun r => r.take 40) ++ [x.take 40] := by
      rw [List.take_add_one, hx, List.map_append]; rfl
    rw [e]
    exact (hh.keeps kk hb).snoc h1 (Rd.keeps h2 kk hb)
  · rw [kk.block b (by have := (hkk (fun _ => False)).size; omega) (hb b hb'), (hkk (fun _ => False)).block b hb' (fun z => z)]
set_option maxRecDepth 100000 in
set_option maxHeartbeats 4000000 in
theorem few_ (A : Option Addr) (n c : Nat) (rows : List (List Nat)) (w : World) (h : Gr w w.heap.size A n rows) (hn : n < 1000000000000000000) :
    Calls Try.prog 17 #[.slice A n c, .int .i64 40] w (FewPost w rows) := by
  obtain ⟨i0, hi0, hi1⟩ := Option.map_eq_some_iff.1 hd_info
  simp only [Prod.mk.injEq] at hi1
  obtain ⟨hz0, hz1, hz2⟩ := hi1
  have HI := Lib.hid (show Try.prog.info? 29 = some i0 ∧ i0.zero = some (.slice none 0 0) ∧ i0.size = 1 ∧ i0.bytes = 24 from ⟨hi0, hz0, hz1, hz2⟩)
  have HH := Lib.hid h
  have hn0 : (0 : Int) ≤ (n : Int) := by omega
  have hn1 : (n : Int) < 1000000000000000000 := by omega
  clear h hi0 hz0 hz1 hz2 hn
  go_enter Try.func17, Try.ntmps17
  go_wp2_with fail
  go_loopw [6, 5] (FewR w w.heap.size rows) (fun i _ _ => 6 - (intOf i).toNat)
  case atStart => exact ⟨0, [], Nat.zero_le _, by omega, rfl, Que.nil_ _ _ _, ⟨rfl, fun i x hx => by simp at hx⟩, fun S => Keeps.refl S w⟩
  case round =>
    obtain ⟨k, hs, hk, hk6, rfl, hq, hh, hkk⟩ := hrel
    have HQ := Lib.hid hq
    have HHD := Lib.hid hh
    have HK : Hid (∀ S, Keeps S w wr) := Lib.hid hkk
    have k0 : (0 : Int) ≤ (k : Int) := by omega
    have HKN := Lib.hid (show k ≤ n from by rw [← HH.out.1]; exact hk)
    clear hq hh hkk
    by_cases hlt : k < n
    · have hlt' : (k : Int) < (n : Int) := by omega
      by_cases h6 : k < 6
      · have h6' : (k : Int) < 6 := by omega
        obtain ⟨x, hx⟩ : ∃ x, rows[k]? = some x := ⟨_, List.getElem?_eq_getElem (by rw [HH.out.1]; exact hlt)⟩
        obtain ⟨x64, b, o, A', c', rfl, hb, hc, hxc, hrd⟩ := (HH.out.keeps (HK.out (fun _ => False)) (fun _ _ z => z)).2 k x hx
        have HX := Lib.hid (And.intro hx (And.intro hxc hrd))
        have HCELL : Hid (∀ (A0 : Option Addr) (n0 c0 : Nat), (wr.alloc (.cells #[.slice A0 n0 c0] 29)).cell? ⟨wr.heap.size, 0, none⟩ = some (.slice A0 n0 c0)) := Lib.hid (fun A0 n0 c0 => by rw [(Blk.new wr 29 #[.slice A0 n0 c0]).cell]; rfl)
        have hsl : hs.length ≤ 6 := by rw [HHD.out.1, List.length_map, List.length_take]; omega
        have HLEN : Hid (hs.length + 1 ≤ maxLen ∧ (hs.length + 1) * 24 ≤ 140737488355328) := Lib.hid ⟨by unfold maxLen; omega, by omega⟩
        have HLEN2 : Hid (∀ o, w.heap.size ≤ (wr.alloc o).heap.size) := Lib.hid (fun o => Nat.le_trans (HK.out (fun _ => False)).size (Nat.le_of_lt (size_alloc wr o)))
        have HK6 := Lib.hid h6
        clear hsl h6
        by_cases hlong : 40 < x.length
        · have hlong' : (40 : Int) < (x.length : Int) := by omega
          have hcap : (40 : Int) ≤ (c' : Int) := by omega
          obtain ⟨b1, o1, rfl⟩ : ∃ b1 o1, A' = some ⟨b1, o1, none⟩ := by
            obtain ⟨u, hu⟩ : ∃ u, (u64s x)[0]? = some u := ⟨_, List.getElem?_eq_getElem (by rw [u64s, List.length_map]; omega)⟩
            obtain ⟨b1, o1, e, _⟩ := hrd 0 u hu
            exact ⟨b1, o1, e⟩
          have HCAP : Hid (40 ≤ c') := Lib.hid (by omega)
          have HL40 : Hid ((x.take 40).length = 40) := Lib.hid (by rw [List.length_take]; omega)
          clear hrd hx hxc x64 hlong
          go_wp2_with ((at_builtin; refine Que.wpList_append rfl _ _ 54 rfl i0 _ 24 Try.underlying54 HI.out.1 HI.out.2.1 HI.out.2.2.1 HI.out.2.2.2 rfl rfl (HQ.out.alloc _) ⟨wr.heap.size, 0, none⟩ 1 _ rfl (HCELL.out _ _ _) rfl HLEN.out.1 HLEN.out.2 (HLEN2.out _) ?_; intro v' w' q1 q2 q3))
          have hx' := HX.out
          have hl40 := HL40.out
          exact ⟨FewR.next hx'.1 HK6.out HQ.out HHD.out HK.out (by rw [hl40]; exact HCAP.out) (Rd.pre hx'.2.2) (by rw [hl40]; exact q1) q2, by simp [intOf]; omega⟩
        · have hlong' : ¬ (40 : Int) < (x.length : Int) := by omega
          have HL40 : Hid (x.take 40 = x) := Lib.hid (List.take_of_length_le (by omega))
          clear hrd hx hxc x64 hlong
          go_wp2_with ((at_builtin; refine Que.wpList_append rfl _ _ 54 rfl i0 _ 24 Try.underlying54 HI.out.1 HI.out.2.1 HI.out.2.2.1 HI.out.2.2.2 rfl rfl (HQ.out.alloc _) ⟨wr.heap.size, 0, none⟩ 1 _ rfl (HCELL.out _ _ _) rfl HLEN.out.1 HLEN.out.2 (HLEN2.out _) ?_; intro v' w' q1 q2 q3))
          have hx' := HX.out
          have hl40 := HL40.out
          exact ⟨FewR.next hx'.1 HK6.out HQ.out HHD.out HK.out (by rw [hl40]; exact hx'.2.1) (by rw [hl40]; exact hx'.2.2) (by rw [hl40]; exact q1) q2, by simp [intOf]; omega⟩
      · have h6' : ¬ (k : Int) < 6 := by omega
        have hend : (rows.take k).map (fun r => r.take 40) = cutR rows := by
          unfold cutR
          congr 1
          have := HH.out.1
          rw [show k = 6 from by omega]
        have hh2 := HHD.out
        rw [hend] at hh2
        have HH2 := Lib.hid hh2
        have H64 : Hid (∀ x ∈ cutR rows, ∀ y ∈ x, y < 18446744073709551616) := Lib.hid (fun x hx y hy => by
          simp only [cutR, List.mem_map] at hx
          obtain ⟨r, hr, rfl⟩ := hx
          obtain ⟨j, hj⟩ := List.getElem?_of_mem (List.mem_of_mem_take hr)
          exact (HH.out.2 j r hj).1 y (List.mem_of_mem_take hy))
        clear hh2 hend HHD
        obtain ⟨A', c', rfl, hg⟩ := Gr.of_que HQ.out HH2.out (HK.out (fun _ => False)).size H64.out
        have hcl : (cutR rows).length = 6 := by simp only [cutR, List.length_map, List.length_take]; have := HH.out.1; have := HKN.out; omega
        have HG := Lib.hid hg
        have hcl0 : ¬ (((cutR rows).length : Nat) : Int) = 0 := by have := HH.out.1; omega
        have HF : Hid (fewR rows = cutR rows) := Lib.hid (by unfold fewR; rw [if_neg (by have := HH.out.1; omega)])
        generalize hcn : (cutR rows).length = cn at *
        clear hg
        go_wp2_with fail
        go_ret
        refine ⟨A', c', by rw [HF.out, hcn, hcl]; rfl, by rw [HF.out, hcn]; exact HG.out, HK.out⟩
    · have hlt' : ¬ (k : Int) < (n : Int) := by omega
      have hend : (rows.take k).map (fun r => r.take 40) = cutR rows := by
        unfold cutR
        congr 1
        have := HH.out.1
        rw [List.take_of_length_le (by omega), List.take_of_length_le (by omega)]
      have hh2 := HHD.out
      rw [hend] at hh2
      have HH2 := Lib.hid hh2
      have H64 : Hid (∀ x ∈ cutR rows, ∀ y ∈ x, y < 18446744073709551616) := Lib.hid (fun x hx y hy => by
        simp only [cutR, List.mem_map] at hx
        obtain ⟨r, hr, rfl⟩ := hx
        obtain ⟨j, hj⟩ := List.getElem?_of_mem (List.mem_of_mem_take hr)
        exact (HH.out.2 j r hj).1 y (List.mem_of_mem_take hy))
      clear hh2 hend HHD
      by_cases hr0 : rows.length = 0
      · have hrn : rows = [] := List.eq_nil_of_length_eq_zero hr0
        subst hrn
        have hhs : hs = [] := by
          have := HH2.out.1
          exact List.eq_nil_of_length_eq_zero (by simpa [cutR] using this)
        subst hhs
        obtain ⟨A0, c0, rfl⟩ := Que.form HQ.out
        obtain ⟨wA, hwA⟩ : ∃ wA, wA = wr.alloc (.cells #[.int .u64 1] 24) := ⟨_, rfl⟩
        have bA := Blk.new wr 24 #[.int .u64 1]
        rw [← hwA] at bA
        have kA : ∀ S, Keeps S wr wA := fun S => by rw [hwA]; exact (Keeps.refl S wr).alloc _
        obtain ⟨wB, hwB⟩ : ∃ wB, wB = wA.alloc (.cells #[.slice (some ⟨wr.heap.size, 0, none⟩) 1 1] 29) := ⟨_, rfl⟩
        have bB := Blk.new wA 29 #[.slice (some ⟨wr.heap.size, 0, none⟩) 1 1]
        rw [← hwB] at bB
        have kB : ∀ S, Keeps S wA wB := fun S => by rw [hwB]; exact (Keeps.refl S wA).alloc _
        have zA : wA.heap.size = wr.heap.size + 1 := by rw [hwA]; show (wr.heap.push _).size = _; simp
        have HZA := Lib.hid zA
        have QB := Lib.hid (HQ.out.keeps ((kA (fun _ => False)).trans (kB (fun _ => False))) (fun _ _ z => z))
        have HC := Lib.hid (show wB.cell? ⟨wA.heap.size, 0, none⟩ = some (.slice (some ⟨wr.heap.size, 0, none⟩) 1 1) from by rw [bB.cell]; rfl)
        have BA := Lib.hid (Blk.keeps bA (kB (fun _ => False)) (fun z => z))
        have KB : Hid (∀ S, Keeps S w wB) := Lib.hid (fun S => ((HK.out S).trans (kA S)).trans (kB S))
        have HLB := Lib.hid (show w.heap.size ≤ wB.heap.size from (KB.out (fun _ => False)).size)
        have HML : Hid (([] : List Value).length + 1 ≤ maxLen) := Lib.hid (by unfold maxLen; simp)
        have HE : Hid (wB = (wr.alloc (.cells #[.int .u64 1] 24)).alloc (.cells #[.slice (some ⟨wr.heap.size, 0, none⟩) 1 1] 29)) := Lib.hid (by rw [hwB, hwA])
        rw [zA] at HC
        clear hwA bA kA hwB bB kB zA
        go_wp2_with (at_builtin; rw [← HE.out]; refine Que.wpList_append rfl _ _ 54 rfl i0 _ 24 Try.underlying54 HI.out.1 HI.out.2.1 HI.out.2.2.1 HI.out.2.2.2 rfl rfl QB.out ⟨wr.heap.size + 1, 0, none⟩ 1 _ rfl HC.out rfl HML.out (by decide) HLB.out ?_; intro v' w' q1 q2 q3)
        go_ret
        have kk : Keeps (fun b => (Value.slice A0 0 c0).ownBlock = some b) wB w' := Keeps.of_grown q2
        have hbb : ∀ b, (Value.slice A0 0 c0).ownBlock = some b → w.heap.size ≤ b ∧ b < wr.heap.size := fun b e => HQ.out.lt e
        have b1 := Blk.keeps BA.out kk (fun e => by have := hbb _ e; omega)
        have hz := HZA.out
        have hsz := kk.size
        have hd1 : Hd w' (wr.heap.size + 1) ([] ++ [.slice (some ⟨wr.heap.size, 0, none⟩) 1 1]) [[1]] := by
          refine ⟨rfl, fun i x hx => ?_⟩
          rcases i with _ | i
          · simp at hx
            subst hx
            refine ⟨some ⟨wr.heap.size, 0, none⟩, 1, rfl, by simp, fun j v hv => ⟨wr.heap.size, 0, rfl, by omega, ?_⟩⟩
            rw [b1.cell, Nat.zero_add]; exact hv
          · simp at hx
        have hlast : wr.heap.size + 1 ≤ w'.heap.size := by have := b1.lt; omega
        obtain ⟨A2, c2, e2, hg⟩ := Gr.of_que (rows := [[1]]) q1 hd1 hlast (fun x hx y hy => by simp at hx; subst hx; simp at hy; omega)
        subst e2
        refine ⟨A2, c2, rfl, hg, fun S => ?_⟩
        have k9 : Keeps (fun b => (Value.slice A0 0 c0).ownBlock = some b) w w' := (KB.out _).trans kk
        exact (k9.mono (S' := fun _ => False) (fun b hb e => by have := hbb b e; omega)).mono (fun _ _ z => z.elim)
      · obtain ⟨A', c', rfl, hg⟩ := Gr.of_que HQ.out HH2.out (HK.out (fun _ => False)).size H64.out
        have hcl : (cutR rows).length = n := by simp only [cutR, List.length_map, List.length_take]; have := HH.out.1; have := HKN.out; omega
        have HG := Lib.hid hg
        have hcl0 : ¬ (((cutR rows).length : Nat) : Int) = 0 := by have := HH.out.1; omega
        have HF : Hid (fewR rows = cutR rows) := Lib.hid (by unfold fewR; rw [if_neg (by have := HH.out.1; omega)])
        have hcl5 : (((cutR rows).length : Nat) : Int) ≤ 6 := by have := HH.out.1; omega
        generalize hcn : (cutR rows).length = cn at *
        clear hg hcl hr0 hlt hk hk6
        have hb : ((cn : Int) == 0) = false := by simpa using hcl0
        clear hcl5 hcl0
        go_wp2_with fail
        go_ret
        exact ⟨A', c', by rw [HF.out, hcn]; rfl, by rw [HF.out, hcn]; exact HG.out, HK.out⟩
end Go.Proofs.Ytekglcphdjjmcaa.tj
