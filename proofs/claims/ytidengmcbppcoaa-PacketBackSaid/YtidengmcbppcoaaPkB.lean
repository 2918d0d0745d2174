/-
  Headers: their cells; what a header in a block of its own says; the pieces of a packet, plainly.
-/
import Derived.Test.YtidengmcbppcoaaPkA
import Derived.Test.YtidengmcbppcoaaBy
import Derived.Test.YtidengmcbppcoaaOcH
set_option linter.unusedVariables false
set_option linter.unusedSimpArgs false
namespace Go.Proofs.Ytidengmcbppcoaa.pk
open Go.RowKit Go.Proofs.Ytidengmcbppcoaa.oc Go.Proofs.Ytidengmcbppcoaa.mz Go.Proofs.Ytidengmcbppcoaa.pf Go.Proofs.Ytidengmcbppcoaa.wh Go.Proofs.Ytidengmcbppcoaa.qk Go.Proofs.Ytidengmcbppcoaa.bys
structure Hd where
  src : Ad
  dst : Ad
  pr : Nat
  sp : Nat
  dp : Nat
  ttl : Nat
  cls : Nat
  id : Nat
  fl : Nat
  seq : Nat
  dat : List Nat
structure Hd.Wf (h : Hd) : Prop where
  s : h.src.Wf
  d : h.dst.Wf
  p : h.pr < 256
  sl : h.sp < 65536
  dl : h.dp < 65536
  t : h.ttl < 256
  c : h.cls < 256
  i : h.id < 4294967296
  f : h.fl < 256
  q : h.seq < 4294967296
  b : ∀ x ∈ h.dat, x < 256
def hcs (h : Hd) (v : Value) : List Value := adc h.src ++ (adc h.dst ++ [.int .u8 (h.pr : Int), .int .u16 (h.sp : Int), .int .u16 (h.dp : Int), .int .u8 (h.ttl : Int), .int .u8 (h.cls : Int), .int .u32 (h.id : Int), .int .u8 (h.fl : Int), .int .u32 (h.seq : Int), v])
def hvv (h : Hd) (v : Value) : Value := .agg (hcs h v).toArray
theorem hcs_len {h : Hd} (hw : h.Wf) (v : Value) : (hcs h v).length = 43 := by simp [hcs, adc_len hw.s, adc_len hw.d]
theorem hd_info : (Try.prog.info? 29).map (·.size) = some 43 := by kernel_rfl
theorem hd_sz {h : Hd} (hw : h.Wf) (v : Value) : (Try.prog.info? 29).map (·.size) = some (hcs h v).length := by rw [hcs_len hw]; exact hd_info
theorem ad_sz {a : Ad} (ha : a.Wf) : (Try.prog.info? 24).map (·.size) = some (adc a).length := by rw [adc_len ha]; exact addr_info
theorem hcs_one {h : Hd} {v : Value} (hv : v.oneCell' = true) : ∀ u ∈ hcs h v, u.oneCell' = true := fun u hu => by
  unfold hcs at hu
  simp only [List.mem_append, List.mem_cons, List.not_mem_nil, or_false] at hu
  rcases hu with q | q | rfl | rfl | rfl | rfl | rfl | rfl | rfl | rfl | rfl
  · exact adc_one _ u q
  · exact adc_one _ u q
  all_goals first | exact hv | rfl
theorem hcs_at {h : Hd} (hw : h.Wf) (v : Value) (j : Nat) : (hcs h v)[34 + j]? = [Value.int .u8 (h.pr : Int), .int .u16 (h.sp : Int), .int .u16 (h.dp : Int), .int .u8 (h.ttl : Int), .int .u8 (h.cls : Int), .int .u32 (h.id : Int), .int .u8 (h.fl : Int), .int .u32 (h.seq : Int), v][j]? := by
  unfold hcs
  rw [← List.append_assoc, List.getElem?_append_right (by simp [adc_len hw.s, adc_len hw.d]), show 34 + j - (adc h.src ++ adc h.dst).length = j from by simp [adc_len hw.s, adc_len hw.d]]
/-- what a header in a block says -/
structure HF (w : World) (g : Nat) (h : Hd) (v : Value) : Prop where
  all : w.rangeAt g 0 (hcs h v)
  src : w.rangeAt g 0 (adc h.src)
  dst : w.rangeAt g 17 (adc h.dst)
  v6s : w.cell? ⟨g, 0, none⟩ = some (.bool h.src.v6)
  v6d : w.cell? ⟨g, 17, none⟩ = some (.bool h.dst.v6)
  pr : w.cell? ⟨g, 34, none⟩ = some (.int .u8 (h.pr : Int))
  sp : w.cell? ⟨g, 35, none⟩ = some (.int .u16 (h.sp : Int))
  dp : w.cell? ⟨g, 36, none⟩ = some (.int .u16 (h.dp : Int))
  ttl : w.cell? ⟨g, 37, none⟩ = some (.int .u8 (h.ttl : Int))
  cls : w.cell? ⟨g, 38, none⟩ = some (.int .u8 (h.cls : Int))
  id : w.cell? ⟨g, 39, none⟩ = some (.int .u32 (h.id : Int))
  fl : w.cell? ⟨g, 40, none⟩ = some (.int .u8 (h.fl : Int))
  seq : w.cell? ⟨g, 41, none⟩ = some (.int .u32 (h.seq : Int))
  dat : w.cell? ⟨g, 42, none⟩ = some v
theorem HF.of_range {w : World} {g : Nat} {h : Hd} {v : Value} (hw : h.Wf) (hr : w.rangeAt g 0 (hcs h v)) : HF w g h v := by
  have hs : w.rangeAt g 0 (adc h.src) := fun j u hj => by
    have hl : j < (adc h.src).length := (List.getElem?_eq_some_iff.1 hj).1
    exact hr j u (by unfold hcs; rw [List.getElem?_append_left hl]; exact hj)
  have hd : w.rangeAt g 17 (adc h.dst) := fun j u hj => by
    have hl : j < (adc h.dst).length := (List.getElem?_eq_some_iff.1 hj).1
    have := hr (17 + j) u (by unfold hcs; rw [List.getElem?_append_right (by rw [adc_len hw.s]; omega), adc_len hw.s, Nat.add_sub_cancel_left, List.getElem?_append_left hl]; exact hj)
    rw [Nat.zero_add] at this; exact this
  have at_ : ∀ j u, [Value.int .u8 (h.pr : Int), .int .u16 (h.sp : Int), .int .u16 (h.dp : Int), .int .u8 (h.ttl : Int), .int .u8 (h.cls : Int), .int .u32 (h.id : Int), .int .u8 (h.fl : Int), .int .u32 (h.seq : Int), v][j]? = some u → w.cell? ⟨g, 34 + j, none⟩ = some u := fun j u hj => by
    have := hr (34 + j) u (by rw [hcs_at hw]; exact hj)
    rw [Nat.zero_add] at this; exact this
  exact ⟨hr, hs, hd, by have := hs 0 _ rfl; exact this, by have := hd 0 _ rfl; exact this, at_ 0 _ rfl, at_ 1 _ rfl, at_ 2 _ rfl, at_ 3 _ rfl, at_ 4 _ rfl, at_ 5 _ rfl, at_ 6 _ rfl, at_ 7 _ rfl, at_ 8 _ rfl⟩
theorem range_keeps {w w' : World} {S : Nat → Prop} {g o : Nat} {cs : List Value} (h : w.rangeAt g o cs) (k : Keeps S w w') (hs : ¬ S g) : w'.rangeAt g o cs := fun j v hj => Keeps.cell k (h j v hj) hs
theorem HF.keeps {w w' : World} {S : Nat → Prop} {g : Nat} {h : Hd} {v : Value} (hw : h.Wf) (f : HF w g h v) (kk : Keeps S w w') (hs : ¬ S g) : HF w' g h v := HF.of_range hw (range_keeps f.all kk hs)
theorem HF.of_blk {w : World} {g : Nat} {T : TypeId} {h : Hd} {v : Value} (hw : h.Wf) (b : Blk w g T (hcs h v)) : HF w g h v := HF.of_range hw (Blk.range b)
theorem box1 (w : World) (cs : List Value) (T : TypeId) : ∃ w1, w1 = w.alloc (.cells cs.toArray T) ∧ (∀ S, Keeps S w w1) ∧ Blk w1 w.heap.size T cs ∧ w1.heap.size = w.heap.size + 1 :=
  ⟨_, rfl, fun S => (Keeps.refl S w).alloc _, by simpa using Blk.new w T cs.toArray, by simp⟩
theorem keeps_of_below {w w' : World} (h : Below w.heap.size w w') (S : Nat → Prop) : Keeps S w w' := ⟨h.size, fun b hb _ => h.block b hb, h.os, h.tape, h.output⟩
theorem rd_old {w w' : World} {B : Nat} {A : Option Addr} {xs : List Value} (h : Rd w B A xs) (k : Keeps (fun _ => False) w w') : Rd w' B A xs := fun j v hv => by
  obtain ⟨b, o, e, hb, hc⟩ := h j v hv
  exact ⟨b, o, e, hb, Keeps.cell k hc (fun z => z)⟩
/-- the sizes -/
def mids (p : Nat) : Nat := if p = 6 then 20 else if p = 17 then 8 else 0
def sat (p : Nat) : Nat := if p = 6 then 16 else if p = 17 then 6 else 0
def fsz (h : Hd) : Nat := if h.src.v6 then 40 else 20
theorem p_cases (p : Nat) : p = 6 ∨ p = 17 ∨ (p ≠ 6 ∧ p ≠ 17) := by omega
theorem mids6 : mids 6 = 20 := rfl
theorem mids17 : mids 17 = 8 := rfl
theorem midsN {p : Nat} (h6 : p ≠ 6) (h7 : p ≠ 17) : mids p = 0 := by unfold mids; rw [if_neg h6, if_neg h7]
theorem satN {p : Nat} (h6 : p ≠ 6) (h7 : p ≠ 17) : sat p = 0 := by unfold sat; rw [if_neg h6, if_neg h7]
/-- the middle, with 00 00 in the sum's place -/
def mid (h : Hd) : List Nat :=
  if h.pr = 6 then be 2 h.sp ++ be 2 h.dp ++ be 4 h.seq ++ [0, 0, 0, 0, 80, h.fl, 255, 255] ++ [0, 0, 0, 0]
  else if h.pr = 17 then be 2 h.sp ++ be 2 h.dp ++ be 2 ((8 + h.dat.length) % 65536) ++ [0, 0] else []
theorem mid6 {h : Hd} (e : h.pr = 6) : mid h = be 2 h.sp ++ be 2 h.dp ++ be 4 h.seq ++ [0, 0, 0, 0, 80, h.fl, 255, 255] ++ [0, 0, 0, 0] := by unfold mid; rw [if_pos e]
theorem mid17 {h : Hd} (e : h.pr = 17) : mid h = be 2 h.sp ++ be 2 h.dp ++ be 2 ((8 + h.dat.length) % 65536) ++ [0, 0] := by unfold mid; rw [if_neg (by omega), if_pos e]
theorem midN {h : Hd} (h6 : h.pr ≠ 6) (h7 : h.pr ≠ 17) : mid h = [] := by unfold mid; rw [if_neg h6, if_neg h7]
theorem mid_len (h : Hd) : (mid h).length = mids h.pr := by
  rcases p_cases h.pr with e | e | ⟨h6, h7⟩
  · rw [mid6 e, e]; simp [be_length, mids]
  · rw [mid17 e, e]; simp [be_length, mids]
  · rw [midN h6 h7, midsN h6 h7]; rfl
theorem zs_small : Small [0, 0, 0, 0] := fun x hx => by simp at hx; omega
theorem zs_small2 : Small [0, 0] := fun x hx => by simp at hx; omega
theorem mid_small {h : Hd} (hw : h.Wf) : Small (mid h) := by
  rcases p_cases h.pr with e | e | ⟨h6, h7⟩
  · rw [mid6 e]
    refine ((((be_small _ _).append (be_small _ _)).append (be_small _ _)).append ?_).append zs_small
    intro x hx
    simp at hx
    have := hw.f
    omega
  · rw [mid17 e]; exact (((be_small _ _).append (be_small _ _)).append (be_small _ _)).append zs_small2
  · rw [midN h6 h7]; exact Small.nil
end Go.Proofs.Ytidengmcbppcoaa.pk
