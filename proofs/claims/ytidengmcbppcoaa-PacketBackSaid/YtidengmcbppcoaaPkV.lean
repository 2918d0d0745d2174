/-
  A header's fields written one by one; what readRest answers, plainly.
-/
import Derived.Test.YtidengmcbppcoaaPkU
set_option linter.unusedVariables false
set_option linter.unusedSimpArgs false
namespace Go.Proofs.Ytidengmcbppcoaa.pk
open Go.RowKit Go.Proofs.Ytidengmcbppcoaa.oc Go.Proofs.Ytidengmcbppcoaa.mz Go.Proofs.Ytidengmcbppcoaa.pf Go.Proofs.Ytidengmcbppcoaa.wh Go.Proofs.Ytidengmcbppcoaa.qk Go.Proofs.Ytidengmcbppcoaa.bys
theorem hcs_parts (h : Hd) (v : Value) : hcs h v = (adc h.src ++ adc h.dst) ++ [.int .u8 (h.pr : Int), .int .u16 (h.sp : Int), .int .u16 (h.dp : Int), .int .u8 (h.ttl : Int), .int .u8 (h.cls : Int), .int .u32 (h.id : Int), .int .u8 (h.fl : Int), .int .u32 (h.seq : Int), v] := by unfold hcs; rw [List.append_assoc]
theorem set_behind {a b : List Value} (ha : a.length = 34) (k : Nat) (x : Value) : (a ++ b).set (34 + k) x = a ++ b.set k x := by rw [List.set_append_right _ _ (by omega), ha, Nat.add_sub_cancel_left]
theorem ad_len34 {h : Hd} (h1 : h.src.Wf) (h2 : h.dst.Wf) : (adc h.src ++ adc h.dst).length = 34 := by simp [adc_len h1, adc_len h2]
theorem st_dat {w : World} {G : Nat} {T : TypeId} {h : Hd} {v : Value} (b : Blk w G T (hcs h v)) (h1 : h.src.Wf) (h2 : h.dst.Wf) (v2 : Value) (d : List Nat) : Blk (w.setCell ⟨G, 42, none⟩ v2) G T (hcs {h with dat := d} v2) := by
  have := Blk.put b 42 v2
  rw [hcs_parts h, show 42 = 34 + 8 from rfl, set_behind (ad_len34 h1 h2)] at this
  unfold hcs
  rw [List.append_assoc] at this
  exact this
theorem st_sp {w : World} {G : Nat} {T : TypeId} {h : Hd} {v : Value} (b : Blk w G T (hcs h v)) (h1 : h.src.Wf) (h2 : h.dst.Wf) (x : Nat) : Blk (w.setCell ⟨G, 35, none⟩ (.int .u16 (x : Int))) G T (hcs {h with sp := x} v) := by
  have := Blk.put b 35 (.int .u16 (x : Int))
  rw [hcs_parts h, show 35 = 34 + 1 from rfl, set_behind (ad_len34 h1 h2)] at this
  unfold hcs
  rw [List.append_assoc] at this
  exact this
theorem st_dp {w : World} {G : Nat} {T : TypeId} {h : Hd} {v : Value} (b : Blk w G T (hcs h v)) (h1 : h.src.Wf) (h2 : h.dst.Wf) (x : Nat) : Blk (w.setCell ⟨G, 36, none⟩ (.int .u16 (x : Int))) G T (hcs {h with dp := x} v) := by
  have := Blk.put b 36 (.int .u16 (x : Int))
  rw [hcs_parts h, show 36 = 34 + 2 from rfl, set_behind (ad_len34 h1 h2)] at this
  unfold hcs
  rw [List.append_assoc] at this
  exact this
theorem st_seq {w : World} {G : Nat} {T : TypeId} {h : Hd} {v : Value} (b : Blk w G T (hcs h v)) (h1 : h.src.Wf) (h2 : h.dst.Wf) (x : Nat) : Blk (w.setCell ⟨G, 41, none⟩ (.int .u32 (x : Int))) G T (hcs {h with seq := x} v) := by
  have := Blk.put b 41 (.int .u32 (x : Int))
  rw [hcs_parts h, show 41 = 34 + 7 from rfl, set_behind (ad_len34 h1 h2)] at this
  unfold hcs
  rw [List.append_assoc] at this
  exact this
theorem st_fl {w : World} {G : Nat} {T : TypeId} {h : Hd} {v : Value} (b : Blk w G T (hcs h v)) (h1 : h.src.Wf) (h2 : h.dst.Wf) (x : Nat) : Blk (w.setCell ⟨G, 40, none⟩ (.int .u8 (x : Int))) G T (hcs {h with fl := x} v) := by
  have := Blk.put b 40 (.int .u8 (x : Int))
  rw [hcs_parts h, show 40 = 34 + 6 from rfl, set_behind (ad_len34 h1 h2)] at this
  unfold hcs
  rw [List.append_assoc] at this
  exact this
theorem h_cell {w : World} {G : Nat} {T : TypeId} {h : Hd} {v : Value} (b : Blk w G T (hcs h v)) (h1 : h.src.Wf) (h2 : h.dst.Wf) (j : Nat) (x : Value) (hx : [Value.int .u8 (h.pr : Int), .int .u16 (h.sp : Int), .int .u16 (h.dp : Int), .int .u8 (h.ttl : Int), .int .u8 (h.cls : Int), .int .u32 (h.id : Int), .int .u8 (h.fl : Int), .int .u32 (h.seq : Int), v][j]? = some x) : w.cell? ⟨G, 34 + j, none⟩ = some x := by
  rw [b.cell, hcs_parts h, List.getElem?_append_right (by rw [ad_len34 h1 h2]; omega), ad_len34 h1 h2, Nat.add_sub_cancel_left]
  exact hx
theorem blk_cell {w : World} {G : Nat} {T : TypeId} {h : Hd} {v : Value} (hw : h.Wf) (b : Blk w G T (hcs h v)) (i : Nat) : w.frozen? ⟨G, i, none⟩ = false := b.frozen i
theorem past_ {w wi wj : World} {v : Value} {l : List Nat} {G : Nat} (h : By w wi v l) (k : Keeps (· = G) wi wj) (hG : w.heap.size ≤ G) (hne : ¬ v.ownBlock = some G) : By w wj v l :=
  ⟨owns_keeps h.own k (fun b hb e => hne (e ▸ hb)), fun S => keeps_own (fun S => h.keep S) k hG S⟩
theorem keeps_put {w w1 : World} {G : Nat} (k : Keeps (· = G) w w1) (i : Nat) (v : Value) : Keeps (· = G) w (w1.setCell ⟨G, i, none⟩ v) := Keeps.setCell k (p := ⟨G, i, none⟩) (.inl rfl) v
theorem cutA_form (g o c p : Nat) : ∃ o2, cutA (some ⟨g, o, none⟩) c p = some ⟨g, o2, none⟩ := by
  unfold cutA
  split
  · exact ⟨o, rfl⟩
  · exact ⟨o + p, by simp [Addr.add]⟩
def kt (h : Hd) (l : List Nat) : Hd := ⟨h.src, h.dst, h.pr, num2 l 0, num2 l 2, h.ttl, h.cls, h.id, l.getD 13 0, num4 l 4, l.drop 20⟩
def ku (h : Hd) (l : List Nat) : Hd := ⟨h.src, h.dst, h.pr, num2 l 0, num2 l 2, h.ttl, h.cls, h.id, h.fl, h.seq, l.drop 8⟩
def kn (h : Hd) (l : List Nat) : Hd := ⟨h.src, h.dst, h.pr, h.sp, h.dp, h.ttl, h.cls, h.id, h.fl, h.seq, l⟩
theorem kt_wf {h : Hd} {l : List Nat} (hw : h.Wf) (hs : Small l) : (kt h l).Wf := ⟨hw.s, hw.d, hw.p, num2_lt hs 0, num2_lt hs 2, hw.t, hw.c, hw.i, getD_lt hs 13, num4_lt hs 4, hs.drop 20⟩
theorem ku_wf {h : Hd} {l : List Nat} (hw : h.Wf) (hs : Small l) : (ku h l).Wf := ⟨hw.s, hw.d, hw.p, num2_lt hs 0, num2_lt hs 2, hw.t, hw.c, hw.i, hw.f, hw.q, hs.drop 8⟩
theorem kn_wf {h : Hd} {l : List Nat} (hw : h.Wf) (hs : Small l) : (kn h l).Wf := ⟨hw.s, hw.d, hw.p, hw.sl, hw.dl, hw.t, hw.c, hw.i, hw.f, hw.q, hs⟩
/-- what readRest answers: of TCP, of UDP, of others -/
def rdT (h : Hd) (l : List Nat) : Hd × Int :=
  if l.length < 20 then (hz, 161) else if l.take 16 ≠ (mid (kt h l)).take 16 then (hz, 161) else if (l.drop 18).take 2 ≠ (mid (kt h l)).drop 18 then (hz, 161)
  else if num2 l 16 ≠ sumv (kt h l) l then (hz, 162) else (kt h l, 0)
def rdU (h : Hd) (l : List Nat) : Hd × Int :=
  if l.length < 8 then (hz, 161) else if l.take 6 ≠ (mid (ku h l)).take 6 then (hz, 161)
  else if num2 l 6 ≠ sumv (ku h l) l then (hz, 162) else (ku h l, 0)
def rdR (h : Hd) (l : List Nat) : Hd × Int := if h.pr = 6 then rdT h l else if h.pr = 17 then rdU h l else (kn h l, 0)
/-- an answer with Data of its own -/
def RK (w w' : World) (e : Ending) (x : Hd × Int) : Prop := ∃ v, e = .returned (.tuple #[hvv x.1 v, .int .i64 x.2]) ∧ By w w' v x.1.dat
end Go.Proofs.Ytidengmcbppcoaa.pk
