/-
  What is read out of bytes, plainly; a header's answers.
-/
import Derived.Test.YtidengmcbppcoaaPkO
import Derived.Test.YtidengmcbppcoaaPkN
set_option linter.unusedVariables false
set_option linter.unusedSimpArgs false
namespace Go.Proofs.Ytidengmcbppcoaa.pk
open Go.RowKit Go.Proofs.Ytidengmcbppcoaa.oc Go.Proofs.Ytidengmcbppcoaa.mz Go.Proofs.Ytidengmcbppcoaa.pf Go.Proofs.Ytidengmcbppcoaa.wh Go.Proofs.Ytidengmcbppcoaa.qk Go.Proofs.Ytidengmcbppcoaa.bys
def z16 : List Nat := [0, 0, 0, 0, 0, 0, 0, 0, 0, 0, 0, 0, 0, 0, 0, 0]
/-- the header of nothing -/
def hz : Hd := ⟨⟨false, z16⟩, ⟨false, z16⟩, 0, 0, 0, 0, 0, 0, 0, 0, []⟩
theorem z16_sm : ∀ x ∈ z16, x < 256 := fun x hx => by simp [z16] at hx; omega
theorem hz_wf : hz.Wf := ⟨⟨rfl, z16_sm⟩, ⟨rfl, z16_sm⟩, by decide, by decide, by decide, by decide, by decide, by decide, by decide, by decide, fun x hx => by cases hx⟩
def nul : Value := .slice none 0 0
def zhd : List Value := [.bool false, .int .u8 0, .int .u8 0, .int .u8 0, .int .u8 0, .int .u8 0, .int .u8 0, .int .u8 0, .int .u8 0, .int .u8 0, .int .u8 0, .int .u8 0, .int .u8 0, .int .u8 0, .int .u8 0, .int .u8 0, .int .u8 0, .bool false, .int .u8 0, .int .u8 0, .int .u8 0, .int .u8 0, .int .u8 0, .int .u8 0, .int .u8 0, .int .u8 0, .int .u8 0, .int .u8 0, .int .u8 0, .int .u8 0, .int .u8 0, .int .u8 0, .int .u8 0, .int .u8 0, .int .u8 0, .int .u16 0, .int .u16 0, .int .u8 0, .int .u8 0, .int .u32 0, .int .u8 0, .int .u32 0, .slice none 0 0]
theorem zhd_eq : zhd = hcs hz nul := rfl
theorem zhd_info : (Try.prog.info? 29).map (·.size) = some zhd.length := by kernel_rfl
theorem zhd_built : Try.prog.built 29 [] = some zhd.toArray := by
  show _ = _
  kernel_rfl
theorem zhd_one : ∀ v ∈ zhd, v.oneCell' = true := by rw [zhd_eq]; exact hcs_one rfl
/-- a header out of what a front tells -/
def hfr (a b : Ad) (pr ttl cls id : Nat) : Hd := ⟨a, b, pr, 0, 0, ttl, cls, id, 0, 0, []⟩
theorem hfr_built {a b : Ad} (ha : a.Wf) (hb : b.Wf) (pr ttl cls id : Nat) : Try.prog.built 29 [(0, av a), (1, av b), (2, .int .u8 (pr : Int)), (5, .int .u8 (ttl : Int)), (6, .int .u8 (cls : Int)), (7, .int .u32 (id : Int))] = some (hcs (hfr a b pr ttl cls id) nul).toArray := by
  obtain ⟨va, la⟩ := a
  obtain ⟨vb, lb⟩ := b
  obtain ⟨q0, q1, q2, q3, q4, q5, q6, q7, q8, q9, q10, q11, q12, q13, q14, q15, rfl⟩ := sixteen_ ha.len
  obtain ⟨r0, r1, r2, r3, r4, r5, r6, r7, r8, r9, r10, r11, r12, r13, r14, r15, rfl⟩ := sixteen_ hb.len
  show _ = _
  kernel_rfl
/-- the results: an aggregate that lies in a block of its own, and two more -/
theorem ret_cell2 {fn : Func} {p u v : Tmp} {ty : TypeId} (h : fn.results = #[.cell p ty, .tmp u, .tmp v]) (tmps : Array Value) (P : Program) (w : World) (g : Nat) (t : TypeId) (cs : List Value) (d : TypeDesc)
    (hp : tmps.getD p undef = .pointer (some ⟨g, 0, none⟩)) (hb : Blk w g t cs) (hu : P.underlying ty = some d) (hd : d.isRow = true) (hi : (P.info? ty).map (·.size) = some cs.length) :
    (results fn tmps).run P w = .ok (.tuple #[.agg cs.toArray, tmps.getD u undef, tmps.getD v undef]) w := by
  have e : (asAddr (.pointer (some ⟨g, 0, none⟩))).run P w = .ok ⟨g, 0, none⟩ w := rfl
  have hp' : tmps[p]?.getD undef = .pointer (some ⟨g, 0, none⟩) := by simpa using hp
  simp [results, h, hp', e, Sem.run_bind, run_loadVar_mid w g 0 ty cs d (Blk.range hb) hu hd hi]
theorem p_store {g : Nat} {w : World} {T : TypeId} {zs cs : List Value} (h : Blk w g T zs) (hl : cs.length = zs.length) : w.there g 0 cs.toArray.size ∧ Blk (w.setCells g 0 cs) g T cs ∧ Keeps (· = g) w (w.setCells g 0 cs) := by
  obtain ⟨t, b, k⟩ := p_mid h 0 cs (by omega)
  refine ⟨t, ?_, k⟩
  have e : zs.take 0 ++ cs ++ zs.drop (0 + cs.length) = cs := by
    rw [Nat.zero_add, hl, List.drop_length, List.take_zero, List.nil_append, List.append_nil]
  rw [e] at b; exact b
/-- what lies where, out of a row that a slice shows -/
theorem rd_range {w : World} {B g o : Nat} {l : List Nat} (h : Rd w B (some ⟨g, o, none⟩) (by_ l)) (p n : Nat) : w.rangeAt g (o + p) (b8s ((l.drop p).take n)) := fun j v hj => by
  obtain ⟨b, o', e, hb, hc⟩ := rd_part h p n j v hj
  injection e with e
  injection e with e1 e2
  subst e1; subst e2
  exact hc
theorem rd_blk {w : World} {B g o : Nat} {l : List Nat} (h : Rd w B (some ⟨g, o, none⟩) (by_ l)) (h0 : 0 < l.length) : g < B := by
  obtain ⟨b, o', e, hb, _⟩ := h.byte (getq (bs := l) (k := 0) h0)
  injection e with e
  injection e with e1 e2
  subst e1; exact hb
theorem rd_cell {w : World} {B g o : Nat} {l : List Nat} (h : Rd w B (some ⟨g, o, none⟩) (by_ l)) {k : Nat} (hk : k < l.length) : w.cell? ⟨g, o + k, none⟩ = some (.int .u8 ((l.getD k 0 : Nat) : Int)) := by
  obtain ⟨b, o', e, _, hc⟩ := h.byte (getq (bs := l) hk)
  injection e with e
  injection e with e1 e2
  subst e1; subst e2
  exact hc
theorem cutA_some (g o c p : Nat) (h : c ≠ p) : cutA (some ⟨g, o, none⟩) c p = some ⟨g, o + p, none⟩ := by unfold cutA; rw [if_neg h]; simp [Addr.add]
def num4 (l : List Nat) (p : Nat) : Nat := num ((l.drop p).take 4)
theorem num4_lt {l : List Nat} (hs : Small l) (p : Nat) : num4 l p < 4294967296 := by
  have h1 := num_lt ((l.drop p).take 4) ((hs.drop p).take 4)
  have h2 : ((l.drop p).take 4).length ≤ 4 := by rw [List.length_take]; omega
  have h3 : 256 ^ ((l.drop p).take 4).length ≤ 256 ^ 4 := Nat.pow_le_pow_right (by omega) h2
  unfold num4
  omega
def hd4 (l : List Nat) : Hd := hfr (ad4 ((l.drop 12).take 4)) (ad4 ((l.drop 16).take 4)) (l.getD 9 0) (l.getD 8 0) (l.getD 1 0) (num2 l 4)
def hd6 (l : List Nat) : Hd := hfr (ad6 ((l.drop 8).take 16)) (ad6 ((l.drop 24).take 16)) (l.getD 6 0) (l.getD 7 0) (num4 l 0 / 1048576 % 256) (num4 l 0 % 1048576)
/-- what readFour, readSix, readFront answer: the header, the length, the error -/
def rd4 (l : List Nat) : Hd × Nat × Int :=
  if l.length < 20 then (hz, 0, 160) else if l.getD 0 0 ≠ 69 then (hz, 0, 161) else if num2 l 6 ≠ 16384 then (hz, 0, 161)
  else if sizeE l.length (num2 l 2) 20 ≠ 0 then (hz, 0, sizeE l.length (num2 l 2) 20)
  else if num2 l 10 ≠ csum (l.take 10 ++ (l.drop 12).take 8) then (hz, 0, 162) else (hd4 l, num2 l 2, 0)
def rd6 (l : List Nat) : Hd × Nat × Int :=
  if l.length < 40 then (hz, 0, 160)
  else if sizeE l.length (40 + num2 l 4) 40 ≠ 0 then (hz, 0, sizeE l.length (40 + num2 l 4) 40) else (hd6 l, 40 + num2 l 4, 0)
def rdF (l : List Nat) : Hd × Nat × Int :=
  if l.length = 0 then (hz, 0, 160) else if l.getD 0 0 / 16 = 4 then rd4 l else if l.getD 0 0 / 16 = 6 then rd6 l else (hz, 0, 161)
/-- an answer without Data -/
def RH (w w' : World) (e : Ending) (x : Hd × Nat × Int) : Prop := e = .returned (.tuple #[hvv x.1 nul, .int .i64 (x.2.1 : Int), .int .i64 x.2.2]) ∧ ∀ S, Keeps S w w'
theorem ad6_wf {l : List Nat} (hl : l.length = 16) (hs : ∀ x ∈ l, x < 256) : (ad6 l).Wf := ⟨hl, hs⟩
theorem hd4_wf {l : List Nat} (hs : Small l) (hl : 20 ≤ l.length) : (hd4 l).Wf := by
  have h1 := num2_lt hs 4
  exact ⟨ad4_wf (by simp; omega) ((hs.drop _).take _), ad4_wf (by simp; omega) ((hs.drop _).take _), getD_lt hs _, Nat.zero_lt_succ _, Nat.zero_lt_succ _, getD_lt hs _, getD_lt hs _, by show num2 l 4 < _; omega, Nat.zero_lt_succ _, Nat.zero_lt_succ _, fun x hx => by cases hx⟩
theorem hd6_wf {l : List Nat} (hs : Small l) (hl : 40 ≤ l.length) : (hd6 l).Wf := by
  have h1 := num4_lt hs 0
  exact ⟨ad6_wf (by simp; omega) ((hs.drop _).take _), ad6_wf (by simp; omega) ((hs.drop _).take _), getD_lt hs _, Nat.zero_lt_succ _, Nat.zero_lt_succ _, getD_lt hs _, by show num4 l 0 / 1048576 % 256 < _; omega, by show num4 l 0 % 1048576 < _; omega, Nat.zero_lt_succ _, Nat.zero_lt_succ _, fun x hx => by cases hx⟩
end Go.Proofs.Ytidengmcbppcoaa.pk
