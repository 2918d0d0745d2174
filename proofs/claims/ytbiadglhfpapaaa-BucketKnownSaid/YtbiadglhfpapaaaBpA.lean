/-
  bucket: outside, Check, latest, wrong.
-/
import Derived.Test.YtbiadglhfpapaaaBkG
set_option linter.unusedVariables false
namespace Go.Proofs.Ytbiadglhfpapaaa.bp
open Go.RowKit Go.Proofs.Ytbiadglhfpapaaa.oc Go.Proofs.Ytbiadglhfpapaaa.mz Go.Proofs.Ytbiadglhfpapaaa.bk
/-- is x not from 1 to y? -/
def outs (x y : Nat) : Bool := decide (x < 1 ∨ y < x)
section
variable (w : World) (n d b : Nat)
set_option maxRecDepth 100000 in
set_option maxHeartbeats 1000000 in
theorem outside_ (x y : Nat) : Calls Try.prog 30 #[.int .u64 (x : Int), .int .u64 (y : Int)] w fun e w' => e = .returned (.bool (outs x y)) ∧ ∀ S, Keeps S w w' := by
  rcases Nat.lt_or_ge x 1 with h1 | h1
  · have q1 : (x : Int) < 1 := by omega
    rw [show outs x y = true from by unfold outs; simp; omega]
    clear h1
    go_enter Try.func30, Try.ntmps30
    go_wp2
    try rw [Exit.noGoto_ret]
    go_ret
    exact ⟨rfl, fun S => Keeps.refl S w⟩
  · have q1 : ¬ (x : Int) < 1 := by omega
    rcases Nat.lt_or_ge y x with h2 | h2
    · have q2 : (y : Int) < (x : Int) := by omega
      rw [show outs x y = true from by unfold outs; simp; omega]
      clear h1 h2
      go_enter Try.func30, Try.ntmps30
      go_wp2
      try rw [Exit.noGoto_ret]
      go_ret
      exact ⟨rfl, fun S => Keeps.refl S w⟩
    · have q2 : ¬ (y : Int) < (x : Int) := by omega
      rw [show outs x y = false from by unfold outs; simp; omega]
      clear h1 h2
      go_enter Try.func30, Try.ntmps30
      go_wp2
      try rw [Exit.noGoto_ret]
      go_ret
      exact ⟨rfl, fun S => Keeps.refl S w⟩
theorem may_outs : (outs n 65536 || outs d 65536 || outs b 1048576) = !decide (May n d b) := by
  have h : May n d b ↔ ¬ (((n < 1 ∨ 65536 < n) ∨ (d < 1 ∨ 65536 < d)) ∨ (b < 1 ∨ 1048576 < b)) := by unfold May; omega
  by_cases hm : May n d b
  · rw [decide_eq_true hm]
    have := h.1 hm
    unfold outs
    simp only [Bool.not_true, Bool.or_eq_false_iff, decide_eq_false_iff_not]
    omega
  · rw [decide_eq_false hm]
    have : ((n < 1 ∨ 65536 < n) ∨ (d < 1 ∨ 65536 < d)) ∨ (b < 1 ∨ 1048576 < b) := Decidable.byContradiction (fun q => hm (h.2 q))
    unfold outs
    simp only [Bool.not_false, Bool.or_eq_true, decide_eq_true_eq]
    exact this
set_option maxRecDepth 100000 in
set_option maxHeartbeats 1000000 in
theorem check_go (o1 o2 o3 : Bool) (h1 : outs n 65536 = o1) (h2 : outs d 65536 = o2) (h3 : outs b 1048576 = o3) : Calls Try.prog 10 #[bv n d b] w fun e w' => e = .returned (.int .i64 (if o1 || o2 || o3 then 2 else 0)) ∧ ∀ S, Keeps S w w' := by
  have H1 := fun w => outside_ w n 65536
  have H2 := fun w => outside_ w d 65536
  have H3 := fun w => outside_ w b 1048576
  rw [h1] at H1
  rw [h2] at H2
  rw [h3] at H3
  have c1 : ((65536 : Nat) : Int) = 65536 := rfl
  have c2 : ((1048576 : Nat) : Int) = 1048576 := rfl
  simp only [c1, c2] at H1 H2 H3
  have G1 := fun w => Lib.hid (H1 w)
  have G2 := fun w => Lib.hid (H2 w)
  have G3 := fun w => Lib.hid (H3 w)
  clear H1 H2 H3 h1 h2 h3 c1 c2
  unfold bv
  cases o1
  · cases o2
    · go_enter Try.func10, Try.ntmps10
      go_wp2_with fail
      have B0 := Blk.new w 24 #[.int .u64 (n : Int), .int .u64 (d : Int), .int .u64 (b : Int)]
      refine (G1 _).out.mono ?_
      rintro e w1 ⟨rfl, k1⟩
      have B1 := Blk.keeps B0 (k1 (fun _ => False)) (fun z => z)
      have K1 : Hid (∀ S, Keeps S w w1) := Lib.hid (fun S => ((Keeps.refl S w).alloc _).trans (k1 S))
      have x1 : w1.cell? ⟨w.heap.size, 1, none⟩ = some (.int .u64 (d : Int)) := by rw [B1.cell]; rfl
      clear k1 B0
      go_wp2_with fail
      refine (G2 _).out.mono ?_
      rintro e w2 ⟨rfl, k2⟩
      have B2 := Blk.keeps B1 (k2 (fun _ => False)) (fun z => z)
      have K2 : Hid (∀ S, Keeps S w w2) := Lib.hid (fun S => (K1.out S).trans (k2 S))
      have x2 : w2.cell? ⟨w.heap.size, 2, none⟩ = some (.int .u64 (b : Int)) := by rw [B2.cell]; rfl
      clear k2 B1 x1 B2
      go_wp2_with fail
      refine (G3 _).out.mono ?_
      rintro e w3 ⟨rfl, k3⟩
      have K3 : Hid (∀ S, Keeps S w w3) := Lib.hid (fun S => (K2.out S).trans (k3 S))
      clear k3 x2
      cases o3
      all_goals
        go_wp2
        try rw [Exit.noGoto_ret]
        go_ret
        exact ⟨rfl, K3.out⟩
    · go_enter Try.func10, Try.ntmps10
      go_wp2_with fail
      have B0 := Blk.new w 24 #[.int .u64 (n : Int), .int .u64 (d : Int), .int .u64 (b : Int)]
      refine (G1 _).out.mono ?_
      rintro e w1 ⟨rfl, k1⟩
      have B1 := Blk.keeps B0 (k1 (fun _ => False)) (fun z => z)
      have K1 : Hid (∀ S, Keeps S w w1) := Lib.hid (fun S => ((Keeps.refl S w).alloc _).trans (k1 S))
      have x1 : w1.cell? ⟨w.heap.size, 1, none⟩ = some (.int .u64 (d : Int)) := by rw [B1.cell]; rfl
      clear k1 B0 B1
      go_wp2_with fail
      refine (G2 _).out.mono ?_
      rintro e w2 ⟨rfl, k2⟩
      have K2 : Hid (∀ S, Keeps S w w2) := Lib.hid (fun S => (K1.out S).trans (k2 S))
      clear k2 x1
      go_wp2
      try rw [Exit.noGoto_ret]
      go_ret
      exact ⟨rfl, K2.out⟩
  · go_enter Try.func10, Try.ntmps10
    go_wp2_with fail
    refine (G1 _).out.mono ?_
    rintro e w1 ⟨rfl, k1⟩
    have K1 : Hid (∀ S, Keeps S w w1) := Lib.hid (fun S => ((Keeps.refl S w).alloc _).trans (k1 S))
    clear k1
    go_wp2
    try rw [Exit.noGoto_ret]
    go_ret
    exact ⟨by simp, K1.out⟩
/-- what Check answers -/
def chk (n d b : Nat) : Int := if May n d b then 0 else 2
theorem check_ : Calls Try.prog 10 #[bv n d b] w fun e w' => e = .returned (.int .i64 (chk n d b)) ∧ ∀ S, Keeps S w w' := by
  have h := check_go w n d b _ _ _ rfl rfl rfl
  rw [may_outs] at h
  have e : (if (!decide (May n d b)) = true then (2 : Int) else 0) = chk n d b := by
    unfold chk
    by_cases hm : May n d b <;> simp [hm]
  rw [e] at h
  exact h
set_option maxRecDepth 100000 in
set_option maxHeartbeats 1000000 in
theorem wrong_ (now : Nat) : Calls Try.prog 31 #[bv n d b, .int .u64 (now : Int)] w fun e w' => e = .returned (.int .i64 (err n d b now)) ∧ ∀ S, Keeps S w w' := by
  have HC := fun w => Lib.hid (check_ w n d b)
  unfold bv at HC ⊢
  by_cases hm : May n d b
  · rw [show chk n d b = 0 from by unfold chk; rw [if_pos hm]] at HC
    rcases Nat.lt_or_ge 1099511627776 now with h | h
    · have he : err n d b now = 5 := by simp [err, hm]; omega
      rw [he]
      have q1 : (1099511627776 : Int) < (now : Int) := by omega
      clear hm he h
      go_enter Try.func31, Try.ntmps31
      go_wp2_with fail
      refine (HC _).out.mono ?_
      rintro e w1 ⟨rfl, k1⟩
      have K1 : Hid (∀ S, Keeps S w w1) := Lib.hid (fun S => ((Keeps.refl S w).alloc _).trans (k1 S))
      clear k1
      go_wp2
      try rw [Exit.noGoto_ret]
      go_ret
      exact ⟨rfl, K1.out⟩
    · have he : err n d b now = 0 := by simp [err, hm]; omega
      rw [he]
      have q1 : ¬ (1099511627776 : Int) < (now : Int) := by omega
      clear hm he h
      go_enter Try.func31, Try.ntmps31
      go_wp2_with fail
      refine (HC _).out.mono ?_
      rintro e w1 ⟨rfl, k1⟩
      have K1 : Hid (∀ S, Keeps S w w1) := Lib.hid (fun S => ((Keeps.refl S w).alloc _).trans (k1 S))
      clear k1
      go_wp2
      try rw [Exit.noGoto_ret]
      go_ret
      exact ⟨rfl, K1.out⟩
  · rw [show chk n d b = 2 from by unfold chk; rw [if_neg hm]] at HC
    have he : err n d b now = 2 := by simp [err, hm]
    rw [he]
    clear hm he
    go_enter Try.func31, Try.ntmps31
    go_wp2_with fail
    refine (HC _).out.mono ?_
    rintro e w1 ⟨rfl, k1⟩
    have K1 : Hid (∀ S, Keeps S w w1) := Lib.hid (fun S => ((Keeps.refl S w).alloc _).trans (k1 S))
    clear k1
    go_wp2
    try rw [Exit.noGoto_ret]
    go_ret
    exact ⟨rfl, K1.out⟩
/-- the greatest tick of these -/
def lat (l : List (Nat × Nat)) : Nat := l.foldl (fun a p => max a p.1) 0
theorem lat_snoc (l : List (Nat × Nat)) (p : Nat × Nat) : lat (l ++ [p]) = max (lat l) p.1 := by simp [lat, List.foldl_append]
theorem lat_le_of (l : List (Nat × Nat)) (M : Nat) : ∀ a, l.foldl (fun a p => max a p.1) a ≤ M ↔ a ≤ M ∧ ∀ p ∈ l, p.1 ≤ M := by
  induction l with
  | nil => intro a; simp
  | cons p r ih =>
    intro a
    rw [List.foldl_cons, ih]
    simp only [List.mem_cons, forall_eq_or_imp, Nat.max_le, and_assoc]
theorem lat_le (l : List (Nat × Nat)) (M : Nat) : lat l ≤ M ↔ ∀ p ∈ l, p.1 ≤ M := by
  unfold lat; rw [lat_le_of]; simp
set_option maxRecDepth 100000 in
set_option maxHeartbeats 2000000 in
theorem latest_ (A : Option Addr) (m c : Nat) (l : List (Nat × Nat)) (ha : Asks w w.heap.size A l) (hl : l.length = m) (hm9 : m ≤ 100000000000000) : Calls Try.prog 40 #[.slice A m c] w fun e w' => e = .returned (.int .u64 (lat l : Int)) ∧ ∀ S, Keeps S w w' := by
  have HA := Lib.hid ha
  have HL := Lib.hid (show l.length = m ∧ m ≤ 100000000000000 from ⟨hl, hm9⟩)
  clear ha hl hm9
  go_enter Try.func40, Try.ntmps40
  go_wp2_with fail
  go_loopw [3, 8] (fun tv iv wr => ∃ k : Nat, k ≤ m ∧ iv = .int .i64 (k : Int) ∧ tv = .int .u64 ((lat (l.take k) : Nat) : Int) ∧ ∀ S, Keeps S w wr) (fun tv iv _ => m + 1 - (intOf iv).toNat)
  case atStart => exact ⟨0, Nat.zero_le _, rfl, rfl, fun S => Keeps.refl S w⟩
  case round =>
    obtain ⟨k, hk, rfl, rfl, hkk⟩ := hrel
    have HK := Lib.hid hkk
    have k0 : (0 : Int) ≤ (k : Int) := by omega
    have hm9 : (m : Int) ≤ 100000000000000 := by have := HL.out.2; omega
    rcases Nat.lt_or_ge k m with hlt | hlt
    · obtain ⟨pp, hp⟩ : ∃ pp, l[k]? = some pp := ⟨_, List.getElem?_eq_getElem (by have := HL.out.1; omega)⟩
      obtain ⟨bb, o, rfl, hbb, c1, c2⟩ := (HA.out.keeps (S := fun _ => False) (hkk _) (fun _ _ z => z)).at_ hp
      obtain ⟨pt, pk⟩ := pp
      have HLT := Lib.hid hlt
      have htk : l.take (k + 1) = l.take k ++ [(pt, pk)] := by rw [List.take_add_one, hp]; rfl
      have HN := Lib.hid (show lat (l.take (k + 1)) = max (lat (l.take k)) pt from by rw [htk, lat_snoc])
      have hlt' : (k : Int) < (m : Int) := by omega
      simp only at c1 c2
      clear hp hbb hk hkk hlt htk
      generalize lat (l.take k) = u at *
      rcases Nat.lt_or_ge u pt with hc | hc
      · have q1 : (u : Int) < (pt : Int) := by omega
        have HC := Lib.hid hc
        clear hc
        go_wp2
        go_roundw
        case rel => exact ⟨k + 1, by have := HLT.out; omega, by go_num, by rw [HN.out, show max u pt = pt from by have := HC.out; omega], fun S => (HK.out S).alloc _⟩
        case measure => have := HLT.out; simp [intOf]; omega
      · have q1 : ¬ (u : Int) < (pt : Int) := by omega
        have HC := Lib.hid hc
        clear hc
        go_wp2
        go_roundw
        case rel => exact ⟨k + 1, by have := HLT.out; omega, by go_num, by rw [HN.out, show max u pt = u from by have := HC.out; omega], fun S => (HK.out S).alloc _⟩
        case measure => have := HLT.out; simp [intOf]; omega
    · have hlt' : ¬ (k : Int) < (m : Int) := by omega
      have hkm : k = m := by omega
      have HT := Lib.hid (show l.take k = l by rw [hkm, ← HL.out.1, List.take_length])
      clear hk hlt hkk hkm
      go_wp2
      try rw [Exit.noGoto_ret]
      go_ret
      exact ⟨by rw [HT.out]; rfl, HK.out⟩
end
end Go.Proofs.Ytbiadglhfpapaaa.bp
