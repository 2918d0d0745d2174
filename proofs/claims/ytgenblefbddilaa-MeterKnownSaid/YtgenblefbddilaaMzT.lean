/-
  A thread in memory: its block, its calls, what came of them.
-/
import Derived.Test.YtgenblefbddilaaMzBase
import Derived.Test.YtgenblefbddilaaMzC
namespace Go.Proofs.Ytgenblefbddilaa.mz
open Go.RowKit Go.Proofs.Ytgenblefbddilaa.oc
/-- answers as cells -/
def flat : List (Bool × List Nat) → List Value → List Value
  | a :: al, v :: vs => .bool a.1 :: v :: flat al vs
  | _, _ => []
theorem flat_length : ∀ (al : List (Bool × List Nat)) (vs : List Value), vs.length = al.length → (flat al vs).length = al.length * 2
  | [], [], _ => rfl
  | a :: al, v :: vs, h => by simp [flat, flat_length al vs (by simpa using h)]; omega
  | [], _ :: _, h => by simp at h
  | _ :: _, [], h => by simp at h
theorem flat_at : ∀ (al : List (Bool × List Nat)) (vs : List Value) (i : Nat) (a : Bool × List Nat) (v : Value), al[i]? = some a → vs[i]? = some v → (flat al vs)[i * 2]? = some (.bool a.1) ∧ (flat al vs)[i * 2 + 1]? = some v
  | x :: al, y :: vs, 0, a, v, h, k => by
    simp at h k
    subst h; subst k
    exact ⟨rfl, rfl⟩
  | x :: al, y :: vs, i + 1, a, v, h, k => by
    have := flat_at al vs i a v (by simpa using h) (by simpa using k)
    rw [show (i + 1) * 2 = i * 2 + 1 + 1 from by omega, show i * 2 + 1 + 1 + 1 = (i * 2 + 1) + 1 + 1 from by omega]
    simpa [flat] using this
  | [], _, i, a, v, h, _ => by simp at h
  | _ :: _, [], i, a, v, _, k => by simp at k
theorem flat_snoc : ∀ (al : List (Bool × List Nat)) (vs : List Value) (a : Bool × List Nat) (v : Value), vs.length = al.length → flat (al ++ [a]) (vs ++ [v]) = flat al vs ++ [.bool a.1, v]
  | [], [], _, _, _ => rfl
  | x :: al, y :: vs, a, v, h => by simp [flat, flat_snoc al vs a v (by simpa using h)]
  | [], _ :: _, _, _, h => by simp at h
  | _ :: _, [], _, _, h => by simp at h
theorem flat_set_told : ∀ (al : List (Bool × List Nat)) (vs : List Value) (i : Nat) (a : Bool × List Nat) (ts : List Nat) (v : Value), al[i]? = some a → i < vs.length → flat (al.set i (a.1, ts)) (vs.set i v) = (flat al vs).set (i * 2 + 1) v
  | x :: al, y :: vs, 0, a, ts, v, h, _ => by simp at h; subst h; simp [flat]
  | x :: al, y :: vs, i + 1, a, ts, v, h, k => by
    have := flat_set_told al vs i a ts v (by simpa using h) (by simpa using k)
    rw [show (i + 1) * 2 + 1 = i * 2 + 1 + 1 + 1 from by omega]
    simp [flat, this]
  | [], _, i, a, ts, v, h, _ => by simp at h
  | _ :: _, [], i, _, _, _, _, k => by simp at k
theorem flat_set_done : ∀ (al : List (Bool × List Nat)) (vs : List Value) (i : Nat) (a : Bool × List Nat) (b : Bool), al[i]? = some a → vs.length = al.length → flat (al.set i (b, a.2)) vs = (flat al vs).set (i * 2) (.bool b)
  | x :: al, y :: vs, 0, a, b, h, _ => by simp at h; subst h; simp [flat]
  | x :: al, y :: vs, i + 1, a, b, h, k => by
    have := flat_set_done al vs i a b (by simpa using h) (by simpa using k)
    rw [show (i + 1) * 2 = i * 2 + 1 + 1 from by omega]
    simp [flat, this]
  | [], _, i, a, b, h, _ => by simp at h
  | _ :: _, [], i, _, _, _, k => by simp at k
/-- what came of a thread's calls, in memory: blocks of F -/
structure Ans (w : World) (B g : Nat) (F : Nat → Prop) (v : Value) (al : List (Bool × List Nat)) (tvs : List Value) : Prop where
  row : w.ownsRow B 88 2 v al.length (flat al tvs)
  len : tvs.length = al.length
  own : ∀ (i : Nat) (tv : Value) (a : Bool × List Nat), tvs[i]? = some tv → al[i]? = some a → w.ownsRow B 22 1 tv a.2.length (u64s a.2)
  apart : ∀ (i j k : Nat) (tv tv' : Value), i ≠ j → tvs[i]? = some tv → tvs[j]? = some tv' → tv.ownBlock = some k → tv'.ownBlock ≠ some k
  off : ∀ (i : Nat) (tv : Value) (k : Nat), tvs[i]? = some tv → tv.ownBlock = some k → v.ownBlock ≠ some k
  foot : ∀ k, v.ownBlock = some k → F k ∧ k ≠ g
  feet : ∀ (i : Nat) (tv : Value) (k : Nat), tvs[i]? = some tv → tv.ownBlock = some k → F k ∧ k ≠ g
theorem Ans.keeps {w w' : World} {B g : Nat} {F S : Nat → Prop} {v : Value} {al : List (Bool × List Nat)} {tvs : List Value} (h : Ans w B g F v al tvs) (k : Keeps S w w') (hs : ∀ b, F b → b ≠ g → ¬ S b) : Ans w' B g F v al tvs :=
  ⟨owns_keeps h.row k (fun b hb => hs b (h.foot b hb).1 (h.foot b hb).2), h.len, fun i tv a h1 h2 => owns_keeps (h.own i tv a h1 h2) k (fun b hb => hs b (h.feet i tv b h1 hb).1 (h.feet i tv b h1 hb).2), h.apart, h.off, h.foot, h.feet⟩
theorem Ans.wider {w : World} {B g : Nat} {F F' : Nat → Prop} {v : Value} {al : List (Bool × List Nat)} {tvs : List Value} (h : Ans w B g F v al tvs) (k : ∀ b, F b → F' b) : Ans w B g F' v al tvs :=
  ⟨h.row, h.len, h.own, h.apart, h.off, fun b hb => ⟨k b (h.foot b hb).1, (h.foot b hb).2⟩, fun i tv b h1 hb => ⟨k b (h.feet i tv b h1 hb).1, (h.feet i tv b h1 hb).2⟩⟩
/-- the thread t lies in block g; all that it may write lies in F; its calls lie below B -/
structure TInv (w : World) (B g : Nat) (t : Th) (F : Nat → Prop) : Prop where
  at_ : ∃ (cv v : Value) (tvs : List Value), Thr w g ⟨cv, t.call, t.at_, t.rs, v, t.over⟩ ∧ IsCalls w B cv t.calls ∧ Ans w B g F v t.ans tvs
  wf : t.Wf
  me : F g
  above : ∀ b, F b → B ≤ b ∧ b < w.heap.size
theorem TInv.keeps {w w' : World} {B g : Nat} {t : Th} {F S : Nat → Prop} (h : TInv w B g t F) (k : Keeps S w w') (hs : ∀ b, F b → ¬ S b) (hB : ∀ b, b < B → ¬ S b) : TInv w' B g t F := by
  obtain ⟨cv, v, tvs, h1, h2, h3⟩ := h.at_
  exact ⟨⟨cv, v, tvs, h1.keeps k (hs g h.me), h2.keeps k hB, h3.keeps k (fun b hb _ => hs b hb)⟩, h.wf, h.me, fun b hb => ⟨(h.above b hb).1, Nat.lt_of_lt_of_le (h.above b hb).2 k.size⟩⟩
/-- a step that writes the thread's block alone -/
theorem TInv.own {w w' : World} {B g : Nat} {t t' : Th} {F : Nat → Prop} (h : TInv w B g t F) (k : Keeps (· = g) w w') (hT : ∀ cv v, Thr w g ⟨cv, t.call, t.at_, t.rs, v, t.over⟩ → Thr w' g ⟨cv, t'.call, t'.at_, t'.rs, v, t'.over⟩)
    (hc : t'.calls = t.calls) (ha : t'.ans = t.ans) (hwf : t'.Wf) : TInv w' B g t' F := by
  obtain ⟨cv, v, tvs, h1, h2, h3⟩ := h.at_
  have hg := (h.above g h.me).1
  refine ⟨⟨cv, v, tvs, hT cv v h1, ?_, ?_⟩, hwf, h.me, fun b hb => ⟨(h.above b hb).1, Nat.lt_of_lt_of_le (h.above b hb).2 k.size⟩⟩
  · rw [hc]; exact h2.keeps k (fun b hb e => by omega)
  · rw [ha]; exact h3.keeps k (fun b _ hb => hb)
end Go.Proofs.Ytgenblefbddilaa.mz
