/-
  bytes.Compare of two rows of bytes of one length.
-/
import Derived.Test.YtdnddlmlbnachaaFwB
import Derived.Lib.Bytealg
set_option linter.unusedVariables false
set_option linter.unusedSimpArgs false
namespace Go.Proofs.Ytdnddlmlbnachaa.fw
open Go.RowKit Go.Proofs.Ytdnddlmlbnachaa.oc Go.Proofs.Ytdnddlmlbnachaa.mz Go.Proofs.Ytdnddlmlbnachaa.wh Go.Proofs.Ytdnddlmlbnachaa.qk Go.Proofs.Ytdnddlmlbnachaa.pf
theorem run_bytes (P : Program) (w : World) (b : Nat) : ∀ (l : List Nat) (o : Nat) (acc : ByteArray), (∀ j x, l[j]? = some x → w.cell? ⟨b, o + j, none⟩ = some (.int .u8 ((x : Nat) : Int))) → (Extern.Bytes.loadBytes ⟨b, o, none⟩ l.length acc).run P w = .ok ⟨acc.data ++ (l.map (fun x => UInt8.ofNat x)).toArray⟩ w
  | [], o, acc, _ => by simp [Extern.Bytes.loadBytes, Sem.run_pure]
  | x :: r, o, acc, h => by
    have h0 := h 0 x rfl
    have ih := run_bytes P w b r (o + 1) (acc.push (UInt8.ofNat x)) (fun j y hj => by
      have := h (j + 1) y (by simpa using hj)
      rw [show o + 1 + j = o + (j + 1) from by omega]; exact this)
    rw [Nat.add_zero] at h0
    rw [List.length_cons, Extern.Bytes.loadBytes]
    have hl : (load ⟨b, o, none⟩).run P w = .ok (.int .u8 ((x : Nat) : Int)) w := by rw [run_load, h0]
    rw [Sem.run_bind, hl]
    simp only [Result.andThen_ok, Int.toNat_natCast]
    show (Extern.Bytes.loadBytes ⟨b, o + 1, none⟩ r.length (acc.push (UInt8.ofNat x))).run P w = _
    rw [ih]
    simp
theorem cmp_bytes : ∀ (l m : List Nat), (∀ x ∈ l, x < 256) → (∀ x ∈ m, x < 256) → l.length = m.length → Lib.compareBytes (l.map (fun x => UInt8.ofNat x)) (m.map (fun x => UInt8.ofNat x)) = cmpB l m
  | [], [], _, _, _ => by simp [Lib.compareBytes, cmpB]
  | [], _ :: _, _, _, h => by simp at h
  | _ :: _, [], _, _, h => by simp at h
  | x :: r, y :: t, hl, hm, h => by
    have ih := cmp_bytes r t (fun z hz => hl z (List.mem_cons_of_mem _ hz)) (fun z hz => hm z (List.mem_cons_of_mem _ hz)) (by simpa using h)
    have hx := hl x (by simp)
    have hy := hm y (by simp)
    have lt : ∀ p q : Nat, p < 256 → q < 256 → (UInt8.ofNat p < UInt8.ofNat q ↔ p < q) := fun p q hp hq => by
      rw [UInt8.lt_iff_toNat_lt]
      simp [Nat.mod_eq_of_lt hp, Nat.mod_eq_of_lt hq]
    simp only [List.map_cons, Lib.compareBytes, cmpB, lt x y hx hy, lt y x hy hx, ih]
section
variable (w : World)
set_option maxRecDepth 100000 in
set_option maxHeartbeats 1000000 in
theorem bytescmp_ (l m : List Nat) (b c o p n1 n2 : Nat) (hl : ∀ x ∈ l, x < 256) (hm : ∀ x ∈ m, x < 256) (he : l.length = m.length) (h1 : ∀ j x, l[j]? = some x → w.cell? ⟨b, o + j, none⟩ = some (.int .u8 ((x : Nat) : Int))) (h2 : ∀ j x, m[j]? = some x → w.cell? ⟨c, p + j, none⟩ = some (.int .u8 ((x : Nat) : Int))) :
    Calls Try.prog 33 #[.slice (some ⟨b, o, none⟩) l.length n1, .slice (some ⟨c, p, none⟩) m.length n2] w fun e w' => e = .returned (.int .i64 (cmpB l m)) ∧ ∀ S, Keeps S w w' := by
  have hr : (Extern.BytealgCompare.compare #[.slice (some ⟨b, o, none⟩) l.length n1, .slice (some ⟨c, p, none⟩) m.length n2]).run Try.prog w = .ok (.int .i64 (cmpB l m)) w := by
    change Sem.run Try.prog (do pure (goInt (Extern.BytealgCompare.cmp (← Extern.Bytes.loadBytes ⟨b, o, none⟩ l.length .empty) (← Extern.Bytes.loadBytes ⟨c, p, none⟩ m.length .empty)))) w = _
    rw [Sem.run_bind, run_bytes _ w b l o _ h1]
    simp only [Result.andThen_ok]
    rw [Sem.run_bind, run_bytes _ w c m p _ h2]
    simp only [Result.andThen_ok, Sem.run_pure]
    rw [Lib.cmp_eq, ← cmp_bytes l m hl hm he]
    simp [goInt]
  clear h1 h2 hl hm
  generalize cmpB l m = r at *
  generalize l.length = n at *
  generalize m.length = k at *
  subst he
  go_enter Try.func33, Try.ntmps33
  go_wp2
  rw [run_callFunc_extern Try.func35 (by kernel_rfl) (by kernel_rfl) (by kernel_rfl) (e := Extern.BytealgCompare.compare) (by kernel_rfl), hr]
  simp only [Result.andThen]
  rw [Oper.upon_value]
  go_wp2
  go_ret
  exact ⟨rfl, fun S => Keeps.refl S w⟩
end
end Go.Proofs.Ytdnddlmlbnachaa.fw
