/-
  Cells of addresses and keys.
-/
import Derived.Test.YtdnddlmlbnachaaFwA
import Derived.Test.YtdnddlmlbnachaaWh
import Derived.Test.YtdnddlmlbnachaaMzK2
import Derived.Test.YtdnddlmlbnachaaQk
import Derived.Test.YtdnddlmlbnachaaProg
import Derived.WalkLawsBesides
import Derived.WalkSpells
import Derived.Outline
import Derived.Lib.Hide
import Derived.IntWalk
import Derived.WalkMore
import Derived.RegionTactic
import Derived.RegionCalls
import Derived.BigRegion
import Derived.Deep.LoopGhost
import Derived.Deep.RegionHeld3
import Derived.StillTailTactics
import Derived.Deep.QuietTactic
import Derived.BigQuiet
set_option linter.unusedVariables false
namespace Go.Proofs.Ytdnddlmlbnachaa.fw
open Go.RowKit Go.Proofs.Ytdnddlmlbnachaa.oc Go.Proofs.Ytdnddlmlbnachaa.mz Go.Proofs.Ytdnddlmlbnachaa.pf Go.Proofs.Ytdnddlmlbnachaa.wh Go.Proofs.Ytdnddlmlbnachaa.qk
def b8s (l : List Nat) : List Value := l.map (fun (x : Nat) => Value.int .u8 (x : Int))
/-- an address's cells, a key's -/
def adc (a : Ad) : List Value := .bool a.v6 :: b8s a.B
def kvc (k : Ky) : List Value := adc k.src ++ (adc k.dst ++ [.int .u8 (k.pr : Int), .int .u16 (k.sp : Int), .int .u16 (k.dp : Int)])
def av (a : Ad) : Value := .agg (adc a).toArray
def kv (k : Ky) : Value := .agg (kvc k).toArray
theorem b8_len (l : List Nat) : (b8s l).length = l.length := by simp [b8s]
theorem b8_one (l : List Nat) : ∀ v ∈ b8s l, v.oneCell' = true := fun v hv => by
  obtain ⟨x, _, rfl⟩ := List.mem_map.1 hv; rfl
theorem adc_len {a : Ad} (h : a.Wf) : (adc a).length = 17 := by simp [adc, b8s, h.len]
theorem adc_one (a : Ad) : ∀ v ∈ adc a, v.oneCell' = true := fun v hv => by
  rcases List.mem_cons.1 hv with rfl | q
  · rfl
  · exact b8_one _ v q
theorem kvc_len {k : Ky} (h : k.Wf) : (kvc k).length = 37 := by simp [kvc, adc_len h.s, adc_len h.d]
theorem kvc_one (k : Ky) : ∀ v ∈ kvc k, v.oneCell' = true := fun v hv => by
  unfold kvc at hv
  simp only [List.mem_append, List.mem_cons, List.not_mem_nil, or_false] at hv
  rcases hv with q | q | rfl | rfl | rfl
  · exact adc_one _ v q
  · exact adc_one _ v q
  all_goals rfl
theorem kvc_src {k : Ky} (h : k.Wf) : (kvc k).take 17 = adc k.src := by
  unfold kvc; rw [List.take_left' (adc_len h.s)]
theorem kvc_dst {k : Ky} (h : k.Wf) : ((kvc k).drop 17).take 17 = adc k.dst := by
  unfold kvc; rw [List.drop_left' (adc_len h.s), List.take_left' (adc_len h.d)]
theorem kvc_rest {k : Ky} (h : k.Wf) : (kvc k).drop 34 = [.int .u8 (k.pr : Int), .int .u16 (k.sp : Int), .int .u16 (k.dp : Int)] := by
  unfold kvc; rw [← List.append_assoc, List.drop_left' (by simp [adc_len h.s, adc_len h.d])]
theorem kvc_at {k : Ky} (h : k.Wf) (j : Nat) : (kvc k)[34 + j]? = [Value.int .u8 (k.pr : Int), .int .u16 (k.sp : Int), .int .u16 (k.dp : Int)][j]? := by
  rw [← kvc_rest h, List.getElem?_drop]
theorem kvc_pr {k : Ky} (h : k.Wf) : (kvc k)[34]? = some (.int .u8 (k.pr : Int)) := kvc_at h 0
theorem kvc_sp {k : Ky} (h : k.Wf) : (kvc k)[35]? = some (.int .u16 (k.sp : Int)) := kvc_at h 1
theorem kvc_dp {k : Ky} (h : k.Wf) : (kvc k)[36]? = some (.int .u16 (k.dp : Int)) := kvc_at h 2
theorem arr_info : (Try.prog.info? 22).map (·.size) = some 16 := by kernel_rfl
theorem ad_info : (Try.prog.info? 24).map (·.size) = some 17 := by kernel_rfl
theorem key_info : (Try.prog.info? 31).map (·.size) = some 37 := by kernel_rfl
end Go.Proofs.Ytdnddlmlbnachaa.fw
