/- slices.Clone of numbers and of leaves. -/
import Derived.Test.YtbnencabjechjaaHold
namespace Go.Proofs.Ytbnencabjechjaa
open Go.RowKit
set_option linter.unusedSimpArgs false
set_option linter.unusedVariables false
theorem eqnilIn (d t e b o n c : Nat) (ht : Try.prog.underlying t = some (.slice e)) (w : World) : (Op.equalIn (d + 1) t (.slice (some ⟨b, o, none⟩) n c) (.slice none 0 0)).run Try.prog w = .ok false w := by
  simp [Op.equalIn, run_underlying ht]
theorem eqnil (t e b o n c : Nat) (ht : Try.prog.underlying t = some (.slice e)) (w : World) : (binOp .eql t (.slice (some ⟨b, o, none⟩) n c) (.slice none 0 0)).run Try.prog w = .ok (.bool false) w := by
  have h1 : (Op.equal t (.slice (some ⟨b, o, none⟩) n c) (.slice none 0 0)).run Try.prog w = .ok false w := by
    exact eqnilIn 9999 t e b o n c ht w
  simp only [binOp]
  simp [h1]
set_option maxRecDepth 10000 in
set_option maxHeartbeats 1600000 in
theorem cloneI_any (b o n c : Nat) (f : Nat → Int) (Y : Nat → Prop) (w : World) (hn : n ≤ 1048576) (h : IntsAt Y w (some ⟨b, o, none⟩) n f) :
    Calls Try.prog 87 #[.slice (some ⟨b, o, none⟩) n c] w fun e w' => ∃ ao cap, e = .returned (.slice ao n cap) ∧ IntsOwn (fun x => w.heap.size ≤ x ∧ x < w'.heap.size) w' ao n f ∧ Blw w w' := by
  have hA : Blw w (w.alloc (.cells #[] 3)) := (Blw.refl _).alloc _
  have hE : (w.alloc (.cells #[] 3)).heap[w.heap.size]? = some (.cells #[] 3 (0, 0)) := heap_alloc_new w _
  have hsz : (w.alloc (.cells #[] 3)).heap.size = w.heap.size + 1 := by simp
  obtain ⟨ao, cap, w2, hrun, hB, hM⟩ := BufI.append (Buf.lit (X := fun b => b = w.heap.size) hE 1 rfl (ic (fun _ => 0))) c (h.blw hA) (by omega) 23
  rw [Nat.zero_add] at hrun hB
  rw [hsz] at hB
  obtain ⟨ao', cap', e', hO⟩ := BufI.own hB (by omega)
  cases e'
  have s2 := hM.size
  have HRN : Hid _ := hrun
  have FIN : Hid (∃ ao' cap', Ending.returned (Value.slice ao n cap) = .returned (.slice ao' n cap') ∧ IntsOwn (fun x => w.heap.size ≤ x ∧ x < w2.heap.size) w2 ao' n f ∧ Blw w w2) := ⟨ao, cap, rfl, (hO.mono (fun x hx => ⟨by omega, hx.2⟩)).congr (fun i hi => by simp [icat]), Mod.blw hA hM (fun i hi => by simp [Value.ownBlock] at hi; omega)⟩
  have hnil := eqnil 23 3 b o n c Try.underlying23
  clear hrun hB hO hM h hA hE hsz s2
  go_enter Try.func87, Try.ntmps87
  go_wp2_with (first | (at_builtin; refine wpList_app (.tmp 5) (.tmp 6) 23 (by rfl) ?_; refine ⟨_, _, HRN.out, ?_⟩) | fail)
  exact bodyPost_ret (v := .slice ao n cap) (by simp [results, Try.results87, go_sem]) rfl FIN.out
set_option maxRecDepth 10000 in
set_option maxHeartbeats 1600000 in
theorem cloneU_any (b o n c : Nat) (f g : Nat → Int) (Y : Nat → Prop) (w : World) (hn : n ≤ 1048576) (h : UndosAt Y w (some ⟨b, o, none⟩) n f g) :
    Calls Try.prog 90 #[.slice (some ⟨b, o, none⟩) n c] w fun e w' => ∃ ao cap, e = .returned (.slice ao n cap) ∧ UndosOwn (fun x => w.heap.size ≤ x ∧ x < w'.heap.size) w' ao n f g ∧ Blw w w' := by
  have hA : Blw w (w.alloc (.cells #[] 73)) := (Blw.refl _).alloc _
  have hE : (w.alloc (.cells #[] 73)).heap[w.heap.size]? = some (.cells #[] 73 (0, 0)) := heap_alloc_new w _
  have hsz : (w.alloc (.cells #[] 73)).heap.size = w.heap.size + 1 := by simp
  obtain ⟨ao, cap, w2, hrun, hB, hM⟩ := BufU.append (Buf.lit (X := fun b => b = w.heap.size) hE 2 rfl (uc (fun _ => 0) (fun _ => 0))) c (h.blw hA) (by omega) 78
  rw [Nat.zero_add] at hrun hB
  rw [hsz] at hB
  obtain ⟨ao', cap', e', hO⟩ := BufU.own hB (by omega)
  cases e'
  have s2 := hM.size
  have HRN : Hid _ := hrun
  have FIN : Hid (∃ ao' cap', Ending.returned (Value.slice ao n cap) = .returned (.slice ao' n cap') ∧ UndosOwn (fun x => w.heap.size ≤ x ∧ x < w2.heap.size) w2 ao' n f g ∧ Blw w w2) := ⟨ao, cap, rfl, (hO.mono (fun x hx => ⟨by omega, hx.2⟩)).congr (fun i hi => by simp [icat]), Mod.blw hA hM (fun i hi => by simp [Value.ownBlock] at hi; omega)⟩
  have hnil := eqnil 78 73 b o n c Try.underlying78
  clear hrun hB hO hM h hA hE hsz s2
  go_enter Try.func90, Try.ntmps90
  go_wp2_with (first | (at_builtin; refine wpList_app (.tmp 5) (.tmp 6) 78 (by rfl) ?_; refine ⟨_, _, HRN.out, ?_⟩) | fail)
  exact bodyPost_ret (v := .slice ao n cap) (by simp [results, Try.results90, go_sem]) rfl FIN.out
end Go.Proofs.Ytbnencabjechjaa
