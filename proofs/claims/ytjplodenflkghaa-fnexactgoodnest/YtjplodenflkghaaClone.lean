/- slices.Clone of numbers and of leaves. -/
import Derived.Test.YtjplodenflkghaaHold
namespace Go.Proofs.Ytjplodenflkghaa
open Go.RowKit
set_option linter.unusedSimpArgs false
set_option linter.unusedVariables false
theorem eqnilIn (d t e b o n c : Nat) (ht : Try.prog.underlying t = some (.slice e)) (w : World) : (Op.equalIn (d + 1) t (.slice (some ⟨b, o, none⟩) n c) (.slice none 0 0)).run Try.prog w = .ok false w := by
  simp [Op.equalIn, run_underlying ht]
theorem eqnil (t e b o n c : Nat) (ht : Try.prog.underlying t = some (.slice e)) (w : World) : (binOp .eql t (.slice (some ⟨b, o, none⟩) n c) (.slice none 0 0)).run Try.prog w = .ok (.bool false) w := by
  have h1 : (Op.equal t (.slice (some ⟨b, o, none⟩) n c) (.slice none 0 0)).run Try.prog w = .ok false w := by
    exact eqnilIn 9999 t e b o n c ht w
  simp only [binOp]
  simp [h1]
set_option maxRecDepth 10000 in
set_option maxHeartbeats 1600000 in
theorem cloneI_any (b o n c : Nat) (f : Nat → Int) (Y : Nat → Prop) (w : World) (hn : n ≤ 1048576) (h : IntsAt Y w (some ⟨b, o, none⟩) n f) :
    Calls Try.prog 169 #[.slice (some ⟨b, o, none⟩) n c] w fun e w' => ∃ ao cap, e = .returned (.slice ao n cap) ∧ IntsOwn (fun x => w.heap.size ≤ x ∧ x < w'.heap.size) w' ao n f ∧ Blw w w' := by
  have hA : Blw w (w.alloc (.cells #[] 3)) := (Blw.refl _).alloc _
  have hE : (w.alloc (.cells #[] 3)).heap[w.heap.size]? = some (.cells #[] 3 (0, 0)) := heap_alloc_new w _
  have hsz : (w.alloc (.cells #[] 3)).heap.size = w.heap.size + 1 := by simp
  obtain ⟨ao, cap, w2, hrun, hB, hM⟩ := BufI.append (Buf.lit (X := fun b => b = w.heap.size) hE 1 rfl (ic (fun _ => 0))) c (h.blw hA) (by omega) 26
  rw [Nat.zero_add] at hrun hB
  rw [hsz] at hB
  obtain ⟨ao', cap', e', hO⟩ := BufI.own hB (by omega)
  cases e'
  have s2 := hM.size
  have HRN : Hid _ := hrun
  have FIN : Hid (∃ ao' cap', Ending.returned (Value.slice ao n cap) = .returned (.slice ao' n cap') ∧ IntsOwn (fun x => w.heap.size ≤ x ∧ x < w2.heap.size) w2 ao' n f ∧ Blw w w2) := ⟨ao, cap, rfl, (hO.mono (fun x hx => ⟨by omega, hx.2⟩)).congr (fun i hi => by simp [icat]), Mod.blw hA hM (fun i hi => by simp [Value.ownBlock] at hi; omega)⟩
  have hnil := eqnil 26 3 b o n c Try.underlying26
  clear hrun hB hO hM h hA hE hsz s2
  go_enter Try.func169, Try.ntmps169
  go_wp2_with (first | (at_builtin; refine wpList_app (.tmp 5) (.tmp 6) 26 (by rfl) ?_; refine ⟨_, _, HRN.out, ?_⟩) | fail)
  exact bodyPost_ret (v := .slice ao n cap) (by simp [results, Try.results169, go_sem]) rfl FIN.out
set_option maxRecDepth 10000 in
set_option maxHeartbeats 1600000 in
theorem cloneU_any (b o n c : Nat) (f g : Nat → Int) (Y : Nat → Prop) (w : World) (hn : n ≤ 1048576) (h : UndosAt Y w (some ⟨b, o, none⟩) n f g) :
    Calls Try.prog 172 #[.slice (some ⟨b, o, none⟩) n c] w fun e w' => ∃ ao cap, e = .returned (.slice ao n cap) ∧ UndosOwn (fun x => w.heap.size ≤ x ∧ x < w'.heap.size) w' ao n f g ∧ Blw w w' := by
  have hA : Blw w (w.alloc (.cells #[] 144)) := (Blw.refl _).alloc _
  have hE : (w.alloc (.cells #[] 144)).heap[w.heap.size]? = some (.cells #[] 144 (0, 0)) := heap_alloc_new w _
  have hsz : (w.alloc (.cells #[] 144)).heap.size = w.heap.size + 1 := by simp
  obtain ⟨ao, cap, w2, hrun, hB, hM⟩ := BufU.append (Buf.lit (X := fun b => b = w.heap.size) hE 2 rfl (uc (fun _ => 0) (fun _ => 0))) c (h.blw hA) (by omega) 147
  rw [Nat.zero_add] at hrun hB
  rw [hsz] at hB
  obtain ⟨ao', cap', e', hO⟩ := BufU.own hB (by omega)
  cases e'
  have s2 := hM.size
  have HRN : Hid _ := hrun
  have FIN : Hid (∃ ao' cap', Ending.returned (Value.slice ao n cap) = .returned (.slice ao' n cap') ∧ UndosOwn (fun x => w.heap.size ≤ x ∧ x < w2.heap.size) w2 ao' n f g ∧ Blw w w2) := ⟨ao, cap, rfl, (hO.mono (fun x hx => ⟨by omega, hx.2⟩)).congr (fun i hi => by simp [icat]), Mod.blw hA hM (fun i hi => by simp [Value.ownBlock] at hi; omega)⟩
  have hnil := eqnil 147 144 b o n c Try.underlying147
  clear hrun hB hO hM h hA hE hsz s2
  go_enter Try.func172, Try.ntmps172
  go_wp2_with (first | (at_builtin; refine wpList_app (.tmp 5) (.tmp 6) 147 (by rfl) ?_; refine ⟨_, _, HRN.out, ?_⟩) | fail)
  exact bodyPost_ret (v := .slice ao n cap) (by simp [results, Try.results172, go_sem]) rfl FIN.out
end Go.Proofs.Ytjplodenflkghaa
