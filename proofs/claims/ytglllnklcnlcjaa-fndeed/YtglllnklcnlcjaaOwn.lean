/- 'spec.l1Copy' and 'spec.l1Own': new memory that reads as the old one. -/
import Derived.Test.YtglllnklcnlcjaaXGood
import Derived.Test.YtglllnklcnlcjaaBld
namespace Go.Proofs.Ytglllnklcnlcjaa
open Go.RowKit
set_option linter.unusedSimpArgs false
theorem owned_row {w : World} {g n cap : Nat} {e : TypeId} {xs : List Value} {f : Nat → Value} (h : w.ownsRow 0 e 1 (.slice (some ⟨g, 0, none⟩) n cap) n xs) (hf : ∀ i, i < n → xs[i]? = some (f i)) (hn : 0 < n) : Row w g n f := by
  obtain ⟨h1, h2⟩ := h
  rcases h2 with ⟨_, h2⟩ | ⟨g', cap', cur, hv, hg, hh, hcap, _, hsz, ht⟩
  · omega
  · simp only [Value.slice.injEq, Option.some.injEq, Addr.mk.injEq, and_true, true_and] at hv
    obtain ⟨rfl, rfl⟩ := hv
    refine ⟨cur, e, hh, by omega, fun i hi => ?_⟩
    have : (cur.toList.take (n * 1))[i]? = cur[i]? := by rw [List.getElem?_take, if_pos (by omega)]; simp
    rw [← this, ht]
    exact hf i hi
theorem own_empty {w : World} {B : Nat} {e : TypeId} (h : w.heap[B]? = some (.cells #[] e (0, 0))) : w.ownsRow 0 e 1 (.slice (some ⟨B, 0, none⟩) 0 0) 0 [] :=
  ⟨rfl, Or.inr ⟨B, 0, #[], rfl, Nat.zero_le _, h, Nat.le_refl _, by unfold maxLen; omega, rfl, rfl⟩⟩
theorem copied_facts {w W w' : World} {g n cap : Nat} {xs : List Value} {f : Nat → Int} (own' : w'.ownsRow 0 3 1 (.slice (some ⟨g, 0, none⟩) n cap) n xs) (gr : W.grownBy w' (Value.ownBlock (.slice (some ⟨w.heap.size + 1 + 1, 0, none⟩) 0 0))) (hb : Blw w W)
    (hz : W.heap.size = w.heap.size + 1 + 1 + 1) (hx : ∀ i, i < n → xs[i]? = some (.int .i64 (f i))) (hn : 0 < n) (rW : Row W (w.heap.size + 1) 1 (fun _ => .slice none 0 0)) : (w'.cell? ⟨w.heap.size + 1, 0, none⟩ = some (.slice none 0 0) ∧ w'.frozen? ⟨w.heap.size + 1, 0, none⟩ = false) ∧ Row w' g n (fun t => .int .i64 (f t)) ∧ Mod (fun x => x = w.heap.size + 1 + 1) W w' ∧ Blw w w' ∧ w.heap.size + 1 + 1 < w'.heap.size := by
  have hm : Mod (fun x => x = w.heap.size + 1 + 1) W w' := ⟨gr.os, gr.tape, gr.output, gr.size, fun k hk hx => gr.block k hk (fun e => hx (by simpa [Value.ownBlock] using e))⟩
  have r := rW.mod hm (by omega)
  exact ⟨⟨r.cell (by omega), r.frozen 0⟩, owned_row own' hx hn, hm, Mod.blw hb hm (fun i hi => by omega), by have := gr.size; omega⟩
set_option maxRecDepth 10000 in
set_option maxHeartbeats 800000 in
theorem l1Copy_any (b0 o0 c n : Nat) (f : Nat → Int) (w : World) (hn : 0 < n) (hn2 : n ≤ 1048576) (h : ∀ i, i < n → w.cell? ⟨b0, o0 + i, none⟩ = some (.int .i64 (f i))) :
    Calls Try.prog 100 #[.agg #[.slice (some ⟨b0, o0, none⟩) n c]] w fun e w' => ∃ b cc, e = .returned (.agg #[.slice (some ⟨b, 0, none⟩) n cc]) ∧ w.heap.size ≤ b ∧ b < w'.heap.size ∧ Row w' b n (fun t => .int .i64 (f t)) ∧ Blw w w' := by
  obtain ⟨i0, hi, hz0, hz1, hz2⟩ := info_parts tinfo3
  go_enter Try.func100, Try.ntmps100
  have hbW : Blw w (((w.alloc (.cells #[.slice (some ⟨b0, o0, none⟩) n c] 126)).alloc (.cells #[.slice none 0 0] 126)).alloc (.cells #[] 3)) := (((Blw.refl _).alloc _).alloc _).alloc _
  have oW : Hid ((((w.alloc (.cells #[.slice (some ⟨b0, o0, none⟩) n c] 126)).alloc (.cells #[.slice none 0 0] 126)).alloc (.cells #[] 3)).ownsRow 0 3 1 (.slice (some ⟨w.heap.size + 1 + 1, 0, none⟩) 0 0) 0 []) := by
    refine own_empty ?_
    have := heap_alloc_new ((w.alloc (.cells #[.slice (some ⟨b0, o0, none⟩) n c] 126)).alloc (.cells #[.slice none 0 0] 126)) (.cells #[] 3)
    rw [World.size_alloc, World.size_alloc] at this
    exact this
  have rW : Hid (Row (((w.alloc (.cells #[.slice (some ⟨b0, o0, none⟩) n c] 126)).alloc (.cells #[.slice none 0 0] 126)).alloc (.cells #[] 3)) (w.heap.size + 1) 1 (fun _ => .slice none 0 0)) := by
    have one : ∀ (w : World) (a : Value) (t : TypeId), Row (w.alloc (.cells #[a] t)) w.heap.size 1 (fun _ => a) := fun w a t =>
      ⟨_, t, heap_alloc_new _ _, by simp, fun i hi => by obtain rfl : i = 0 := by omega
                                                         rfl⟩
    have := (one (w.alloc (.cells #[.slice (some ⟨b0, o0, none⟩) n c] 126)) (.slice none 0 0) 126).blw ((Blw.refl _).alloc (.cells #[] 3))
    rw [World.size_alloc] at this
    exact this
  have hsrc : Hid (∀ j u, ((List.range n).map fun i => Value.int .i64 (f i))[j]? = some u → (((w.alloc (.cells #[.slice (some ⟨b0, o0, none⟩) n c] 126)).alloc (.cells #[.slice none 0 0] 126)).alloc (.cells #[] 3)).cell? ((⟨b0, o0, none⟩ : Addr).add j) = some u) := fun j u hj => by
    have hlt : j < n := by
      have := (List.getElem?_eq_some_iff.1 hj).1
      simpa using this
    rw [Addr.add_mid, hbW.cell (h j hlt)]
    simpa [hlt] using hj
  have hone : Hid (∀ u ∈ ((List.range n).map fun i => Value.int .i64 (f i)), u.oneCell' = true) := fun u hu => by
    obtain ⟨i, _, rfl⟩ := List.mem_map.1 hu
    rfl
  obtain ⟨xs, hxs⟩ : ∃ xs, xs = ((List.range n).map fun i => Value.int .i64 (f i)) := ⟨_, rfl⟩
  rw [← hxs] at hsrc hone
  have HX : Hid (∀ i, i < n → xs[i]? = some (.int .i64 (f i))) := fun i hi => by rw [hxs]; simp [hi]
  have HL : Hid (xs.length = n) := by show xs.length = n; rw [hxs]; simp
  clear hxs h
  go_wp2_with (at_builtin; refine wpList_append_lies _ rfl (.tmp 3) (.tmp 5) 28 rfl 0 3 i0 (.int .i64 0) 1 8 Try.underlying28 hi hz0 hz1 hz2 rfl (by decide) _ 0 [] rfl oW.out ⟨b0, o0, none⟩ n c xs rfl (by rw [HL.out, Nat.mul_one]) hsrc.out hone.out hn (by unfold maxLen; omega) (by omega) (Nat.zero_le _) _ rfl ?_; intro g cap w' own' gr hg hgl; simp only [Nat.zero_add, List.nil_append] at own' hg hgl gr; have rx := copied_facts own' gr hbW (by simp) HX.out hn rW.out; clear own' gr; obtain ⟨⟨y1, y2⟩, x1, x2, x3, x4⟩ := rx; simp only [Nat.zero_add])
  have hg' : w.heap.size + 1 < g ∧ g < w'.heap.size := by
    rcases hg with hg | hg
    · have hg1 : some (w.heap.size + 1 + 1) = some g := hg
      simp only [Option.some.injEq] at hg1; omega
    · simp at hg; omega
  refine bodyPost_ret (v := .agg #[.slice (some ⟨g, 0, none⟩) n cap]) (by simp [results, Try.results100, go_sem, y1]) rfl ⟨g, cap, rfl, by omega, by simpa using hg'.2, x1.setOther (by show g ≠ w.heap.size + 1; omega) _, x3.setCell (by show w.heap.size ≤ w.heap.size + 1; omega) _⟩
end Go.Proofs.Ytglllnklcnlcjaa
