/- Cells that are drawn. -/
import Derived.Test.YtagjfkkjmgfoiaaDraw
import Derived.Test.YtagjfkkjmgfoiaaPut
namespace Go.Proofs.Ytagjfkkjmgfoiaa
open Go.RowKit
set_option linter.unusedSimpArgs false
set_option linter.unusedVariables false
/-- A list of i numbers that is built behind w, while the cursor at C goes on. -/
structure Bld (Y : Nat → Prop) (w wr : World) (C k : Nat) (v : Value) (i : Nat) : Prop where
  mod : Mod (fun b => b = C) w wr
  cur : Cur Y wr C k
  ex : ∃ c, BufI (fun b => w.heap.size ≤ b ∧ b < wr.heap.size) wr v i c
theorem Mod.newer' {X Z : Nat → Prop} {a b c : World} (h : Mod X a b) (k : Mod Z b c) (hz : ∀ i, Z i → a.heap.size ≤ i) : Mod X a c :=
  ⟨k.os.trans h.os, k.tape.trans h.tape, k.output.trans h.output, Nat.le_trans h.size k.size, fun i hi hx => (k.block i (Nat.lt_of_lt_of_le hi h.size) (fun e => by have := hz i e; omega)).trans (h.block i hi hx)⟩
def upd' (c : Nat → Int) (n : Nat) (x : Int) : Nat → Int := fun i => if i = n then x else c i
/-- A cell of a list of one's own, written. -/
theorem Buf.set1 {X : Nat → Prop} {w : World} {g cap n : Nat} {c : Nat → Int} (h : BufI X w (.slice (some ⟨g, 0, none⟩) n cap) n c) (j : Nat) (hj : j < n) (x : Int) : BufI X (w.setCell ⟨g, j, none⟩ (.int .i64 x)) (.slice (some ⟨g, 0, none⟩) n cap) n (upd' c j x) := by
  refine ⟨⟨by simp, Or.inr ?_⟩, h.2⟩
  rcases h.1.2 with ⟨e, -⟩ | ⟨g', cap', cur, e, h1, hb, h2, h3, h4, h5⟩
  · cases e
  · cases e
    refine ⟨g, cap, cur.setIfInBounds j (.int .i64 x), rfl, h1, by simp [World.setCell, Array.getElem?_modify, hb], h2, h3, by simpa using h4, ?_⟩
    rw [Nat.mul_one] at h5 ⊢
    apply List.ext_getElem?
    intro i
    by_cases hi : i < n
    · have h6 := congrArg (fun l => l[i]?) h5
      simp [hi] at h6
      simp only [List.getElem?_take, hi, if_true, Array.toList_setIfInBounds, List.getElem?_set, List.getElem?_map, List.getElem?_range hi, Option.map_some, ic, upd']
      by_cases e : j = i
      · subst e
        have : j < cur.size := by omega
        simp [this]
      · have e' : ¬ i = j := fun h => e h.symm
        simp [e, e', h6]
    · simp [hi]; omega
theorem Bld.cur' {Y : Nat → Prop} {w wr w1 : World} {C k k' : Nat} {v : Value} {i : Nat} (h : Bld Y w wr C k v i) (hC : C < w.heap.size) (hc : Cur Y w1 C k') (hm : Mod (fun b => b = C) wr w1) : Bld Y w w1 C k' v i := by
  obtain ⟨c, hb⟩ := h.ex
  have hs := hm.size
  exact ⟨h.mod.trans hm, hc, c, (Buf.mod hb hm (fun b hb e => by omega)).mono (fun b hb => by omega)⟩
theorem Bld.push {Y : Nat → Prop} {w wr : World} {C k : Nat} {v : Value} {i : Nat} (h : Bld Y w wr C k v i) (hi : i ≤ 100) (hC : C < w.heap.size) (hY : ∀ b, Y b → b < w.heap.size) (x : Int) :
    ∃ ao cap w', (Builtin.append_ #[23, 23] 23 #[v, .slice (some ⟨wr.heap.size, 0, none⟩) 1 1]).run Try.prog (wr.alloc (.cells #[.int .i64 x] 3)) = .ok (.slice ao (i + 1) cap) w' ∧ Bld Y w w' C k (.slice ao (i + 1) cap) (i + 1) := by
  obtain ⟨c, hb⟩ := h.ex
  obtain ⟨ao, cap, w', hr, hB, hM⟩ := pushI hb (by omega) x
  have hx : ∀ b, v.ownBlock = some b → w.heap.size ≤ b := fun b hh => (hb.2 b hh).1
  have hs := h.mod.size
  refine ⟨ao, cap, w', hr, h.mod.newer' hM hx, h.cur.mod hM (fun e => by have := hx _ e; omega) (fun b hb' e => by have := hY b hb'; have := hx b e; omega), _, hB.mono (fun b hb' => ⟨?_, hb'.2⟩)⟩
  rcases hb'.1 with h1 | h1
  · exact h1.1
  · omega
set_option maxRecDepth 10000 in
set_option maxHeartbeats 3200000 in
theorem cells_any (Y : Nat → Prop) (C k : Nat) (w : World) (hk : k ≤ 800000) (hY : ∀ b, Y b → b < w.heap.size ∧ b ≠ C) (h : Cur Y w C k) :
    Calls Try.prog 74 #[.pointer (some ⟨C, 0, none⟩)] w fun e w' => ∃ v, e = .returned v ∧ Bld Y w w' C (k + 100) v 8 := by
  have hC := h.lt
  have H0 : Hid (Bld Y w w C k (.slice none 0 0) 0) := ⟨Mod.refl _ _, h, fun _ => 0, Buf.nil _ _ _ _ _⟩
  clear h
  go_enter Try.func74, Try.ntmps74
  go_wp2_with fail
  go_loopw [3, 4] (fun v i wr => ∃ j : Nat, j ≤ 8 ∧ i = .int .i64 j ∧ Bld Y w wr C (k + 2 * j) v j) (fun _ i _ => 8 - (intOf i).toNat)
  case atStart => exact ⟨0, by omega, rfl, H0.out⟩
  case round =>
    obtain ⟨j, hj, rfl, hb⟩ := hrel
    clear H0
    have HB : Hid (Bld Y w wr C (k + 2 * j) u3 j) := hb
    clear hb
    by_cases hlt : j < 8
    · have hlt' : (j : Int) < 8 := by omega
      go_wp2_with fail
      refine (pick_any Y C (k + 2 * j) 9 _ (by omega) (by omega) HB.out.cur).mono ?_
      rintro e w1 ⟨x, rfl, hx, hc1, hm1⟩
      obtain ⟨ao, cap, w2, hrun, hB2⟩ := (HB.out.cur' hC hc1 hm1).push (by omega) hC (fun b hb => (hY b hb).1) x
      have HRN : Hid _ := hrun
      have HB2 : Hid (Bld Y w w2 C (k + 2 * j + 2) (.slice ao (j + 1) cap) (j + 1)) := hB2
      clear hrun hB2 hc1 hm1 HB
      go_wp2_with (first | (at_builtin; refine wpList_app (.tmp 9) (.tmp 12) 23 (by rfl) ?_; refine ⟨_, _, HRN.out, ?_⟩) | fail)
      go_wp2
      go_roundw
      case rel => exact ⟨j + 1, by omega, by go_num, HB2.out⟩
      case measure => simp [intOf]; omega
    · obtain rfl : j = 8 := by omega
      go_wp2_with fail
      refine (one_any Y C (k + 2 * 8) 20 _ (by omega) (by omega) HB.out.cur).mono ?_
      rintro e w1 ⟨r, rfl, hc1, hm1⟩
      have HB1 : Hid (Bld Y w w1 C (k + 2 * 8 + 2) u3 8) := HB.out.cur' hC hc1 hm1
      clear HB hc1 hm1
      cases r
      · go_wp2
        go_ret
        exact ⟨_, rfl, HB1.out.mod, HB1.out.cur.le (by omega), HB1.out.ex⟩
      · obtain ⟨c, hbf⟩ := HB1.out.ex
        obtain ⟨ao, cap, rfl, hio⟩ := BufI.own hbf (by omega)
        have hA : Blw w1 (w1.alloc (.cells #[.int .i64 (-1), .int .i64 65535, .int .i64 65536] 3)) := (Blw.refl _).alloc _
        have HI3 : Hid (IntsAt (fun b => b = w1.heap.size) (w1.alloc (.cells #[.int .i64 (-1), .int .i64 65535, .int .i64 65536] 3)) (some ⟨w1.heap.size, 0, none⟩) 3 (fun i => if i = 0 then -1 else if i = 1 then 65535 else 65536)) := by
          have r3 := box3 w1 (.int .i64 (-1)) (.int .i64 65535) (.int .i64 65536) 3
          refine ⟨by omega, fun i hi => ⟨w1.heap.size, 0, rfl, rfl, ?_⟩⟩
          rw [Nat.zero_add, r3.cell hi]
          match i, hi with
          | 0, _ => rfl
          | 1, _ => rfl
          | 2, _ => rfl
        have hs1 := HB1.out.mod.size
        have HC1 : Hid (Cur Y (w1.alloc (.cells #[.int .i64 (-1), .int .i64 65535, .int .i64 65536] 3)) C (k + 2 * 8 + 2)) := HB1.out.cur.blw hA
        have HBF : Hid (BufI (fun b => w.heap.size ≤ b ∧ b < w1.heap.size) (w1.alloc (.cells #[.int .i64 (-1), .int .i64 65535, .int .i64 65536] 3)) (.slice ao 8 cap) 8 c) := Buf.blw hbf hA
        have HM1 : Hid (Mod (fun b => b = C) w (w1.alloc (.cells #[.int .i64 (-1), .int .i64 65535, .int .i64 65536] 3))) := HB1.out.mod.trans (hA.mod _)
        clear hbf hio HB1 hA
        go_wp2_with fail
        refine (among_any Y _ C (k + 2 * 8 + 2) _ 3 3 _ _ (by omega) (by omega) HI3.out (fun b hb => by omega) HC1.out).mono ?_
        rintro e w2 ⟨x, rfl, hc2, hm2⟩
        have hb2 := Buf.mod HBF.out hm2 (fun b hb e => by omega)
        obtain ⟨_, _, e0, hrow⟩ := Buf.form hb2
        cases e0
        obtain ⟨g, hg, rfl, hr⟩ := hrow (by omega)
        have c0 : w2.cell? ⟨g, 0, none⟩ = some (.int .i64 (c 0)) := hr.cell (i := 0) (by omega)
        have f0 := hr.frozen 0
        have hs2 := hm2.size
        rw [World.size_alloc] at hs2
        have ms : Mod (fun b => b = g) w2 (w2.setCell ⟨g, 0, none⟩ (.int .i64 x)) := Mod.setCell (X := fun b => b = g) _ (p := ⟨g, 0, none⟩) rfl _
        have HF : Hid (Bld Y w (w2.setCell ⟨g, 0, none⟩ (.int .i64 x)) C (k + 100) (.slice (some ⟨g, 0, none⟩) 8 cap) 8) := by
          have hs3 := ms.size
          refine ⟨(HM1.out.trans hm2).newer' (X := fun b => b = C) (Z := fun b => b = g) ms (fun b e => by omega), (hc2.le (by omega)).mod ms (by omega) (fun b hb e => by have := hY b hb; omega), upd' c 0 x, ?_⟩
          exact (Buf.set1 hb2 0 (by omega) x).mono (fun b hb => by omega)
        clear hb2 hrow hr hc2 hm2 HBF HC1 HM1 HI3 ms hg hs2 hs1
        go_wp2
        go_ret
        exact ⟨_, rfl, HF.out⟩
end Go.Proofs.Ytagjfkkjmgfoiaa
