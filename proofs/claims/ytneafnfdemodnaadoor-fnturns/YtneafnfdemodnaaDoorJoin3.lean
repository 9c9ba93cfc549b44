/- Merged by program, in this order: DrawB, Dt, Dc, Dd, Fs. -/
import Derived.Test.YtneafnfdemodnaaDoorJoin2
/- What is built while the reader of bytes goes on. -/
namespace Go.Proofs.YtneafnfdemodnaaDoor
open Go.RowKit
set_option linter.unusedSimpArgs false
set_option linter.unusedVariables false
/-- A list of i numbers that is built behind w, while the cursor at C goes on. -/
structure Bld (Y : Nat → Prop) (w wr : World) (C k : Nat) (v : Value) (i : Nat) : Prop where
  mod : Mod (fun b => b = C) w wr
  cur : Cur Y wr C k
  ex : ∃ c, BufI (fun b => w.heap.size ≤ b ∧ b < wr.heap.size) wr v i c
theorem Mod.newerC {X Z : Nat → Prop} {a b c : World} (h : Mod X a b) (k : Mod Z b c) (hz : ∀ i, Z i → a.heap.size ≤ i) : Mod X a c :=
  ⟨k.os.trans h.os, k.tape.trans h.tape, k.output.trans h.output, Nat.le_trans h.size k.size, fun i hi hx => (k.block i (Nat.lt_of_lt_of_le hi h.size) (fun e => by have := hz i e; omega)).trans (h.block i hi hx)⟩
def upd' (c : Nat → Int) (n : Nat) (x : Int) : Nat → Int := fun i => if i = n then x else c i
/-- A cell of a list of one's own, written. -/
theorem Buf.set1 {X : Nat → Prop} {w : World} {g cap n : Nat} {c : Nat → Int} (h : BufI X w (.slice (some ⟨g, 0, none⟩) n cap) n c) (j : Nat) (hj : j < n) (x : Int) : BufI X (w.setCell ⟨g, j, none⟩ (.int .i64 x)) (.slice (some ⟨g, 0, none⟩) n cap) n (upd' c j x) := by
  refine ⟨⟨by simp, Or.inr ?_⟩, h.2⟩
  rcases h.1.2 with ⟨e, -⟩ | ⟨g', cap', cur, e, h1, hb, h2, h3, h4, h5⟩
  · cases e
  · cases e
    refine ⟨g, cap, cur.setIfInBounds j (.int .i64 x), rfl, h1, by simp [World.setCell, Array.getElem?_modify, hb], h2, h3, by simpa using h4, ?_⟩
    rw [Nat.mul_one] at h5 ⊢
    apply List.ext_getElem?
    intro i
    by_cases hi : i < n
    · have h6 := congrArg (fun l => l[i]?) h5
      simp [hi] at h6
      simp only [List.getElem?_take, hi, if_true, Array.toList_setIfInBounds, List.getElem?_set, List.getElem?_map, List.getElem?_range hi, Option.map_some, ic, upd']
      by_cases e : j = i
      · subst e
        have : j < cur.size := by omega
        simp [this]
      · have e' : ¬ i = j := fun h => e h.symm
        simp [e, e', h6]
    · simp [hi]; omega
theorem Bld.cur' {Y : Nat → Prop} {w wr w1 : World} {C k k' : Nat} {v : Value} {i : Nat} (h : Bld Y w wr C k v i) (hC : C < w.heap.size) (hc : Cur Y w1 C k') (hm : Mod (fun b => b = C) wr w1) : Bld Y w w1 C k' v i := by
  obtain ⟨c, hb⟩ := h.ex
  have hs := hm.size
  exact ⟨h.mod.trans hm, hc, c, (Buf.mod hb hm (fun b hb e => by omega)).mono (fun b hb => by omega)⟩
theorem Bld.push {Y : Nat → Prop} {w wr : World} {C k : Nat} {v : Value} {i : Nat} (h : Bld Y w wr C k v i) (hi : i ≤ 100) (hC : C < w.heap.size) (hY : ∀ b, Y b → b < w.heap.size) (x : Int) :
    ∃ ao cap w', (Builtin.append_ #[23, 23] 23 #[v, .slice (some ⟨wr.heap.size, 0, none⟩) 1 1]).run Tryd.prog (wr.alloc (.cells #[.int .i64 x] 3)) = .ok (.slice ao (i + 1) cap) w' ∧ Bld Y w w' C k (.slice ao (i + 1) cap) (i + 1) := by
  obtain ⟨c, hb⟩ := h.ex
  obtain ⟨ao, cap, w', hr, hB, hM⟩ := BufI.push hb (by omega) x
  have hx : ∀ b, v.ownBlock = some b → w.heap.size ≤ b := fun b hh => (hb.2 b hh).1
  have hs := h.mod.size
  refine ⟨ao, cap, w', hr, h.mod.newerC hM hx, h.cur.mod hM (fun e => by have := hx _ e; omega) (fun b hb' e => by have := hY b hb'; have := hx b e; omega), _, Buf.mono hB (fun b hb' => ⟨?_, hb'.2⟩)⟩
  rcases hb'.1 with h1 | h1
  · exact h1.1
  · omega
theorem one_any (Y : Nat → Prop) (C k : Nat) (N : Int) (w : World) (hk : k ≤ 900000) (hN : 1 < N) (h : Cur Y w C k) :
    Calls Tryd.prog 63 #[.pointer (some ⟨C, 0, none⟩), .int .i64 N] w fun e w' => ∃ r, e = .returned (.bool r) ∧ Cur Y w' C (k + 2) ∧ Mod (fun b => b = C) w w' := by
  go_enter Tryd.func63, Tryd.ntmps63
  go_wp2_with fail
  refine (pick_any Y C k N _ hk hN h).mono ?_
  rintro e w1 ⟨x, rfl, hx, hc, hm⟩
  clear h
  go_wp2
  go_ret
  exact ⟨_, rfl, hc, hm⟩
theorem among_mem (Y Y2 : Nat → Prop) (C k : Nat) (ao : Option Addr) (n c : Nat) (f : Nat → Int) (w : World) (hk : k ≤ 900000) (hn : 1 < n) (hI : IntsAt Y2 w ao n f) (hY2 : ∀ b, Y2 b → b ≠ C) (h : Cur Y w C k) :
    Calls Tryd.prog 52 #[.pointer (some ⟨C, 0, none⟩), .slice ao n c] w fun e w' => ∃ i : Nat, i < n ∧ e = .returned (.int .i64 (f i)) ∧ Cur Y w' C (k + 2) ∧ Mod (fun b => b = C) w w' := by
  have HI : Hid (IntsAt Y2 w ao n f) := hI
  clear hI
  go_enter Tryd.func52, Tryd.ntmps52
  go_wp2_with fail
  refine (pick_any Y C k n _ hk (by omega) h).mono ?_
  rintro e w1 ⟨x, rfl, hx, c1, m1⟩
  obtain ⟨b, o, rfl, -, q⟩ := (HI.out.mod m1 (fun b hb => hY2 b hb)).2 x (by omega)
  clear h
  go_wp2
  go_ret
  exact ⟨x, by omega, rfl, c1, m1⟩
theorem ints_lit (W : World) (l : List Int) (hl : l.length ≤ 1000) : IntsAt (fun b => b = W.heap.size) (W.alloc (.cells (l.map (Value.int .i64)).toArray 3)) (some ⟨W.heap.size, 0, none⟩) l.length (fun i => l.getD i 0) := by
  have r : Row (W.alloc (.cells (l.map (Value.int .i64)).toArray 3)) W.heap.size l.length (fun i => .int .i64 (l.getD i 0)) := ⟨_, 3, heap_alloc_new _ _, by simp, fun i hi => by simp [List.getD, hi]⟩
  exact ⟨by omega, fun i hi => ⟨W.heap.size, 0, rfl, rfl, by rw [Nat.zero_add, r.cell hi]⟩⟩
set_option maxHeartbeats 800000 in
theorem numberOf_any (ao : Option Addr) (n cc : Nat) (f : Nat → Int) (Y : Nat → Prop) (w : World) (h : BytesAt Y w ao n f) :
    Calls Tryd.prog 13 #[.slice ao n cc] w fun r w' => ∃ x : Nat, r = .returned (.int .i64 x) ∧ x < 1000003 ∧ w' = w := by
  have HH : Hid (BytesAt Y w ao n f) := h
  have hn := h.1
  clear h
  go_enter Tryd.func13, Tryd.ntmps13
  go_wp2_with fail
  go_loopw [3, 8] (fun v i wr => ∃ k x : Nat, k ≤ n ∧ i = .int .i64 k ∧ v = .int .i64 x ∧ x < 1000003 ∧ wr = w) (fun _ i _ => n - (intOf i).toNat)
  case atStart => exact ⟨0, 0, Nat.zero_le _, rfl, rfl, by omega, rfl⟩
  case round =>
    obtain ⟨k, x, hk, rfl, rfl, hx, rfl⟩ := hrel
    by_cases hlt : k < n
    · have hlt' : (k : Int) < n := by omega
      obtain ⟨b, o, rfl, -, q, x0, x1⟩ := HH.out.2 k hlt
      obtain ⟨y, hy⟩ := Int.eq_ofNat_of_zero_le x0
      rw [hy] at q x0 x1
      obtain ⟨z, hz, hz3⟩ : ∃ z : Nat, (31 * (x : Int) + y) % 1000003 = z ∧ z < 1000003 := ⟨(31 * x + y) % 1000003, by omega, by omega⟩
      have hm : (31 * (x : Int) + y).tmod 1000003 = z := by rw [Int.tmod_eq_emod_of_nonneg (by omega)]; exact hz
      clear hy
      go_wp2
      go_roundw
      case rel => exact ⟨k + 1, z, by omega, by go_num, by first | rfl | (congr 1), hz3, by first | rfl | trivial⟩
      case measure => simp [intOf]; omega
    · obtain rfl : k = n := by omega
      go_wp2
      go_ret
      exact ⟨x, rfl, hx, rfl⟩
end Go.Proofs.YtneafnfdemodnaaDoor
/- Tickets and clients that are drawn. -/
namespace Go.Proofs.YtneafnfdemodnaaDoor
open Go.RowKit
set_option linter.unusedSimpArgs false
set_option linter.unusedVariables false
set_option maxRecDepth 10000 in
set_option maxHeartbeats 6400000 in
theorem tickets_any (Y : Nat → Prop) (C k : Nat) (w : World) (hk : k ≤ 700000) (hY : ∀ b, Y b → b < w.heap.size ∧ b ≠ C) (h : Cur Y w C k) :
    Calls Tryd.prog 39 #[.pointer (some ⟨C, 0, none⟩)] w fun e w' => ∃ v n, e = .returned v ∧ n ≤ 7 ∧ Bld Y w w' C (k + 100) v n := by
  have hC := h.lt
  have H0 : Hid (Bld Y w w C k (.slice none 0 0) 0) := ⟨Mod.refl _ _, h, fun _ => 0, Buf.nil _ _ _ _ _⟩
  clear h
  go_enter Tryd.func39, Tryd.ntmps39
  go_wp2_with fail
  refine (pick_any Y C k 5 _ (by omega) (by omega) H0.out.cur).mono ?_
  rintro e w1 ⟨x, rfl, hx, hc1, hm1⟩
  have e1 : IntKind.i64.wrap (1 + (x : Int)) = 1 + x := by rw [IntKind.wrap_i64] <;> omega
  have HB1 : Hid (Bld Y w w1 C (k + 2) (.slice none 0 0) 0) := H0.out.cur' hC hc1 hm1
  clear H0 hc1 hm1
  go_wp2_with fail
  clear e1
  refine (one_any Y C (k + 2) 20 _ (by omega) (by omega) HB1.out.cur).mono ?_
  rintro e w2 ⟨r, rfl, hc1, hm1⟩
  have HB2 : Hid (Bld Y w w2 C (k + 2 + 2) (.slice none 0 0) 0) := HB1.out.cur' hC hc1 hm1
  clear HB1 hc1 hm1
  cases r
  · obtain ⟨m0, hm0, em0⟩ : ∃ m0 : Nat, m0 ≤ 7 ∧ 1 + (x : Int) = (m0 : Int) := ⟨1 + x, by omega, by omega⟩
    rw [em0]
    have HB : Hid (Bld Y w w2 C (k + 4) (.slice none 0 0) 0) := HB2.out
    clear HB2 em0 hx
    go_wp2_with fail
    go_loopw [3, 4] (fun v mv wr => ∃ j m : Nat, j + m ≤ 7 ∧ mv = .int .i64 m ∧ Bld Y w wr C (k + 6 + 2 * j) v j) (fun _ mv _ => (intOf mv).toNat)
    case atStart => exact ⟨0, m0, by omega, by first | rfl | (congr 1; omega), HB.out.mod, HB.out.cur.le (by omega), HB.out.ex⟩
    case round =>
      obtain ⟨j, m, hj, rfl, hb⟩ := hrel
      clear HB
      have HB : Hid (Bld Y w wr C (k + 6 + 2 * j) u3 j) := hb
      clear hb
      by_cases hlt : 0 < m
      · have hlt' : (m : Int) > 0 := by omega
        go_wp2_with fail
        refine (pick_any Y C (k + 6 + 2 * j) 12 _ (by omega) (by omega) HB.out.cur).mono ?_
        rintro e w1 ⟨x, rfl, hx, hc1, hm1⟩
        have e1 : IntKind.i64.wrap (1 + (x : Int)) = 1 + x := by rw [IntKind.wrap_i64] <;> omega
        obtain ⟨ao, cap, w2, hrun, hB2⟩ := (HB.out.cur' hC hc1 hm1).push (by omega) hC (fun b hb => (hY b hb).1) (1 + (x : Int))
        have HRN : Hid _ := hrun
        have HB2 : Hid (Bld Y w w2 C (k + 6 + 2 * j + 2) (.slice ao (j + 1) cap) (j + 1)) := hB2
        clear hrun hB2 hc1 hm1 HB
        go_wp2_with (first | (at_builtin; refine wpList_append_at rfl (.tmp 17) (.tmp 21) 23 rfl ?_; refine ⟨_, _, HRN.out, ?_⟩) | fail)
        go_roundw
        case rel => exact ⟨j + 1, m - 1, by omega, by congr 1; omega, HB2.out.mod, HB2.out.cur.le (by omega), HB2.out.ex⟩
        case measure => simp [intOf]; omega
      · obtain rfl : m = 0 := by omega
        have HB1 : Hid (Bld Y w wr C (k + 20) u3 j) := ⟨HB.out.mod, HB.out.cur.le (by omega), HB.out.ex⟩
        clear HB
        obtain ⟨c, hbf⟩ := HB1.out.ex
        obtain ⟨ao, cap, rfl, hio⟩ := BufI.own hbf (by omega)
        by_cases h0 : j = 0
        · subst h0
          clear hbf hio
          go_wp2
          go_ret
          exact ⟨_, 0, rfl, by omega, HB1.out.mod, HB1.out.cur.le (by omega), HB1.out.ex⟩
        have h0' : decide ((j : Int) > 0) = true := by simp; omega
        have HBF : Hid (BufI (fun b => w.heap.size ≤ b ∧ b < wr.heap.size) wr (.slice ao j cap) j c) := hbf
        clear hbf hio
        go_wp2_with fail
        clear h0'
        refine (one_any Y C (k + 20) 20 _ (by omega) (by omega) HB1.out.cur).mono ?_
        rintro e w1 ⟨r, rfl, hc1, hm1⟩
        have HB2 : Hid (Bld Y w w1 C (k + 20 + 2) (.slice ao j cap) j) := HB1.out.cur' hC hc1 hm1
        have hbf1 := Buf.mod HBF.out hm1 (fun b hb e => by omega)
        have hs1 := hm1.size
        have HBF1 : Hid (BufI (fun b => w.heap.size ≤ b ∧ b < w1.heap.size) w1 (.slice ao j cap) j c) := Buf.mono hbf1 (fun b hb => ⟨hb.1, Nat.lt_of_lt_of_le hb.2 hs1⟩)
        clear HB1 hc1 hm1 hbf1 hs1 HBF
        cases r
        · go_wp2
          go_ret
          exact ⟨_, j, rfl, by omega, HB2.out.mod, HB2.out.cur.le (by omega), HB2.out.ex⟩
        · have hA : Blw w1 (w1.alloc (.cells #[.int .i64 0, .int .i64 13] 3)) := (Blw.refl _).alloc _
          have HI3 : Hid (IntsAt (fun b => b = w1.heap.size) (w1.alloc (.cells #[.int .i64 0, .int .i64 13] 3)) (some ⟨w1.heap.size, 0, none⟩) 2 (fun i => [0, 13].getD i 0)) := ints_lit w1 [0, 13] (by decide)
          have hs1 := HB2.out.mod.size
          have HC1 : Hid (Cur Y (w1.alloc (.cells #[.int .i64 0, .int .i64 13] 3)) C (k + 20 + 2)) := HB2.out.cur.blw hA
          have HBF2 : Hid (BufI (fun b => w.heap.size ≤ b ∧ b < w1.heap.size) (w1.alloc (.cells #[.int .i64 0, .int .i64 13] 3)) (.slice ao j cap) j c) := Buf.blw HBF1.out hA
          have HM1 : Hid (Mod (fun b => b = C) w (w1.alloc (.cells #[.int .i64 0, .int .i64 13] 3))) := HB2.out.mod.trans (hA.mod _)
          clear HB2 hA HBF1
          go_wp2_with fail
          refine (among_any Y _ C (k + 20 + 2) _ 2 2 _ _ (by omega) (by omega) HI3.out (fun b hb => by omega) HC1.out).mono ?_
          rintro e w2 ⟨z, rfl, hc2, hm2⟩
          have hb2 := Buf.mod HBF2.out hm2 (fun b hb e => by omega)
          obtain ⟨_, _, e0, hrow⟩ := Buf.form hb2
          cases e0
          obtain ⟨g, hg, rfl, hr⟩ := hrow (by omega)
          have c0 : w2.cell? ⟨g, 0, none⟩ = some (.int .i64 (c 0)) := hr.cell (i := 0) (by omega)
          have f0 := hr.frozen 0
          have hs2 := hm2.size
          rw [World.size_alloc] at hs2
          have hj0 : (0 : Int) < (j : Int) := by omega
          have ms : Mod (fun b => b = g) w2 (w2.setCell ⟨g, 0, none⟩ (.int .i64 z)) := Mod.setCell (X := fun b => b = g) _ (p := ⟨g, 0, none⟩) rfl _
          have HF : Hid (Bld Y w (w2.setCell ⟨g, 0, none⟩ (.int .i64 z)) C (k + 100) (.slice (some ⟨g, 0, none⟩) j cap) j) := by
            have hs3 := ms.size
            refine ⟨(HM1.out.trans hm2).newerC (X := fun b => b = C) (Z := fun b => b = g) ms (fun b e => by omega), (hc2.le (by omega)).mod ms (by omega) (fun b hb e => by have := hY b hb; omega), upd' c 0 z, ?_⟩
            exact (Buf.set1 hb2 0 (by omega) z).mono (fun b hb => by omega)
          clear hb2 hrow hr hc2 hm2 HBF2 HC1 HM1 HI3 ms hg hs2 hs1
          go_wp2
          go_ret
          exact ⟨_, j, rfl, by omega, HF.out⟩
  · have hA : Blw w2 (w2.alloc (.cells #[.int .i64 0, .int .i64 6, .int .i64 7] 3)) := (Blw.refl _).alloc _
    have HI3 : Hid (IntsAt (fun b => b = w2.heap.size) (w2.alloc (.cells #[.int .i64 0, .int .i64 6, .int .i64 7] 3)) (some ⟨w2.heap.size, 0, none⟩) 3 (fun i => [0, 6, 7].getD i 0)) := ints_lit w2 [0, 6, 7] (by decide)
    have HB3 : Hid (Bld Y w (w2.alloc (.cells #[.int .i64 0, .int .i64 6, .int .i64 7] 3)) C (k + 4) (.slice none 0 0) 0) := ⟨HB2.out.mod.trans (hA.mod _), HB2.out.cur.blw hA, fun _ => 0, Buf.nil _ _ _ _ _⟩
    have hs2 := HB2.out.mod.size
    clear HB2 hA
    go_wp2_with fail
    refine (among_mem Y _ C (k + 4) _ 3 3 _ _ (by omega) (by omega) HI3.out (fun b hb => by omega) HB3.out.cur).mono ?_
    rintro e w3 ⟨y, hy, rfl, hc1, hm1⟩
    have HB : Hid (Bld Y w w3 C (k + 6) (.slice none 0 0) 0) := HB3.out.cur' hC hc1 hm1
    obtain ⟨m0, hm0, em0⟩ : ∃ m0 : Nat, m0 ≤ 7 ∧ ([0, 6, 7].getD y 0 : Int) = (m0 : Int) := by
      rcases (show y = 0 ∨ y = 1 ∨ y = 2 by omega) with rfl | rfl | rfl
      · exact ⟨0, by omega, rfl⟩
      · exact ⟨6, by omega, rfl⟩
      · exact ⟨7, by omega, rfl⟩
    rw [em0]
    clear HB3 hc1 hm1 HI3 em0 hy hx hs2
    go_wp2_with fail
    go_loopw [3, 4] (fun v mv wr => ∃ j m : Nat, j + m ≤ 7 ∧ mv = .int .i64 m ∧ Bld Y w wr C (k + 6 + 2 * j) v j) (fun _ mv _ => (intOf mv).toNat)
    case atStart => exact ⟨0, m0, by omega, by first | rfl | (congr 1; omega), HB.out.mod, HB.out.cur.le (by omega), HB.out.ex⟩
    case round =>
      obtain ⟨j, m, hj, rfl, hb⟩ := hrel
      clear HB
      have HB : Hid (Bld Y w wr C (k + 6 + 2 * j) u3 j) := hb
      clear hb
      by_cases hlt : 0 < m
      · have hlt' : (m : Int) > 0 := by omega
        go_wp2_with fail
        refine (pick_any Y C (k + 6 + 2 * j) 12 _ (by omega) (by omega) HB.out.cur).mono ?_
        rintro e w1 ⟨x, rfl, hx, hc1, hm1⟩
        have e1 : IntKind.i64.wrap (1 + (x : Int)) = 1 + x := by rw [IntKind.wrap_i64] <;> omega
        obtain ⟨ao, cap, w2, hrun, hB2⟩ := (HB.out.cur' hC hc1 hm1).push (by omega) hC (fun b hb => (hY b hb).1) (1 + (x : Int))
        have HRN : Hid _ := hrun
        have HB2 : Hid (Bld Y w w2 C (k + 6 + 2 * j + 2) (.slice ao (j + 1) cap) (j + 1)) := hB2
        clear hrun hB2 hc1 hm1 HB
        go_wp2_with (first | (at_builtin; refine wpList_append_at rfl (.tmp 17) (.tmp 21) 23 rfl ?_; refine ⟨_, _, HRN.out, ?_⟩) | fail)
        go_roundw
        case rel => exact ⟨j + 1, m - 1, by omega, by congr 1; omega, HB2.out.mod, HB2.out.cur.le (by omega), HB2.out.ex⟩
        case measure => simp [intOf]; omega
      · obtain rfl : m = 0 := by omega
        have HB1 : Hid (Bld Y w wr C (k + 20) u3 j) := ⟨HB.out.mod, HB.out.cur.le (by omega), HB.out.ex⟩
        clear HB
        obtain ⟨c, hbf⟩ := HB1.out.ex
        obtain ⟨ao, cap, rfl, hio⟩ := BufI.own hbf (by omega)
        by_cases h0 : j = 0
        · subst h0
          clear hbf hio
          go_wp2
          go_ret
          exact ⟨_, 0, rfl, by omega, HB1.out.mod, HB1.out.cur.le (by omega), HB1.out.ex⟩
        have h0' : decide ((j : Int) > 0) = true := by simp; omega
        have HBF : Hid (BufI (fun b => w.heap.size ≤ b ∧ b < wr.heap.size) wr (.slice ao j cap) j c) := hbf
        clear hbf hio
        go_wp2_with fail
        clear h0'
        refine (one_any Y C (k + 20) 20 _ (by omega) (by omega) HB1.out.cur).mono ?_
        rintro e w1 ⟨r, rfl, hc1, hm1⟩
        have HB2 : Hid (Bld Y w w1 C (k + 20 + 2) (.slice ao j cap) j) := HB1.out.cur' hC hc1 hm1
        have hbf1 := Buf.mod HBF.out hm1 (fun b hb e => by omega)
        have hs1 := hm1.size
        have HBF1 : Hid (BufI (fun b => w.heap.size ≤ b ∧ b < w1.heap.size) w1 (.slice ao j cap) j c) := Buf.mono hbf1 (fun b hb => ⟨hb.1, Nat.lt_of_lt_of_le hb.2 hs1⟩)
        clear HB1 hc1 hm1 hbf1 hs1 HBF
        cases r
        · go_wp2
          go_ret
          exact ⟨_, j, rfl, by omega, HB2.out.mod, HB2.out.cur.le (by omega), HB2.out.ex⟩
        · have hA : Blw w1 (w1.alloc (.cells #[.int .i64 0, .int .i64 13] 3)) := (Blw.refl _).alloc _
          have HI3 : Hid (IntsAt (fun b => b = w1.heap.size) (w1.alloc (.cells #[.int .i64 0, .int .i64 13] 3)) (some ⟨w1.heap.size, 0, none⟩) 2 (fun i => [0, 13].getD i 0)) := ints_lit w1 [0, 13] (by decide)
          have hs1 := HB2.out.mod.size
          have HC1 : Hid (Cur Y (w1.alloc (.cells #[.int .i64 0, .int .i64 13] 3)) C (k + 20 + 2)) := HB2.out.cur.blw hA
          have HBF2 : Hid (BufI (fun b => w.heap.size ≤ b ∧ b < w1.heap.size) (w1.alloc (.cells #[.int .i64 0, .int .i64 13] 3)) (.slice ao j cap) j c) := Buf.blw HBF1.out hA
          have HM1 : Hid (Mod (fun b => b = C) w (w1.alloc (.cells #[.int .i64 0, .int .i64 13] 3))) := HB2.out.mod.trans (hA.mod _)
          clear HB2 hA HBF1
          go_wp2_with fail
          refine (among_any Y _ C (k + 20 + 2) _ 2 2 _ _ (by omega) (by omega) HI3.out (fun b hb => by omega) HC1.out).mono ?_
          rintro e w2 ⟨z, rfl, hc2, hm2⟩
          have hb2 := Buf.mod HBF2.out hm2 (fun b hb e => by omega)
          obtain ⟨_, _, e0, hrow⟩ := Buf.form hb2
          cases e0
          obtain ⟨g, hg, rfl, hr⟩ := hrow (by omega)
          have c0 : w2.cell? ⟨g, 0, none⟩ = some (.int .i64 (c 0)) := hr.cell (i := 0) (by omega)
          have f0 := hr.frozen 0
          have hs2 := hm2.size
          rw [World.size_alloc] at hs2
          have hj0 : (0 : Int) < (j : Int) := by omega
          have ms : Mod (fun b => b = g) w2 (w2.setCell ⟨g, 0, none⟩ (.int .i64 z)) := Mod.setCell (X := fun b => b = g) _ (p := ⟨g, 0, none⟩) rfl _
          have HF : Hid (Bld Y w (w2.setCell ⟨g, 0, none⟩ (.int .i64 z)) C (k + 100) (.slice (some ⟨g, 0, none⟩) j cap) j) := by
            have hs3 := ms.size
            refine ⟨(HM1.out.trans hm2).newerC (X := fun b => b = C) (Z := fun b => b = g) ms (fun b e => by omega), (hc2.le (by omega)).mod ms (by omega) (fun b hb e => by have := hY b hb; omega), upd' c 0 z, ?_⟩
            exact (Buf.set1 hb2 0 (by omega) z).mono (fun b hb => by omega)
          clear hb2 hrow hr hc2 hm2 HBF2 HC1 HM1 HI3 ms hg hs2 hs1
          go_wp2
          go_ret
          exact ⟨_, j, rfl, by omega, HF.out⟩
end Go.Proofs.YtneafnfdemodnaaDoor
/- Clients that are drawn; what the laws on clients draw. -/
namespace Go.Proofs.YtneafnfdemodnaaDoor
open Go.RowKit
set_option linter.unusedSimpArgs false
set_option linter.unusedVariables false
/-- A list of n clients that is built behind w, while the cursor at C goes on. -/
structure Bc (Y : Nat → Prop) (w wr : World) (C k : Nat) (a : Option Addr) (n : Nat) (F : Nat → Nat → Int) : Prop where
  mod : Mod (fun b => b = C) w wr
  cur : Cur Y wr C k
  own : KOwn 3 (fun b => w.heap.size ≤ b ∧ b < wr.heap.size) wr a n F
theorem Bc.cur' {Y : Nat → Prop} {w wr w1 : World} {C k k' : Nat} {a : Option Addr} {n : Nat} {F : Nat → Nat → Int} (h : Bc Y w wr C k a n F) (hC : C < w.heap.size) (hc : Cur Y w1 C k') (hm : Mod (fun b => b = C) wr w1) : Bc Y w w1 C k' a n F := by
  have hs := hm.size
  exact ⟨h.mod.trans hm, hc, (h.own.mod hm (fun b hb e => by omega)).mono (fun b hb => ⟨hb.1, Nat.lt_of_lt_of_le hb.2 hs⟩)⟩
theorem Bc.blw {Y : Nat → Prop} {w wr w1 : World} {C k : Nat} {a : Option Addr} {n : Nat} {F : Nat → Nat → Int} (h : Bc Y w wr C k a n F) (hb : Blw wr w1) : Bc Y w w1 C k a n F :=
  ⟨h.mod.trans (hb.mod _), h.cur.blw hb, (h.own.blw hb).mono (fun b hx => ⟨hx.1, Nat.lt_of_lt_of_le hx.2 hb.size⟩)⟩
/-- A number of the first client, written. -/
theorem Bc.set {Y : Nat → Prop} {w wr : World} {C k n g : Nat} {F : Nat → Nat → Int} (h : Bc Y w wr C k (some ⟨g, 0, none⟩) n F) (hn : 1 ≤ n) (hC : C < w.heap.size) (hY : ∀ b, Y b → b < w.heap.size) {c : Nat} (hc : c < 3) (z : Int) : Bc Y w (wr.setCell ⟨g, c, none⟩ (.int .i64 z)) C k (some ⟨g, 0, none⟩) n (updF F 0 c z) := by
  obtain ⟨g', hg, e, r⟩ := h.own.2 (by omega)
  cases e
  have ms : Mod (fun b => b = g) wr (wr.setCell ⟨g, c, none⟩ (.int .i64 z)) := Mod.setCell (X := fun b => b = g) _ (p := ⟨g, c, none⟩) rfl _
  have hs := ms.size
  have hq := setK r 0 hc z
  rw [Nat.zero_mul, Nat.zero_add] at hq
  exact ⟨h.mod.newerC ms (fun b e => by omega), h.cur.mod ms (by omega) (fun b hb e => by have := hY b hb; omega), ⟨h.own.1, fun _ => ⟨g, ⟨hg.1, Nat.lt_of_lt_of_le hg.2 hs⟩, rfl, hq⟩⟩⟩
set_option maxRecDepth 10000 in
set_option maxHeartbeats 12800000 in
theorem clients_any (Y : Nat → Prop) (C k : Nat) (w : World) (hk : k ≤ 600000) (hY : ∀ b, Y b → b < w.heap.size ∧ b ≠ C) (h : Cur Y w C k) :
    Calls Tryd.prog 51 #[.pointer (some ⟨C, 0, none⟩)] w fun e w' => ∃ a n c F, e = .returned (.slice a n c) ∧ (1 ≤ n ∧ n ≤ 6) ∧ Bc Y w w' C (k + 200) a n F := by
  have hC := h.lt
  have H0 : Hid (Cur Y w C k) := h
  clear h
  go_enter Tryd.func51, Tryd.ntmps51
  go_wp2_with fail
  refine (tickets_any Y C k _ (by omega) hY H0.out).mono ?_
  rintro e w1 ⟨v, n0, rfl, hn0, hB⟩
  obtain ⟨f, hbf⟩ := hB.ex
  obtain ⟨a0, c0, rfl, hio⟩ := BufI.own hbf (by omega)
  have HB0 : Hid (Mod (fun b => b = C) w w1 ∧ Cur Y w1 C (k + 100)) := ⟨hB.mod, hB.cur⟩
  have HI : Hid (IntsAt (fun b => w.heap.size ≤ b ∧ b < w1.heap.size) w1 a0 n0 f) := hio.at
  clear hB hbf hio H0
  go_wp2_with fail
  refine (specNew_any a0 c0 n0 f _ _ (by omega) HI.out).mono ?_
  rintro e w2 ⟨a, n, c, F, r, rfl, ho, own, hb⟩
  have hs1 := HB0.out.1.size
  cases r
  · have HB2 : Hid (Mod (fun b => b = C) w (w2.alloc (.cells #[.int .i64 1, .int .i64 2] 3)) ∧ Cur Y (w2.alloc (.cells #[.int .i64 1, .int .i64 2] 3)) C (k + 100)) := by
      have hA : Blw w2 (w2.alloc (.cells #[.int .i64 1, .int .i64 2] 3)) := (Blw.refl _).alloc _
      exact ⟨HB0.out.1.trans ((hb.trans hA).mod _), HB0.out.2.blw (hb.trans hA)⟩
    have hs2 := hb.size
    have HI2 : Hid (IntsAt (fun b => b = w2.heap.size) (w2.alloc (.cells #[.int .i64 1, .int .i64 2] 3)) (some ⟨w2.heap.size, 0, none⟩) 2 (fun i => ([1, 2] : List Int).getD i 0)) := ints_lit w2 [1, 2] (by decide)
    have HSZ : Hid (w.heap.size ≤ (w2.alloc (.cells #[.int .i64 1, .int .i64 2] 3)).heap.size) := HB2.out.1.size
    clear ho own hb HB0 HI
    go_wp2_with fail
    generalize w2.alloc (.cells #[.int .i64 1, .int .i64 2] 3) = w9 at *
    refine (specNew_any _ 2 2 _ _ _ (by omega) HI2.out).mono ?_
    rintro e w3 ⟨a, n, c, F, r, rfl, ho, own, hb⟩
    obtain ⟨-, en, -, rfl⟩ : nwGood 2 (fun i => ([1, 2] : List Int).getD i 0) ∧ n = 2 ∧ F = newC (fun i => ([1, 2] : List Int).getD i 0) ∧ r = true := by
      rcases ho with h | ⟨h, _⟩
      · exact h
      · exact absurd ⟨⟨by omega, by omega⟩, fun k hk => by
          rcases (show k = 0 ∨ k = 1 by omega) with rfl | rfl
          · exact ⟨by decide, by decide⟩
          · exact ⟨by decide, by decide⟩⟩ h
    have HB : Hid (Bc Y w w3 C (k + 100) a n F) := ⟨HB2.out.1.trans (hb.mod _), HB2.out.2.blw hb, own.mono (fun b hx => ⟨Nat.le_trans HSZ.out hx.1, hx.2⟩)⟩
    have hn : 1 ≤ n ∧ n ≤ 6 := ⟨by omega, by omega⟩
    clear en ho own hb HB2 HI2 HSZ
    go_wp2_with fail
    refine (pick_any Y C (k + 100) 30 _ (by omega) (by omega) HB.out.cur).mono ?_
    rintro e w3 ⟨x, rfl, hx, hc1, hm1⟩
    replace HB : Hid (Bc Y w w3 C (k + 102) a n F) := HB.out.cur' hC hc1 hm1
    clear hc1 hm1 hx
    go_wp2_with fail
    refine (specTurns_any a c n F (x : Int) _ _ HB.out.own.at).mono ?_
    rintro e w4 ⟨a1, n1, c1, F1, a2, n2, c2, g, r, rfl, ho, hw, hb⟩
    cases r
    · obtain ⟨aa, eaa⟩ : ∃ aa, aa = a := ⟨a, rfl⟩
      obtain ⟨nn, enn⟩ : ∃ nn, nn = n := ⟨n, rfl⟩
      obtain ⟨cc, ecc⟩ : ∃ cc, cc = c := ⟨c, rfl⟩
      obtain ⟨FF, eFF⟩ : ∃ FF, FF = F := ⟨F, rfl⟩
      subst eaa enn ecc eFF
      replace HB : Hid (Bc Y w w4 C (k + 102) aa nn FF) := HB.out.blw hb
      have hnn := hn
      clear ho hw hb hn
      go_wp2_with fail
      refine (pick_any Y C (k + 102) 30 _ (by omega) (by omega) HB.out.cur).mono ?_
      rintro e w1 ⟨x, rfl, hx, hc1, hm1⟩
      replace HB : Hid (Bc Y w w1 C (k + 104) aa nn FF) := HB.out.cur' hC hc1 hm1
      clear hc1 hm1 hx
      by_cases hx0 : x = 0
      · have dx0 : ((x : Int) == 0) = true := by simp [hx0]
        clear hx0
        obtain ⟨g, hg, rfl, -⟩ := HB.out.own.2 (by omega)
        have hA : Blw w1 (w1.alloc (.cells #[.int .i64 (-1), .int .i64 0, .int .i64 100000000, .int .i64 100000001] 3)) := (Blw.refl _).alloc _
        have HI3 : Hid (IntsAt (fun b => b = w1.heap.size) (w1.alloc (.cells #[.int .i64 (-1), .int .i64 0, .int .i64 100000000, .int .i64 100000001] 3)) (some ⟨w1.heap.size, 0, none⟩) 4 (fun i => ([-1, 0, 100000000, 100000001] : List Int).getD i 0)) := ints_lit w1 [-1, 0, 100000000, 100000001] (by decide)
        have hs1 := HB.out.mod.size
        replace HB : Hid (Bc Y w (w1.alloc (.cells #[.int .i64 (-1), .int .i64 0, .int .i64 100000000, .int .i64 100000001] 3)) C (k + 104) (some ⟨g, 0, none⟩) nn FF) := HB.out.blw hA
        clear hA hg
        go_wp2_with fail
        clear dx0
        refine (among_any Y _ C (k + 104) _ 4 4 _ _ (by omega) (by omega) HI3.out (fun b hb => by omega) HB.out.cur).mono ?_
        rintro e w2 ⟨z, rfl, hc2, hm2⟩
        replace HB : Hid (Bc Y w w2 C (k + 106) (some ⟨g, 0, none⟩) nn FF) := HB.out.cur' hC hc2 hm2
        obtain ⟨g', -, e9, r9⟩ := HB.out.own.2 (by omega)
        cases e9
        have c0 := k_get r9 (i := 0) (by omega) (c := 1) (by omega)
        rw [Nat.zero_mul, Nat.zero_add] at c0
        have f0 := r9.frozen 1
        have hj0 : (0 : Int) < (nn : Int) := by omega
        replace HB : Hid (Bc Y w (w2.setCell ⟨g, 1, none⟩ (.int .i64 z)) C (k + 106) (some ⟨g, 0, none⟩) nn (updF FF 0 1 z)) := HB.out.set hnn.1 hC (fun b hb => (hY b hb).1) (by omega) z
        clear hc2 hm2 HI3 r9 hs1
        go_wp2
        go_ret
        exact ⟨_, nn, cc, _, rfl, hnn, ⟨HB.out.mod, HB.out.cur.le (by omega), HB.out.own⟩⟩
      by_cases hx1 : x = 1
      · have dx1 : ((x : Int) == 0) = false := by simp; omega
        have dx0 : ((x : Int) == 1) = true := by simp [hx1]
        clear hx0 hx1
        obtain ⟨g, hg, rfl, -⟩ := HB.out.own.2 (by omega)
        have hA : Blw w1 (w1.alloc (.cells #[.int .i64 (-1), .int .i64 100000, .int .i64 100001] 3)) := (Blw.refl _).alloc _
        have HI3 : Hid (IntsAt (fun b => b = w1.heap.size) (w1.alloc (.cells #[.int .i64 (-1), .int .i64 100000, .int .i64 100001] 3)) (some ⟨w1.heap.size, 0, none⟩) 3 (fun i => ([-1, 100000, 100001] : List Int).getD i 0)) := ints_lit w1 [-1, 100000, 100001] (by decide)
        have hs1 := HB.out.mod.size
        replace HB : Hid (Bc Y w (w1.alloc (.cells #[.int .i64 (-1), .int .i64 100000, .int .i64 100001] 3)) C (k + 104) (some ⟨g, 0, none⟩) nn FF) := HB.out.blw hA
        clear hA hg
        go_wp2_with fail
        clear dx0
        refine (among_any Y _ C (k + 104) _ 3 3 _ _ (by omega) (by omega) HI3.out (fun b hb => by omega) HB.out.cur).mono ?_
        rintro e w2 ⟨z, rfl, hc2, hm2⟩
        replace HB : Hid (Bc Y w w2 C (k + 106) (some ⟨g, 0, none⟩) nn FF) := HB.out.cur' hC hc2 hm2
        obtain ⟨g', -, e9, r9⟩ := HB.out.own.2 (by omega)
        cases e9
        have c0 := k_get r9 (i := 0) (by omega) (c := 2) (by omega)
        rw [Nat.zero_mul, Nat.zero_add] at c0
        have f0 := r9.frozen 2
        have hj0 : (0 : Int) < (nn : Int) := by omega
        replace HB : Hid (Bc Y w (w2.setCell ⟨g, 2, none⟩ (.int .i64 z)) C (k + 106) (some ⟨g, 0, none⟩) nn (updF FF 0 2 z)) := HB.out.set hnn.1 hC (fun b hb => (hY b hb).1) (by omega) z
        clear hc2 hm2 HI3 r9 hs1
        go_wp2
        go_ret
        exact ⟨_, nn, cc, _, rfl, hnn, ⟨HB.out.mod, HB.out.cur.le (by omega), HB.out.own⟩⟩
      have dx1 : ((x : Int) == 0) = false := by simp; omega
      have dx0 : ((x : Int) == 1) = false := by simp; omega
      clear hx0 hx1
      go_wp2
      go_ret
      exact ⟨_, nn, cc, _, rfl, hnn, ⟨HB.out.mod, HB.out.cur.le (by omega), HB.out.own⟩⟩
    · obtain ⟨⟨hg, -, -⟩, rfl, -, -, -⟩ : (GoodC n F ∧ (0 ≤ (x : Int) ∧ (x : Int) ≤ 200) ∧ GoodC n (gv n F (x : Int).toNat)) ∧ n1 = n ∧ F1 = gv n F (x : Int).toNat ∧ n2 = (x : Int).toNat ∧ g = whoC n F := by
        rcases ho with ⟨q, e1, e2, e3, e4, _⟩ | ⟨_, _, _, _, _, e⟩
        · exact ⟨q, e1, e2, e3, e4⟩
        · cases e
      obtain ⟨aa, eaa⟩ : ∃ aa, aa = a1 := ⟨a1, rfl⟩
      obtain ⟨nn, enn⟩ : ∃ nn, nn = n1 := ⟨n1, rfl⟩
      obtain ⟨cc, ecc⟩ : ∃ cc, cc = c1 := ⟨c1, rfl⟩
      obtain ⟨FF, eFF⟩ : ∃ FF, FF = F1 := ⟨F1, rfl⟩
      subst eaa enn ecc eFF
      obtain ⟨M, hM, k1, k2⟩ := hw
      have hs3 := HB.out.mod.size
      replace HB : Hid (Bc Y w w4 C (k + 102) aa nn FF) := ⟨HB.out.mod.trans (hb.mod _), HB.out.cur.blw hb, k1.mono (fun b hx => ⟨by omega, Nat.lt_of_lt_of_le hx.2 hM.2⟩)⟩
      have hnn := hn
      clear ho k1 k2 hM hb hn hg hs3
      go_wp2_with fail
      refine (pick_any Y C (k + 102) 30 _ (by omega) (by omega) HB.out.cur).mono ?_
      rintro e w1 ⟨x, rfl, hx, hc1, hm1⟩
      replace HB : Hid (Bc Y w w1 C (k + 104) aa nn FF) := HB.out.cur' hC hc1 hm1
      clear hc1 hm1 hx
      by_cases hx0 : x = 0
      · have dx0 : ((x : Int) == 0) = true := by simp [hx0]
        clear hx0
        obtain ⟨g, hg, rfl, -⟩ := HB.out.own.2 (by omega)
        have hA : Blw w1 (w1.alloc (.cells #[.int .i64 (-1), .int .i64 0, .int .i64 100000000, .int .i64 100000001] 3)) := (Blw.refl _).alloc _
        have HI3 : Hid (IntsAt (fun b => b = w1.heap.size) (w1.alloc (.cells #[.int .i64 (-1), .int .i64 0, .int .i64 100000000, .int .i64 100000001] 3)) (some ⟨w1.heap.size, 0, none⟩) 4 (fun i => ([-1, 0, 100000000, 100000001] : List Int).getD i 0)) := ints_lit w1 [-1, 0, 100000000, 100000001] (by decide)
        have hs1 := HB.out.mod.size
        replace HB : Hid (Bc Y w (w1.alloc (.cells #[.int .i64 (-1), .int .i64 0, .int .i64 100000000, .int .i64 100000001] 3)) C (k + 104) (some ⟨g, 0, none⟩) nn FF) := HB.out.blw hA
        clear hA hg
        go_wp2_with fail
        clear dx0
        refine (among_any Y _ C (k + 104) _ 4 4 _ _ (by omega) (by omega) HI3.out (fun b hb => by omega) HB.out.cur).mono ?_
        rintro e w2 ⟨z, rfl, hc2, hm2⟩
        replace HB : Hid (Bc Y w w2 C (k + 106) (some ⟨g, 0, none⟩) nn FF) := HB.out.cur' hC hc2 hm2
        obtain ⟨g', -, e9, r9⟩ := HB.out.own.2 (by omega)
        cases e9
        have c0 := k_get r9 (i := 0) (by omega) (c := 1) (by omega)
        rw [Nat.zero_mul, Nat.zero_add] at c0
        have f0 := r9.frozen 1
        have hj0 : (0 : Int) < (nn : Int) := by omega
        replace HB : Hid (Bc Y w (w2.setCell ⟨g, 1, none⟩ (.int .i64 z)) C (k + 106) (some ⟨g, 0, none⟩) nn (updF FF 0 1 z)) := HB.out.set hnn.1 hC (fun b hb => (hY b hb).1) (by omega) z
        clear hc2 hm2 HI3 r9 hs1
        go_wp2
        go_ret
        exact ⟨_, nn, cc, _, rfl, hnn, ⟨HB.out.mod, HB.out.cur.le (by omega), HB.out.own⟩⟩
      by_cases hx1 : x = 1
      · have dx1 : ((x : Int) == 0) = false := by simp; omega
        have dx0 : ((x : Int) == 1) = true := by simp [hx1]
        clear hx0 hx1
        obtain ⟨g, hg, rfl, -⟩ := HB.out.own.2 (by omega)
        have hA : Blw w1 (w1.alloc (.cells #[.int .i64 (-1), .int .i64 100000, .int .i64 100001] 3)) := (Blw.refl _).alloc _
        have HI3 : Hid (IntsAt (fun b => b = w1.heap.size) (w1.alloc (.cells #[.int .i64 (-1), .int .i64 100000, .int .i64 100001] 3)) (some ⟨w1.heap.size, 0, none⟩) 3 (fun i => ([-1, 100000, 100001] : List Int).getD i 0)) := ints_lit w1 [-1, 100000, 100001] (by decide)
        have hs1 := HB.out.mod.size
        replace HB : Hid (Bc Y w (w1.alloc (.cells #[.int .i64 (-1), .int .i64 100000, .int .i64 100001] 3)) C (k + 104) (some ⟨g, 0, none⟩) nn FF) := HB.out.blw hA
        clear hA hg
        go_wp2_with fail
        clear dx0
        refine (among_any Y _ C (k + 104) _ 3 3 _ _ (by omega) (by omega) HI3.out (fun b hb => by omega) HB.out.cur).mono ?_
        rintro e w2 ⟨z, rfl, hc2, hm2⟩
        replace HB : Hid (Bc Y w w2 C (k + 106) (some ⟨g, 0, none⟩) nn FF) := HB.out.cur' hC hc2 hm2
        obtain ⟨g', -, e9, r9⟩ := HB.out.own.2 (by omega)
        cases e9
        have c0 := k_get r9 (i := 0) (by omega) (c := 2) (by omega)
        rw [Nat.zero_mul, Nat.zero_add] at c0
        have f0 := r9.frozen 2
        have hj0 : (0 : Int) < (nn : Int) := by omega
        replace HB : Hid (Bc Y w (w2.setCell ⟨g, 2, none⟩ (.int .i64 z)) C (k + 106) (some ⟨g, 0, none⟩) nn (updF FF 0 2 z)) := HB.out.set hnn.1 hC (fun b hb => (hY b hb).1) (by omega) z
        clear hc2 hm2 HI3 r9 hs1
        go_wp2
        go_ret
        exact ⟨_, nn, cc, _, rfl, hnn, ⟨HB.out.mod, HB.out.cur.le (by omega), HB.out.own⟩⟩
      have dx1 : ((x : Int) == 0) = false := by simp; omega
      have dx0 : ((x : Int) == 1) = false := by simp; omega
      clear hx0 hx1
      go_wp2
      go_ret
      exact ⟨_, nn, cc, _, rfl, hnn, ⟨HB.out.mod, HB.out.cur.le (by omega), HB.out.own⟩⟩
  · obtain ⟨hg, rfl, -⟩ : nwGood n0 f ∧ n = n0 ∧ F = newC f := by
      rcases ho with ⟨h1, h2, h3, _⟩ | ⟨_, _, _, h⟩
      · exact ⟨h1, h2, h3⟩
      · cases h
    have hn := hg.1
    have HB : Hid (Bc Y w w2 C (k + 100) a n F) := ⟨HB0.out.1.trans (hb.mod _), HB0.out.2.blw hb, own.mono (fun b hx => ⟨by omega, hx.2⟩)⟩
    clear ho own hb hg HB0 HI hs1
    go_wp2_with fail
    refine (pick_any Y C (k + 100) 30 _ (by omega) (by omega) HB.out.cur).mono ?_
    rintro e w3 ⟨x, rfl, hx, hc1, hm1⟩
    replace HB : Hid (Bc Y w w3 C (k + 102) a n F) := HB.out.cur' hC hc1 hm1
    clear hc1 hm1 hx
    go_wp2_with fail
    refine (specTurns_any a c n F (x : Int) _ _ HB.out.own.at).mono ?_
    rintro e w4 ⟨a1, n1, c1, F1, a2, n2, c2, g, r, rfl, ho, hw, hb⟩
    cases r
    · obtain ⟨aa, eaa⟩ : ∃ aa, aa = a := ⟨a, rfl⟩
      obtain ⟨nn, enn⟩ : ∃ nn, nn = n := ⟨n, rfl⟩
      obtain ⟨cc, ecc⟩ : ∃ cc, cc = c := ⟨c, rfl⟩
      obtain ⟨FF, eFF⟩ : ∃ FF, FF = F := ⟨F, rfl⟩
      subst eaa enn ecc eFF
      replace HB : Hid (Bc Y w w4 C (k + 102) aa nn FF) := HB.out.blw hb
      have hnn := hn
      clear ho hw hb hn
      go_wp2_with fail
      refine (pick_any Y C (k + 102) 30 _ (by omega) (by omega) HB.out.cur).mono ?_
      rintro e w1 ⟨x, rfl, hx, hc1, hm1⟩
      replace HB : Hid (Bc Y w w1 C (k + 104) aa nn FF) := HB.out.cur' hC hc1 hm1
      clear hc1 hm1 hx
      by_cases hx0 : x = 0
      · have dx0 : ((x : Int) == 0) = true := by simp [hx0]
        clear hx0
        obtain ⟨g, hg, rfl, -⟩ := HB.out.own.2 (by omega)
        have hA : Blw w1 (w1.alloc (.cells #[.int .i64 (-1), .int .i64 0, .int .i64 100000000, .int .i64 100000001] 3)) := (Blw.refl _).alloc _
        have HI3 : Hid (IntsAt (fun b => b = w1.heap.size) (w1.alloc (.cells #[.int .i64 (-1), .int .i64 0, .int .i64 100000000, .int .i64 100000001] 3)) (some ⟨w1.heap.size, 0, none⟩) 4 (fun i => ([-1, 0, 100000000, 100000001] : List Int).getD i 0)) := ints_lit w1 [-1, 0, 100000000, 100000001] (by decide)
        have hs1 := HB.out.mod.size
        replace HB : Hid (Bc Y w (w1.alloc (.cells #[.int .i64 (-1), .int .i64 0, .int .i64 100000000, .int .i64 100000001] 3)) C (k + 104) (some ⟨g, 0, none⟩) nn FF) := HB.out.blw hA
        clear hA hg
        go_wp2_with fail
        clear dx0
        refine (among_any Y _ C (k + 104) _ 4 4 _ _ (by omega) (by omega) HI3.out (fun b hb => by omega) HB.out.cur).mono ?_
        rintro e w2 ⟨z, rfl, hc2, hm2⟩
        replace HB : Hid (Bc Y w w2 C (k + 106) (some ⟨g, 0, none⟩) nn FF) := HB.out.cur' hC hc2 hm2
        obtain ⟨g', -, e9, r9⟩ := HB.out.own.2 (by omega)
        cases e9
        have c0 := k_get r9 (i := 0) (by omega) (c := 1) (by omega)
        rw [Nat.zero_mul, Nat.zero_add] at c0
        have f0 := r9.frozen 1
        have hj0 : (0 : Int) < (nn : Int) := by omega
        replace HB : Hid (Bc Y w (w2.setCell ⟨g, 1, none⟩ (.int .i64 z)) C (k + 106) (some ⟨g, 0, none⟩) nn (updF FF 0 1 z)) := HB.out.set hnn.1 hC (fun b hb => (hY b hb).1) (by omega) z
        clear hc2 hm2 HI3 r9 hs1
        go_wp2
        go_ret
        exact ⟨_, nn, cc, _, rfl, hnn, ⟨HB.out.mod, HB.out.cur.le (by omega), HB.out.own⟩⟩
      by_cases hx1 : x = 1
      · have dx1 : ((x : Int) == 0) = false := by simp; omega
        have dx0 : ((x : Int) == 1) = true := by simp [hx1]
        clear hx0 hx1
        obtain ⟨g, hg, rfl, -⟩ := HB.out.own.2 (by omega)
        have hA : Blw w1 (w1.alloc (.cells #[.int .i64 (-1), .int .i64 100000, .int .i64 100001] 3)) := (Blw.refl _).alloc _
        have HI3 : Hid (IntsAt (fun b => b = w1.heap.size) (w1.alloc (.cells #[.int .i64 (-1), .int .i64 100000, .int .i64 100001] 3)) (some ⟨w1.heap.size, 0, none⟩) 3 (fun i => ([-1, 100000, 100001] : List Int).getD i 0)) := ints_lit w1 [-1, 100000, 100001] (by decide)
        have hs1 := HB.out.mod.size
        replace HB : Hid (Bc Y w (w1.alloc (.cells #[.int .i64 (-1), .int .i64 100000, .int .i64 100001] 3)) C (k + 104) (some ⟨g, 0, none⟩) nn FF) := HB.out.blw hA
        clear hA hg
        go_wp2_with fail
        clear dx0
        refine (among_any Y _ C (k + 104) _ 3 3 _ _ (by omega) (by omega) HI3.out (fun b hb => by omega) HB.out.cur).mono ?_
        rintro e w2 ⟨z, rfl, hc2, hm2⟩
        replace HB : Hid (Bc Y w w2 C (k + 106) (some ⟨g, 0, none⟩) nn FF) := HB.out.cur' hC hc2 hm2
        obtain ⟨g', -, e9, r9⟩ := HB.out.own.2 (by omega)
        cases e9
        have c0 := k_get r9 (i := 0) (by omega) (c := 2) (by omega)
        rw [Nat.zero_mul, Nat.zero_add] at c0
        have f0 := r9.frozen 2
        have hj0 : (0 : Int) < (nn : Int) := by omega
        replace HB : Hid (Bc Y w (w2.setCell ⟨g, 2, none⟩ (.int .i64 z)) C (k + 106) (some ⟨g, 0, none⟩) nn (updF FF 0 2 z)) := HB.out.set hnn.1 hC (fun b hb => (hY b hb).1) (by omega) z
        clear hc2 hm2 HI3 r9 hs1
        go_wp2
        go_ret
        exact ⟨_, nn, cc, _, rfl, hnn, ⟨HB.out.mod, HB.out.cur.le (by omega), HB.out.own⟩⟩
      have dx1 : ((x : Int) == 0) = false := by simp; omega
      have dx0 : ((x : Int) == 1) = false := by simp; omega
      clear hx0 hx1
      go_wp2
      go_ret
      exact ⟨_, nn, cc, _, rfl, hnn, ⟨HB.out.mod, HB.out.cur.le (by omega), HB.out.own⟩⟩
    · obtain ⟨⟨hg, -, -⟩, rfl, -, -, -⟩ : (GoodC n F ∧ (0 ≤ (x : Int) ∧ (x : Int) ≤ 200) ∧ GoodC n (gv n F (x : Int).toNat)) ∧ n1 = n ∧ F1 = gv n F (x : Int).toNat ∧ n2 = (x : Int).toNat ∧ g = whoC n F := by
        rcases ho with ⟨q, e1, e2, e3, e4, _⟩ | ⟨_, _, _, _, _, e⟩
        · exact ⟨q, e1, e2, e3, e4⟩
        · cases e
      obtain ⟨aa, eaa⟩ : ∃ aa, aa = a1 := ⟨a1, rfl⟩
      obtain ⟨nn, enn⟩ : ∃ nn, nn = n1 := ⟨n1, rfl⟩
      obtain ⟨cc, ecc⟩ : ∃ cc, cc = c1 := ⟨c1, rfl⟩
      obtain ⟨FF, eFF⟩ : ∃ FF, FF = F1 := ⟨F1, rfl⟩
      subst eaa enn ecc eFF
      obtain ⟨M, hM, k1, k2⟩ := hw
      have hs3 := HB.out.mod.size
      replace HB : Hid (Bc Y w w4 C (k + 102) aa nn FF) := ⟨HB.out.mod.trans (hb.mod _), HB.out.cur.blw hb, k1.mono (fun b hx => ⟨by omega, Nat.lt_of_lt_of_le hx.2 hM.2⟩)⟩
      have hnn := hn
      clear ho k1 k2 hM hb hn hg hs3
      go_wp2_with fail
      refine (pick_any Y C (k + 102) 30 _ (by omega) (by omega) HB.out.cur).mono ?_
      rintro e w1 ⟨x, rfl, hx, hc1, hm1⟩
      replace HB : Hid (Bc Y w w1 C (k + 104) aa nn FF) := HB.out.cur' hC hc1 hm1
      clear hc1 hm1 hx
      by_cases hx0 : x = 0
      · have dx0 : ((x : Int) == 0) = true := by simp [hx0]
        clear hx0
        obtain ⟨g, hg, rfl, -⟩ := HB.out.own.2 (by omega)
        have hA : Blw w1 (w1.alloc (.cells #[.int .i64 (-1), .int .i64 0, .int .i64 100000000, .int .i64 100000001] 3)) := (Blw.refl _).alloc _
        have HI3 : Hid (IntsAt (fun b => b = w1.heap.size) (w1.alloc (.cells #[.int .i64 (-1), .int .i64 0, .int .i64 100000000, .int .i64 100000001] 3)) (some ⟨w1.heap.size, 0, none⟩) 4 (fun i => ([-1, 0, 100000000, 100000001] : List Int).getD i 0)) := ints_lit w1 [-1, 0, 100000000, 100000001] (by decide)
        have hs1 := HB.out.mod.size
        replace HB : Hid (Bc Y w (w1.alloc (.cells #[.int .i64 (-1), .int .i64 0, .int .i64 100000000, .int .i64 100000001] 3)) C (k + 104) (some ⟨g, 0, none⟩) nn FF) := HB.out.blw hA
        clear hA hg
        go_wp2_with fail
        clear dx0
        refine (among_any Y _ C (k + 104) _ 4 4 _ _ (by omega) (by omega) HI3.out (fun b hb => by omega) HB.out.cur).mono ?_
        rintro e w2 ⟨z, rfl, hc2, hm2⟩
        replace HB : Hid (Bc Y w w2 C (k + 106) (some ⟨g, 0, none⟩) nn FF) := HB.out.cur' hC hc2 hm2
        obtain ⟨g', -, e9, r9⟩ := HB.out.own.2 (by omega)
        cases e9
        have c0 := k_get r9 (i := 0) (by omega) (c := 1) (by omega)
        rw [Nat.zero_mul, Nat.zero_add] at c0
        have f0 := r9.frozen 1
        have hj0 : (0 : Int) < (nn : Int) := by omega
        replace HB : Hid (Bc Y w (w2.setCell ⟨g, 1, none⟩ (.int .i64 z)) C (k + 106) (some ⟨g, 0, none⟩) nn (updF FF 0 1 z)) := HB.out.set hnn.1 hC (fun b hb => (hY b hb).1) (by omega) z
        clear hc2 hm2 HI3 r9 hs1
        go_wp2
        go_ret
        exact ⟨_, nn, cc, _, rfl, hnn, ⟨HB.out.mod, HB.out.cur.le (by omega), HB.out.own⟩⟩
      by_cases hx1 : x = 1
      · have dx1 : ((x : Int) == 0) = false := by simp; omega
        have dx0 : ((x : Int) == 1) = true := by simp [hx1]
        clear hx0 hx1
        obtain ⟨g, hg, rfl, -⟩ := HB.out.own.2 (by omega)
        have hA : Blw w1 (w1.alloc (.cells #[.int .i64 (-1), .int .i64 100000, .int .i64 100001] 3)) := (Blw.refl _).alloc _
        have HI3 : Hid (IntsAt (fun b => b = w1.heap.size) (w1.alloc (.cells #[.int .i64 (-1), .int .i64 100000, .int .i64 100001] 3)) (some ⟨w1.heap.size, 0, none⟩) 3 (fun i => ([-1, 100000, 100001] : List Int).getD i 0)) := ints_lit w1 [-1, 100000, 100001] (by decide)
        have hs1 := HB.out.mod.size
        replace HB : Hid (Bc Y w (w1.alloc (.cells #[.int .i64 (-1), .int .i64 100000, .int .i64 100001] 3)) C (k + 104) (some ⟨g, 0, none⟩) nn FF) := HB.out.blw hA
        clear hA hg
        go_wp2_with fail
        clear dx0
        refine (among_any Y _ C (k + 104) _ 3 3 _ _ (by omega) (by omega) HI3.out (fun b hb => by omega) HB.out.cur).mono ?_
        rintro e w2 ⟨z, rfl, hc2, hm2⟩
        replace HB : Hid (Bc Y w w2 C (k + 106) (some ⟨g, 0, none⟩) nn FF) := HB.out.cur' hC hc2 hm2
        obtain ⟨g', -, e9, r9⟩ := HB.out.own.2 (by omega)
        cases e9
        have c0 := k_get r9 (i := 0) (by omega) (c := 2) (by omega)
        rw [Nat.zero_mul, Nat.zero_add] at c0
        have f0 := r9.frozen 2
        have hj0 : (0 : Int) < (nn : Int) := by omega
        replace HB : Hid (Bc Y w (w2.setCell ⟨g, 2, none⟩ (.int .i64 z)) C (k + 106) (some ⟨g, 0, none⟩) nn (updF FF 0 2 z)) := HB.out.set hnn.1 hC (fun b hb => (hY b hb).1) (by omega) z
        clear hc2 hm2 HI3 r9 hs1
        go_wp2
        go_ret
        exact ⟨_, nn, cc, _, rfl, hnn, ⟨HB.out.mod, HB.out.cur.le (by omega), HB.out.own⟩⟩
      have dx1 : ((x : Int) == 0) = false := by simp; omega
      have dx0 : ((x : Int) == 1) = false := by simp; omega
      clear hx0 hx1
      go_wp2
      go_ret
      exact ⟨_, nn, cc, _, rfl, hnn, ⟨HB.out.mod, HB.out.cur.le (by omega), HB.out.own⟩⟩
end Go.Proofs.YtneafnfdemodnaaDoor
/- What the laws on clients draw. -/
namespace Go.Proofs.YtneafnfdemodnaaDoor
open Go.RowKit
set_option linter.unusedSimpArgs false
set_option linter.unusedVariables false
set_option maxRecDepth 10000 in
set_option maxHeartbeats 3200000 in
theorem drawNC_any (ao : Option Addr) (n cc : Nat) (f : Nat → Int) (w : World) (h : BytesAt (fun b => b < w.heap.size) w ao n f) :
    Calls Tryd.prog 9 #[.slice ao n cc] w fun e w' => ∃ (a : Option Addr) (m c : Nat) (g : Nat → Int), e = .returned (.slice a m c) ∧ m ≤ 7 ∧ IntsOwn (fun x => w.heap.size ≤ x ∧ x < w'.heap.size) w' a m g ∧ Blw w w' := by
  have HB : Hid (Blw w (w.alloc (.cells #[.slice ao n cc, .int .i64 0, .int .u64 0] 60))) := (Blw.refl _).alloc _
  have HC : Hid (Cur (fun b => b < w.heap.size) (w.alloc (.cells #[.slice ao n cc, .int .i64 0, .int .u64 0] 60)) w.heap.size 0) := ⟨ao, n, cc, 0, f, 0, box3 w _ _ _ 60, h.blw HB.out, Nat.le_refl _, fun b hb => by omega⟩
  have HS : Hid ((w.alloc (.cells #[.slice ao n cc, .int .i64 0, .int .u64 0] 60)).heap.size = w.heap.size + 1) := by show _ = _; simp
  clear h
  go_enter Tryd.func9, Tryd.ntmps9
  go_upto_region 2 with fail
  generalize (w.alloc (.cells #[.slice ao n cc, .int .i64 0, .int .u64 0] 60)) = w1 at *
  go_wp2_with fail
  refine (tickets_any (fun b => b < w.heap.size) w.heap.size 0 w1 (by omega) (fun b hb => ⟨by have := HS.out; omega, by omega⟩) HC.out).mono ?_
  rintro e w2 ⟨v, m, rfl, hm, hb⟩
  obtain ⟨g, hbf⟩ := hb.ex
  obtain ⟨a, c, rfl, hio⟩ := BufI.own hbf (by omega)
  have hs1 := HS.out
  have HF : Hid (_ ∧ _) := And.intro (hio.mono (fun b hb => (⟨by omega, hb.2⟩ : w.heap.size ≤ b ∧ b < w2.heap.size))) (Mod.blw HB.out hb.mod (fun i e => by omega))
  clear hb hbf hio HB HC HS hs1
  go_wp2
  go_ret
  exact ⟨a, m, c, g, rfl, hm, HF.out.1, HF.out.2⟩
set_option maxRecDepth 10000 in
set_option maxHeartbeats 3200000 in
theorem drawGC_any (ao : Option Addr) (n cc : Nat) (f : Nat → Int) (w : World) (h : BytesAt (fun b => b < w.heap.size) w ao n f) :
    Calls Tryd.prog 55 #[.slice ao n cc] w fun e w' => ∃ (a : Option Addr) (m c : Nat) (F : Nat → Nat → Int), e = .returned (.slice a m c) ∧ (1 ≤ m ∧ m ≤ 6) ∧ KOwn 3 (fun x => w.heap.size ≤ x ∧ x < w'.heap.size) w' a m F ∧ Blw w w' := by
  have HB : Hid (Blw w (w.alloc (.cells #[.slice ao n cc, .int .i64 0, .int .u64 0] 60))) := (Blw.refl _).alloc _
  have HC : Hid (Cur (fun b => b < w.heap.size) (w.alloc (.cells #[.slice ao n cc, .int .i64 0, .int .u64 0] 60)) w.heap.size 0) := ⟨ao, n, cc, 0, f, 0, box3 w _ _ _ 60, h.blw HB.out, Nat.le_refl _, fun b hb => by omega⟩
  have HS : Hid ((w.alloc (.cells #[.slice ao n cc, .int .i64 0, .int .u64 0] 60)).heap.size = w.heap.size + 1) := by show _ = _; simp
  clear h
  go_enter Tryd.func55, Tryd.ntmps55
  go_upto_region 2 with fail
  generalize (w.alloc (.cells #[.slice ao n cc, .int .i64 0, .int .u64 0] 60)) = w1 at *
  go_wp2_with fail
  refine (clients_any (fun b => b < w.heap.size) w.heap.size 0 w1 (by omega) (fun b hb => ⟨by have := HS.out; omega, by omega⟩) HC.out).mono ?_
  rintro e w2 ⟨a, m, c, F, rfl, hm, hb⟩
  have hs1 := HS.out
  have HF : Hid (_ ∧ _) := And.intro (hb.own.mono (fun b hb => (⟨by omega, hb.2⟩ : w.heap.size ≤ b ∧ b < w2.heap.size))) (Mod.blw HB.out hb.mod (fun i e => by omega))
  clear hb HB HC HS hs1
  go_wp2
  go_ret
  exact ⟨a, m, c, F, rfl, hm, HF.out.1, HF.out.2⟩
set_option maxRecDepth 10000 in
theorem drawGT_any (ao : Option Addr) (n cc : Nat) (f : Nat → Int) (w : World) (h : BytesAt (fun b => b < w.heap.size) w ao n f) :
    Calls Tryd.prog 21 #[.slice ao n cc] w fun e w' => ∃ (a : Option Addr) (m c : Nat) (F : Nat → Nat → Int), e = .returned (.slice a m c) ∧ (1 ≤ m ∧ m ≤ 6) ∧ KOwn 3 (fun x => w.heap.size ≤ x ∧ x < w'.heap.size) w' a m F ∧ Blw w w' := by
  have H : Hid (BytesAt (fun b => b < w.heap.size) w ao n f) := h
  clear h
  go_enter Tryd.func21, Tryd.ntmps21
  go_wp2_with fail
  refine (drawGC_any ao n cc f _ H.out).mono ?_
  rintro e w2 ⟨a, m, c, F, rfl, hm, ho, hb⟩
  have HF : Hid (_ ∧ _) := And.intro ho hb
  clear ho hb
  go_wp2
  go_ret
  exact ⟨a, m, c, F, rfl, hm, HF.out.1, HF.out.2⟩
set_option maxRecDepth 10000 in
theorem drawLG_any (ao : Option Addr) (n cc : Nat) (f : Nat → Int) (w : World) (h : BytesAt (fun b => b < w.heap.size) w ao n f) :
    Calls Tryd.prog 18 #[.slice ao n cc] w fun e w' => ∃ (a : Option Addr) (m c : Nat) (F : Nat → Nat → Int), e = .returned (.slice a m c) ∧ (1 ≤ m ∧ m ≤ 6) ∧ KOwn 3 (fun x => w.heap.size ≤ x ∧ x < w'.heap.size) w' a m F ∧ Blw w w' := by
  have H : Hid (BytesAt (fun b => b < w.heap.size) w ao n f) := h
  clear h
  go_enter Tryd.func18, Tryd.ntmps18
  go_wp2_with fail
  refine (drawGC_any ao n cc f _ H.out).mono ?_
  rintro e w2 ⟨a, m, c, F, rfl, hm, ho, hb⟩
  have HF : Hid (_ ∧ _) := And.intro ho hb
  clear ho hb
  go_wp2
  go_ret
  exact ⟨a, m, c, F, rfl, hm, HF.out.1, HF.out.2⟩
set_option maxRecDepth 10000 in
set_option maxHeartbeats 3200000 in
theorem drawGS_any (ao : Option Addr) (n cc : Nat) (f : Nat → Int) (w : World) (h : BytesAt (fun b => b < w.heap.size) w ao n f) :
    Calls Tryd.prog 16 #[.slice ao n cc] w fun e w' => ∃ (a : Option Addr) (m c : Nat) (F : Nat → Nat → Int) (k : Int), e = .returned (.tuple #[.slice a m c, .int .i64 k]) ∧ (1 ≤ m ∧ m ≤ 6) ∧ KOwn 3 (fun x => w.heap.size ≤ x ∧ x < w'.heap.size) w' a m F ∧ Blw w w' := by
  have HB : Hid (Blw w (w.alloc (.cells #[.slice ao n cc, .int .i64 0, .int .u64 0] 60))) := (Blw.refl _).alloc _
  have HC : Hid (Cur (fun b => b < w.heap.size) (w.alloc (.cells #[.slice ao n cc, .int .i64 0, .int .u64 0] 60)) w.heap.size 0) := ⟨ao, n, cc, 0, f, 0, box3 w _ _ _ 60, h.blw HB.out, Nat.le_refl _, fun b hb => by omega⟩
  have HS : Hid ((w.alloc (.cells #[.slice ao n cc, .int .i64 0, .int .u64 0] 60)).heap.size = w.heap.size + 1) := by show _ = _; simp
  clear h
  go_enter Tryd.func16, Tryd.ntmps16
  go_upto_region 2 with fail
  generalize (w.alloc (.cells #[.slice ao n cc, .int .i64 0, .int .u64 0] 60)) = w1 at *
  go_wp2_with fail
  refine (clients_any (fun b => b < w.heap.size) w.heap.size 0 w1 (by omega) (fun b hb => ⟨by have := HS.out; omega, by omega⟩) HC.out).mono ?_
  rintro e w2 ⟨a, m, c, F, rfl, hm, hb⟩
  have hs1 := HS.out
  have hs2 := hb.mod.size
  have hA : Blw w2 (w2.alloc (.cells #[.int .i64 (-1), .int .i64 0, .int .i64 1, .int .i64 7, .int .i64 40, .int .i64 200, .int .i64 201] 3)) := (Blw.refl _).alloc _
  have HI3 : Hid (IntsAt (fun b => b = w2.heap.size) (w2.alloc (.cells #[.int .i64 (-1), .int .i64 0, .int .i64 1, .int .i64 7, .int .i64 40, .int .i64 200, .int .i64 201] 3)) (some ⟨w2.heap.size, 0, none⟩) 7 (fun i => ([-1, 0, 1, 7, 40, 200, 201] : List Int).getD i 0)) := ints_lit w2 [-1, 0, 1, 7, 40, 200, 201] (by decide)
  have HC2 : Hid (Cur (fun b => b < w.heap.size) (w2.alloc (.cells #[.int .i64 (-1), .int .i64 0, .int .i64 1, .int .i64 7, .int .i64 40, .int .i64 200, .int .i64 201] 3)) w.heap.size (0 + 200)) := hb.cur.blw hA
  have HO2 : Hid (KOwn 3 (fun x => w1.heap.size ≤ x ∧ x < w2.heap.size) (w2.alloc (.cells #[.int .i64 (-1), .int .i64 0, .int .i64 1, .int .i64 7, .int .i64 40, .int .i64 200, .int .i64 201] 3)) a m F) := hb.own.blw hA
  have HB2 : Hid (Blw w (w2.alloc (.cells #[.int .i64 (-1), .int .i64 0, .int .i64 1, .int .i64 7, .int .i64 40, .int .i64 200, .int .i64 201] 3))) := (Mod.blw HB.out hb.mod (fun i e => by omega)).trans hA
  have HSL : Hid (w.heap.size + 1 ≤ w2.heap.size) := by show _ ≤ _; omega
  clear hb HB HC hA
  go_wp2_with fail
  refine (among_any _ _ w.heap.size (0 + 200) _ 7 7 _ _ (by omega) (by omega) HI3.out (fun b hb => by omega) HC2.out).mono ?_
  rintro e w3 ⟨k, rfl, hc3, hm3⟩
  have hs3 := hm3.size
  rw [World.size_alloc] at hs3
  have HF : Hid (_ ∧ _) := And.intro ((HO2.out.mod hm3 (fun b hb e => by omega)).mono (fun b hb => (⟨by omega, by omega⟩ : w.heap.size ≤ b ∧ b < w3.heap.size))) (Mod.blw HB2.out hm3 (fun i e => by omega))
  clear hc3 hm3 hs3 hs1 hs2 HO2 HB2 HC2 HI3 HS HSL
  go_wp2
  refine bodyPost_ret (v := .tuple #[.slice a m c, .int .i64 k]) (by simp [results, Tryd.results16, go_sem]) rfl ⟨a, m, c, F, k, rfl, hm, HF.out.1, HF.out.2⟩
set_option maxRecDepth 10000 in
set_option maxHeartbeats 3200000 in
theorem drawSO_any (ao : Option Addr) (n cc : Nat) (f : Nat → Int) (w : World) (h : BytesAt (fun b => b < w.heap.size) w ao n f) :
    Calls Tryd.prog 28 #[.slice ao n cc] w fun e w' => ∃ k : Int, e = .returned (.int .i64 k) ∧ Blw w w' := by
  have HB : Hid (Blw w (w.alloc (.cells #[.slice ao n cc, .int .i64 0, .int .u64 0] 60))) := (Blw.refl _).alloc _
  have HC : Hid (Cur (fun b => b < w.heap.size) (w.alloc (.cells #[.slice ao n cc, .int .i64 0, .int .u64 0] 60)) w.heap.size 0) := ⟨ao, n, cc, 0, f, 0, box3 w _ _ _ 60, h.blw HB.out, Nat.le_refl _, fun b hb => by omega⟩
  have HS : Hid ((w.alloc (.cells #[.slice ao n cc, .int .i64 0, .int .u64 0] 60)).heap.size = w.heap.size + 1) := by show _ = _; simp
  clear h
  go_enter Tryd.func28, Tryd.ntmps28
  go_upto_region 2 with fail
  generalize (w.alloc (.cells #[.slice ao n cc, .int .i64 0, .int .u64 0] 60)) = w1 at *
  go_wp2_with fail
  refine (pick_any (fun b => b < w.heap.size) w.heap.size 0 15 w1 (by omega) (by omega) HC.out).mono ?_
  rintro e w2 ⟨x, rfl, hx, hc, hm⟩
  have HF : Hid (Blw w w2) := Mod.blw HB.out hm (fun i e => by have := HS.out; omega)
  have e1 : IntKind.i64.wrap ((x : Int) - 1) = x - 1 := by rw [IntKind.wrap_i64] <;> omega
  clear hc hm HB HC HS
  go_wp2
  go_ret
  exact ⟨_, rfl, HF.out⟩
end Go.Proofs.YtneafnfdemodnaaDoor
/- FnStride: what stands in the walk, the facts, the walk. -/
namespace Go.Proofs.YtneafnfdemodnaaDoor
open Go.RowKit
set_option linter.unusedSimpArgs false
set_option linter.unusedVariables false
def KX (W : World) (a : Option Addr) (n : Nat) (F : Nat → Nat → Int) : Prop := KAt 3 (fun x => x < W.heap.size) W a n F
theorem KX.blw {W W' : World} {a : Option Addr} {n : Nat} {F : Nat → Nat → Int} (h : KX W a n F) (hb : Blw W W') : KX W' a n F := (KAt.blw h hb).mono (fun x hx => Nat.lt_of_lt_of_le hx hb.size)
def LI (W : World) (a : Option Addr) (n : Nat) (f : Nat → Int) : Prop := IntsAt (fun x => x < W.heap.size) W a n f
theorem LI.blw {W W' : World} {a : Option Addr} {n : Nat} {f : Nat → Int} (h : LI W a n f) (hb : Blw W W') : LI W' a n f := (IntsAt.blw h hb).mono (fun x hx => Nat.lt_of_lt_of_le hx hb.size)
def BY (W : World) (a : Option Addr) (n : Nat) (f : Nat → Int) : Prop := BytesAt (fun x => x < W.heap.size) W a n f
theorem BY.blw {W W' : World} {a : Option Addr} {n : Nat} {f : Nat → Int} (h : BY W a n f) (hb : Blw W W') : BY W' a n f :=
  ⟨h.1, fun i hi => let ⟨b, o, e, hY, h0⟩ := h.2 i hi; ⟨b, o, e, Nat.lt_of_lt_of_le hY hb.size, hb.cell h0.1, h0.2⟩⟩
theorem sameInts_blw (a1 a2 : Option Addr) (c1 c2 n0 : Nat) (f : Nat → Int) {Y Z : Nat → Prop} (w : World) (h1 : IntsAt Y w a1 n0 f) (h2 : IntsAt Z w a2 n0 f) :
    Calls Tryd.prog 20 #[.slice a1 n0 c1, .slice a2 n0 c2] w fun e w' => e = .returned (.bool true) ∧ Blw w w' :=
  (sameInts_yes a1 a2 c1 c2 n0 f f w h1 h2 (fun _ _ => rfl)).mono (fun e w' h => ⟨h.1, by obtain ⟨n, hn⟩ := h.2; rw [hn]; exact Blw.drewN (Blw.refl w) n⟩)
theorem Fair.good' {n : Nat} {t : Nat → Int} {F : Nat → Nat → Int} {m : Nat} (h : ∀ k, k < n → 1 ≤ t k ∧ t k ≤ 12) (hn : 1 ≤ n ∧ n ≤ 6) (hm : m ≤ 200) (g : Fair n t F m) : GoodC n F :=
  ⟨hn, fun k hk => by
    have h1 : ∀ i, i < n → 0 ≤ F i 2 := g.fu
    have h2 : F k 2 ≤ sm (fun i => F i 2) n := by
      have h3 := sm_le (f := fun i => if i = k then 0 + F k 2 else 0) (g := fun i => F i 2) (n := n) (fun i hi => by
        by_cases e : i = k
        · subst e; simp
        · rw [if_neg e]; exact h1 i hi)
      rw [sm_upd (fun _ => 0) hk, sm_const] at h3
      omega
    rw [g.fs] at h2
    have h4 := stride_le (h k hk).1
    have h5 := h1 k hk
    have h6 : 27720 / t k * (1 + F k 2) ≤ 27720 * (1 + F k 2) := Int.mul_le_mul_of_nonneg_right h4.1 (by omega)
    have h7 : 0 ≤ 27720 / t k * (1 + F k 2) := Int.mul_nonneg h4.2 (by omega)
    refine ⟨by rw [g.ft k hk]; exact h k hk, ?_, ⟨h5, by omega⟩⟩
    rw [g.fp k hk]
    exact ⟨h7, by omega⟩⟩
/-- Clients that begin at a stride are good behind 200 turns. -/
theorem new_turns {n : Nat} {f : Nat → Int} (h : nwGood n f) {m : Nat} (hm : m ≤ 200) : Fair n f (gv n (newC f) m) m ∧ GoodC n (gv n (newC f) m) := by
  have g := Fair.gv (by have := h.1; omega) h.2 m
  exact ⟨g, g.good' h.2 h.1 hm⟩
theorem gts_new {n : Nat} {f : Nat → Int} (h : nwGood n f) {m : Nat} (hm : m ≤ 200) {n1 : Nat} {F1 : Nat → Nat → Int} {n2 : Nat} {g : Nat → Int} {r : Bool} (o : gtsOut n (newC f) m n1 F1 n2 g r) : n1 = n ∧ F1 = gv n (newC f) m ∧ n2 = m ∧ r = true := by
  rcases o with ⟨_, e1, e2, e3, _, e5⟩ | ⟨q, _⟩
  · exact ⟨e1, by rw [e2, Int.toNat_natCast], by rw [e3, Int.toNat_natCast], e5⟩
  · exact absurd ⟨newC_good h, ⟨by omega, by omega⟩, by rw [Int.toNat_natCast]; exact (new_turns h hm).2⟩ q
theorem lg_new {n : Nat} {f : Nat → Int} (h : nwGood n f) {m : Nat} (hm : m ≤ 200) {n1 : Nat} {g : Nat → Int} {r : Bool} (o : lgOut n (gv n (newC f) m) n1 g r) : n1 = n ∧ g = lagC n (gv n (newC f) m) ∧ r = true := by
  rcases o with ⟨_, e1, e2, e3⟩ | ⟨q, _⟩
  · exact ⟨e1, e2, e3⟩
  · exact absurd (new_turns h hm).2 q
theorem all_le {n : Nat} {f : Nat → Int} (h : nwGood n f) : 0 ≤ sm f n ∧ sm f n ≤ 72 := by
  have := sm_bound (f := f) (n := n) (a := 0) (b := 12) (fun i hi => ⟨by have := (h.2 i hi).1; omega, (h.2 i hi).2⟩)
  have := h.1
  omega
theorem all_part {n k : Nat} {f : Nat → Int} (h : nwGood n f) (hk : k < n) : IntKind.i64.wrap (sm f k + f k) = sm f (k + 1) := by
  have b1 := sm_bound (f := f) (n := k) (a := 0) (b := 12) (fun i hi => ⟨by have := (h.2 i (by omega)).1; omega, (h.2 i (by omega)).2⟩)
  have b2 := h.2 k hk
  unfold tkOK at b2
  have := h.1
  show _ = sm f k + f k
  rw [IntKind.wrap_i64] <;> omega
theorem lag_neg {n k : Nat} {f : Nat → Int} (h : nwGood n f) (hk : k < n) : IntKind.i64.wrap (-f k) = -f k ∧ IntKind.i64.wrap (-f k * n) = -f k * n := by
  have b2 := h.2 k hk
  unfold tkOK at b2
  have hn := h.1
  have b3 : f k * (n : Int) ≤ 12 * n := Int.mul_le_mul_of_nonneg_right b2.2 (by omega)
  have b4 : 0 ≤ f k * (n : Int) := Int.mul_nonneg (by omega) (by omega)
  have e : -f k * (n : Int) = -(f k * n) := Int.neg_mul _ _
  rw [e]
  constructor <;> rw [IntKind.wrap_i64] <;> omega
set_option maxRecDepth 10000 in
set_option maxHeartbeats 12800000 in
theorem lawStride (ao1 : Option Addr) (n1 c1 : Nat) (f1 : Nat → Int) (ao2 : Option Addr) (n2 c2 : Nat) (f2 : Nat → Int) (w : World) (h1 : BytesAt (fun b => b < w.heap.size) w ao1 n1 f1) (h2 : BytesAt (fun b => b < w.heap.size) w ao2 n2 f2) (hT : Tb w) :
    Calls Tryd.prog 3 #[.slice ao1 n1 c1, .slice ao2 n2 c2] w fun e w' => e = .returned (.bool true) ∧ Blw w w' := by
  have H1 : Hid (BY w ao1 n1 f1) := h1
  have H2 : Hid (BY w ao2 n2 f2) := h2
  have HT : Hid (Tb w) := hT
  clear h1 h2 hT
  go_enter Tryd.func3, Tryd.ntmps3
  by_cases hd : wrap64 ((n1 : Int) + n2) > 1048576
  · have d1 : decide (wrap64 ((n1 : Int) + n2) > 1048576) = true := by simpa using hd
    clear hd
    go_wp2
    go_ret
    exact ⟨rfl, Blw.refl _⟩
  have d1 : decide (wrap64 ((n1 : Int) + n2) > 1048576) = false := by simpa using hd
  clear hd
  have HB : Hid (Blw w w) := Blw.refl w
  go_wp2_with fail
  refine (drawNC_any ao1 n1 c1 f1 _ H1.out).mono ?_
  rintro e w1 ⟨a5, n5, c5, f5, rfl, hn5, own, hb⟩
  replace HB : Hid (Blw _ _) := Blw.trans HB.out hb
  replace H1 : Hid (BY w1 ao1 n1 f1) := BY.blw H1.out hb
  replace H2 : Hid (BY w1 ao2 n2 f2) := BY.blw H2.out hb
  clear d1
  have L5 : Hid (LI w1 a5 n5 f5) := own.at.mono (fun x hx => hx.2)
  clear own hb
  clear H1
  go_wp2_with fail
  refine (implNew_any a5 c5 n5 f5 _ _ (by omega) (HT.out.blw HB.out) L5.out).mono ?_
  rintro e w2 ⟨a6, n6, c6, F6, r6, rfl, ho, own, hb⟩
  replace HB : Hid (Blw _ _) := Blw.trans HB.out hb
  replace H2 : Hid (BY w2 ao2 n2 f2) := BY.blw H2.out hb
  replace L5 : Hid (LI w2 a5 n5 f5) := LI.blw L5.out hb
  have O6 : Hid (nwOut n5 f5 n6 F6 r6) := ho
  have K6 : Hid (KX w2 a6 n6 F6) := own.at.mono (fun x hx => hx.2)
  clear own hb ho
  go_wp2_with fail
  refine (specNew_any a5 c5 n5 f5 _ _ (by omega) L5.out).mono ?_
  rintro e w3 ⟨a8, n8, c8, F8, r8, rfl, ho, own, hb⟩
  replace HB : Hid (Blw _ _) := Blw.trans HB.out hb
  replace H2 : Hid (BY w3 ao2 n2 f2) := BY.blw H2.out hb
  replace L5 : Hid (LI w3 a5 n5 f5) := LI.blw L5.out hb
  replace K6 : Hid (KX w3 a6 n6 F6) := KX.blw K6.out hb
  obtain ⟨en, eF, er⟩ := nwOut_same ho O6.out
  subst en eF er
  have K8 : Hid (KX w3 a8 n8 F8) := own.at.mono (fun x hx => hx.2)
  clear own hb ho
  have hne : (r8 != r8) = false := by simp
  go_wp2_with fail
  refine (sameClients_same a6 a8 c6 c8 n8 F8 _ K6.out K8.out).mono ?_
  rintro e w4 ⟨rfl, hb⟩
  replace HB : Hid (Blw _ _) := Blw.trans HB.out hb
  replace H2 : Hid (BY w4 ao2 n2 f2) := BY.blw H2.out hb
  replace L5 : Hid (LI w4 a5 n5 f5) := LI.blw L5.out hb
  replace K6 : Hid (KX w4 a6 n8 F8) := KX.blw K6.out hb
  replace K8 : Hid (KX w4 a8 n8 F8) := KX.blw K8.out hb
  clear hb
  clear K8
  go_upto_if 66 with fail
  clear hne
  go_cut [10, 11, 12, 13, 14, 15, 16, 17, 18, 19, 20, 21, 22, 23, 24, 25] from 66 to 162 (fun v10 v11 v12 v13 v14 v15 v16 v17 v18 v19 v20 v21 v22 v23 v24 v25 wx => Blw w4 wx)
  case first =>
    cases r8
    · go_wp2_with fail
      go_meet
      exact Blw.refl _
    obtain ⟨hG, en, rfl⟩ : nwGood n5 f5 ∧ n8 = n5 ∧ F8 = newC f5 := by
      rcases O6.out with ⟨h1, h2, h3, _⟩ | ⟨_, _, _, h⟩
      · exact ⟨h1, h2, h3⟩
      · cases h
    obtain rfl := en.symm
    have HG : Hid (nwGood n5 f5) := hG
    clear hG O6
    have HC : Hid (Blw w4 w4) := Blw.refl _
    have hn6 : 1 ≤ n5 ∧ n5 ≤ 6 := HG.out.1
    go_wp2_with fail
    refine (numberOf_any ao2 n2 c2 f2 _ _ H2.out).mono ?_
    rintro e w9 ⟨x, rfl, hx, hw9⟩
    obtain rfl := hw9.symm
    obtain ⟨y, hy, hy2⟩ : ∃ y : Nat, (x : Int).tmod 201 = (y : Int) ∧ y ≤ 200 := ⟨x % 201, by rw [Int.tmod_eq_emod_of_nonneg (by omega)]; omega, by omega⟩
    clear hx
    go_wp2_with fail
    refine (implTurns_any a6 c6 n5 (newC f5) (y : Int) _ _ (HT.out.blw HB.out) K6.out).mono ?_
    rintro e w5 ⟨a11, n11, c11, F11, a12, n12, c12, g12, r13, rfl, ho, hw, hb⟩
    replace HB : Hid (Blw _ _) := Blw.trans HB.out hb
    replace HC : Hid (Blw _ _) := Blw.trans HC.out hb
    replace H2 : Hid (BY w5 ao2 n2 f2) := BY.blw H2.out hb
    replace L5 : Hid (LI w5 a5 n5 f5) := LI.blw L5.out hb
    replace K6 : Hid (KX w5 a6 n5 (newC f5)) := KX.blw K6.out hb
    obtain ⟨en, eF, em, er⟩ := gts_new HG.out hy2 ho
    obtain rfl := en.symm
    subst eF
    obtain rfl := em.symm
    subst er
    obtain ⟨M, hM, k1, k2⟩ := hw
    have K11 : Hid (KX w5 a11 n5 (gv n5 (newC f5) y)) := k1.at.mono (fun x hx => Nat.lt_of_lt_of_le hx.2 hM.2)
    clear ho hM k1 k2 hb hy
    go_wp2_with fail
    refine (implLag_any a11 c11 n5 (gv n5 (newC f5) y) _ _ K11.out).mono ?_
    rintro e w6 ⟨a14, n14, c14, g14, r15, rfl, ho, own, hb⟩
    replace HB : Hid (Blw _ _) := Blw.trans HB.out hb
    replace HC : Hid (Blw _ _) := Blw.trans HC.out hb
    replace H2 : Hid (BY w6 ao2 n2 f2) := BY.blw H2.out hb
    replace L5 : Hid (LI w6 a5 n5 f5) := LI.blw L5.out hb
    replace K6 : Hid (KX w6 a6 n5 (newC f5)) := KX.blw K6.out hb
    replace K11 : Hid (KX w6 a11 n5 (gv n5 (newC f5) y)) := KX.blw K11.out hb
    obtain ⟨en, eg, er⟩ := lg_new HG.out hy2 ho
    obtain rfl := en.symm
    subst eg er
    have L14 : Hid (LI w6 a14 n5 (lagC n5 (gv n5 (newC f5) y))) := own.at.mono (fun x hx => hx.2)
    clear ho own hb
    clear K11
    have hyy : ((y : Int) != (y : Int)) = false := by simp
    go_wp2_with fail
    clear hyy
    go_loopw [16, 96] (fun v i wr => ∃ j : Nat, j ≤ n5 ∧ v = .int .i64 (sm f5 j) ∧ i = .int .i64 j ∧ Blw w6 wr) (fun _ i _ => n5 - (intOf i).toNat)
    case atStart => exact ⟨0, Nat.zero_le _, rfl, rfl, Blw.refl _⟩
    case round =>
      obtain ⟨j, hj, rfl, rfl, hb⟩ := hrel
      have HD : Hid (Blw w6 wr) := hb
      clear hb
      by_cases hlt : j < n5
      · have hlt' : (j : Int) < n5 := by omega
        obtain ⟨b, o, rfl, -, g1⟩ := (L5.out.blw HD.out).2 j hlt
        have e1 := all_part HG.out hlt
        have E1 : Hid (sm f5 (j + 1) = sm f5 (j + 1)) := rfl
        generalize hq : sm f5 (j + 1) = q at *
        have HQ : Hid (sm f5 (j + 1) = q) := hq
        clear hq E1
        clear L5 L14 K6 H2
        go_wp2
        go_roundw
        case rel => exact ⟨j + 1, by omega, by rw [HQ.out], by go_num, HD.out⟩
        case measure => simp [intOf]; omega
      obtain rfl : n5 = j := by omega
      have hb := HD.out
      clear HD
      replace HB : Hid (Blw _ _) := Blw.trans HB.out hb
      replace HC : Hid (Blw _ _) := Blw.trans HC.out hb
      replace H2 : Hid (BY wr ao2 n2 f2) := BY.blw H2.out hb
      replace L5 : Hid (LI wr a5 n5 f5) := LI.blw L5.out hb
      replace K6 : Hid (KX wr a6 n5 (newC f5)) := KX.blw K6.out hb
      replace L14 : Hid (LI wr a14 n5 (lagC n5 (gv n5 (newC f5) y))) := LI.blw L14.out hb
      clear hb
      have hall := all_le HG.out
      have HL : Hid (∀ k, k < n5 → lagC n5 (gv n5 (newC f5) y) k ≤ sm f5 n5 ∧ -f5 k * n5 ≤ lagC n5 (gv n5 (newC f5) y) k) := fun k hk => (new_turns HG.out hy2).1.lag hk
      have HALL : Hid (∃ q : Nat, sm f5 n5 = (q : Int) ∧ q ≤ 72) := ⟨(sm f5 n5).toNat, by omega, by omega⟩
      clear hall
      obtain ⟨q, hq, hq72⟩ := HALL.out
      have HQ : Hid (sm f5 n5 = (q : Int)) := hq
      rw [hq]
      clear hq HALL
      go_wp2_with fail
      go_loopw [106] (fun i wq => ∃ j : Nat, j ≤ n5 ∧ i = .int .i64 j ∧ Blw wr wq) (fun i _ => n5 - (intOf i).toNat)
      case atStart => exact ⟨0, Nat.zero_le _, rfl, Blw.refl _⟩
      case round =>
        obtain ⟨j, hj, rfl, hb⟩ := hrel
        rename_i wq
        have HD : Hid (Blw _ wr) := hb
        clear hb
        by_cases hlt : j < n5
        · have hlt' : (j : Int) < n5 := by omega
          obtain ⟨b, o, rfl, -, g1⟩ := (L5.out.blw HD.out).2 j hlt
          obtain ⟨b', o', rfl, -, g2⟩ := (L14.out.blw HD.out).2 j hlt
          obtain ⟨e1, e2⟩ := lag_neg HG.out hlt
          have d1 : decide (lagC n5 (gv n5 (newC f5) y) j > (q : Int)) = false := by have := HL.out j hlt; rw [HQ.out] at this; simp; omega
          have d2 : decide (lagC n5 (gv n5 (newC f5) y) j < -f5 j * (n5 : Int)) = false := by have := HL.out j hlt; simp only [decide_eq_false_iff_not]; omega
          clear L5 L14 K6 H2 HL HQ
          generalize lagC n5 (gv n5 (newC f5) y) j = lj at *
          generalize f5 j = fj at *
          go_wp2
          go_roundw
          case rel => exact ⟨j + 1, by omega, by go_num, HD.out⟩
          case measure => simp [intOf]; omega
        obtain rfl : n5 = j := by omega
        have hb := HD.out
        clear HD HL
        replace HB : Hid (Blw _ _) := Blw.trans HB.out hb
        replace HC : Hid (Blw _ _) := Blw.trans HC.out hb
        replace H2 : Hid (BY wr ao2 n2 f2) := BY.blw H2.out hb
        replace L5 : Hid (LI wr a5 n5 f5) := LI.blw L5.out hb
        replace K6 : Hid (KX wr a6 n5 (newC f5)) := KX.blw K6.out hb
        replace L14 : Hid (LI wr a14 n5 (lagC n5 (gv n5 (newC f5) y))) := LI.blw L14.out hb
        clear hb
        clear L14
        have hq200 : (q : Int) ≤ 200 := by omega
        go_wp2_with fail
        refine (implTurns_any a6 c6 n5 (newC f5) (q : Int) _ _ (HT.out.blw HB.out) K6.out).mono ?_
        rintro e w7 ⟨a11, n11, c11, F11, a12, n12, c12, g12, r13, rfl, ho, hw, hb⟩
        replace HB : Hid (Blw _ _) := Blw.trans HB.out hb
        replace HC : Hid (Blw _ _) := Blw.trans HC.out hb
        replace H2 : Hid (BY w7 ao2 n2 f2) := BY.blw H2.out hb
        replace L5 : Hid (LI w7 a5 n5 f5) := LI.blw L5.out hb
        replace K6 : Hid (KX w7 a6 n5 (newC f5)) := KX.blw K6.out hb
        obtain ⟨en, eF, em, er⟩ := gts_new HG.out (by omega) ho
        obtain rfl := en.symm
        subst eF
        obtain rfl := em.symm
        subst er
        obtain ⟨M, hM, k1, k2⟩ := hw
        have K21 : Hid (KX w7 a11 n5 (gv n5 (newC f5) q)) := k1.at.mono (fun x hx => Nat.lt_of_lt_of_le hx.2 hM.2)
        clear ho hM k1 k2 hb hq200
        have HW : Hid (∀ k, k < n5 → gv n5 (newC f5) q k 2 = f5 k) := fun k hk => (new_turns HG.out (by omega)).1.whole HQ.out.symm k hk
        have hnn : ((n5 : Int) != (n5 : Int)) = false := by simp
        go_wp2_with fail
        clear hnn
        go_loopw [150] (fun i wq => ∃ j : Nat, j ≤ n5 ∧ i = .int .i64 j ∧ Blw w7 wq) (fun i _ => n5 - (intOf i).toNat)
        case atStart => exact ⟨0, Nat.zero_le _, rfl, Blw.refl _⟩
        case round =>
          obtain ⟨j, hj, rfl, hb⟩ := hrel
          have HD : Hid (Blw _ wr) := hb
          clear hb
          by_cases hlt : j < n5
          · have hlt' : (j : Int) < n5 := by omega
            obtain ⟨b, o, rfl, -, g1⟩ := (L5.out.blw HD.out).2 j hlt
            obtain ⟨b', o', rfl, -, g9⟩ := (K21.out.blw HD.out).2 j hlt
            have g2 := g9 2 (by omega)
            rw [HW.out j hlt] at g2
            have d1 : (f5 j != f5 j) = false := by simp
            clear L5 K21 K6 H2 HQ HW g9
            generalize f5 j = fj at *
            go_wp2
            go_roundw
            case rel => exact ⟨j + 1, by omega, by go_num, HD.out⟩
            case measure => simp [intOf]; omega
          obtain rfl : n5 = j := by omega
          have HE : Hid (Blw w4 wr) := HC.out.trans HD.out
          clear HD HC HB H2 HT HW HQ HG L5 K6 K21
          go_wp2_with fail
          go_meet
          exact HE.out
  case rest =>
    have hb := hcut
    clear hcut L5 K6 O6
    replace HB : Hid (Blw _ _) := Blw.trans HB.out hb
    replace H2 : Hid (BY wc ao2 n2 f2) := BY.blw H2.out hb
    clear hb
    go_wp2_with fail
    refine (drawGS_any ao2 n2 c2 f2 _ H2.out).mono ?_
    rintro e w8 ⟨a26, n26, c26, F26, k27, rfl, hn26, own, hb⟩
    replace HB : Hid (Blw _ _) := Blw.trans HB.out hb
    replace H2 : Hid (BY w8 ao2 n2 f2) := BY.blw H2.out hb
    have K26 : Hid (KX w8 a26 n26 F26) := own.at.mono (fun x hx => hx.2)
    clear own hb
    go_wp2_with fail
    refine (implTurns_any a26 c26 n26 F26 k27 _ _ (HT.out.blw HB.out) K26.out).mono ?_
    rintro e w9 ⟨a28, n28, c28, F28, a29, n29, c29, g29, r30, rfl, ho, hw, hb⟩
    replace HB : Hid (Blw _ _) := Blw.trans HB.out hb
    replace H2 : Hid (BY w9 ao2 n2 f2) := BY.blw H2.out hb
    replace K26 : Hid (KX w9 a26 n26 F26) := KX.blw K26.out hb
    have O28 : Hid (gtsOut n26 F26 k27 n28 F28 n29 g29 r30) := ho
    obtain ⟨M, hM, k1, k2⟩ := hw
    have K28 : Hid (KX w9 a28 n28 F28) := k1.at.mono (fun x hx => Nat.lt_of_lt_of_le hx.2 hM.2)
    have L29 : Hid (LI w9 a29 n29 g29) := k2.at.mono (fun x hx => hx.2)
    clear ho hM k1 k2 hb
    go_wp2_with fail
    refine (specTurns_any a26 c26 n26 F26 k27 _ _ K26.out).mono ?_
    rintro e w10 ⟨a31, n31, c31, F31, a32, n32, c32, g32, r33, rfl, ho, hw, hb⟩
    replace HB : Hid (Blw _ _) := Blw.trans HB.out hb
    replace H2 : Hid (BY w10 ao2 n2 f2) := BY.blw H2.out hb
    replace K26 : Hid (KX w10 a26 n26 F26) := KX.blw K26.out hb
    replace K28 : Hid (KX w10 a28 n28 F28) := KX.blw K28.out hb
    replace L29 : Hid (LI w10 a29 n29 g29) := LI.blw L29.out hb
    obtain ⟨e1, e2, e3, e4, e5⟩ := gtsOut_same ho O28.out
    subst e1 e2 e3 e4 e5
    obtain ⟨M, hM, k1, k2⟩ := hw
    have K31 : Hid (KX w10 a31 n31 F31) := k1.at.mono (fun x hx => Nat.lt_of_lt_of_le hx.2 hM.2)
    have L32 : Hid (LI w10 a32 n32 g32) := k2.at.mono (fun x hx => hx.2)
    clear ho hM k1 k2 hb O28
    clear K26
    go_wp2_with fail
    refine (drawLG_any ao2 n2 c2 f2 _ H2.out).mono ?_
    rintro e w11 ⟨a34, n34, c34, F34, rfl, hn34, own, hb⟩
    replace HB : Hid (Blw _ _) := Blw.trans HB.out hb
    replace H2 : Hid (BY w11 ao2 n2 f2) := BY.blw H2.out hb
    replace K28 : Hid (KX w11 a28 n31 F31) := KX.blw K28.out hb
    replace L29 : Hid (LI w11 a29 n32 g32) := LI.blw L29.out hb
    replace K31 : Hid (KX w11 a31 n31 F31) := KX.blw K31.out hb
    replace L32 : Hid (LI w11 a32 n32 g32) := LI.blw L32.out hb
    have K34 : Hid (KX w11 a34 n34 F34) := own.at.mono (fun x hx => hx.2)
    clear own hb
    clear H2
    go_wp2_with fail
    refine (implLag_any a34 c34 n34 F34 _ _ K34.out).mono ?_
    rintro e w12 ⟨a35, n35, c35, g35, r36, rfl, ho, own, hb⟩
    replace HB : Hid (Blw _ _) := Blw.trans HB.out hb
    replace K28 : Hid (KX w12 a28 n31 F31) := KX.blw K28.out hb
    replace L29 : Hid (LI w12 a29 n32 g32) := LI.blw L29.out hb
    replace K31 : Hid (KX w12 a31 n31 F31) := KX.blw K31.out hb
    replace L32 : Hid (LI w12 a32 n32 g32) := LI.blw L32.out hb
    replace K34 : Hid (KX w12 a34 n34 F34) := KX.blw K34.out hb
    have O35 : Hid (lgOut n34 F34 n35 g35 r36) := ho
    have L35 : Hid (LI w12 a35 n35 g35) := own.at.mono (fun x hx => hx.2)
    clear own hb ho
    go_wp2_with fail
    refine (specLag_any a34 c34 n34 F34 _ _ K34.out).mono ?_
    rintro e w13 ⟨a37, n37, c37, g37, r38, rfl, ho, own, hb⟩
    replace HB : Hid (Blw _ _) := Blw.trans HB.out hb
    replace K28 : Hid (KX w13 a28 n31 F31) := KX.blw K28.out hb
    replace L29 : Hid (LI w13 a29 n32 g32) := LI.blw L29.out hb
    replace K31 : Hid (KX w13 a31 n31 F31) := KX.blw K31.out hb
    replace L32 : Hid (LI w13 a32 n32 g32) := LI.blw L32.out hb
    replace K34 : Hid (KX w13 a34 n34 F34) := KX.blw K34.out hb
    replace L35 : Hid (LI w13 a35 n35 g35) := LI.blw L35.out hb
    obtain ⟨e1, e2, e3⟩ := lgOut_same ho O35.out
    subst e1 e2 e3
    have L37 : Hid (LI w13 a37 n37 g37) := own.at.mono (fun x hx => hx.2)
    clear own hb ho O35
    clear K34
    have q1 : (r33 == r33) = true := by simp
    have q2 : (r38 == r38) = true := by simp
    go_wp2_with fail
    refine (sameInts_blw a29 a32 c29 c32 n32 g32 _ L29.out L32.out).mono ?_
    rintro e w14 ⟨rfl, hb⟩
    replace HB : Hid (Blw _ _) := Blw.trans HB.out hb
    replace K28 : Hid (KX w14 a28 n31 F31) := KX.blw K28.out hb
    replace L29 : Hid (LI w14 a29 n32 g32) := LI.blw L29.out hb
    replace K31 : Hid (KX w14 a31 n31 F31) := KX.blw K31.out hb
    replace L32 : Hid (LI w14 a32 n32 g32) := LI.blw L32.out hb
    replace L35 : Hid (LI w14 a35 n37 g37) := LI.blw L35.out hb
    replace L37 : Hid (LI w14 a37 n37 g37) := LI.blw L37.out hb
    clear hb
    clear L29 L32
    go_wp2_with fail
    refine (sameClients_same a28 a31 c28 c31 n31 F31 _ K28.out K31.out).mono ?_
    rintro e w15 ⟨rfl, hb⟩
    replace HB : Hid (Blw _ _) := Blw.trans HB.out hb
    replace K28 : Hid (KX w15 a28 n31 F31) := KX.blw K28.out hb
    replace K31 : Hid (KX w15 a31 n31 F31) := KX.blw K31.out hb
    replace L35 : Hid (LI w15 a35 n37 g37) := LI.blw L35.out hb
    replace L37 : Hid (LI w15 a37 n37 g37) := LI.blw L37.out hb
    clear hb
    clear K28 K31
    go_wp2_with fail
    refine (sameInts_blw a35 a37 c35 c37 n37 g37 _ L35.out L37.out).mono ?_
    rintro e w16 ⟨rfl, hb⟩
    replace HB : Hid (Blw _ _) := Blw.trans HB.out hb
    replace L35 : Hid (LI w16 a35 n37 g37) := LI.blw L35.out hb
    replace L37 : Hid (LI w16 a37 n37 g37) := LI.blw L37.out hb
    clear hb
    clear L35 L37
    go_wp2
    go_ret
    exact ⟨rfl, HB.out⟩
end Go.Proofs.YtneafnfdemodnaaDoor
