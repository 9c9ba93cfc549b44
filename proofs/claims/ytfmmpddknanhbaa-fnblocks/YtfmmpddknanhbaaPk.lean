/- Lists of places that are gathered, and who may use which pages. -/
import Derived.Test.YtfmmpddknanhbaaLend
import Derived.Test.YtfmmpddknanhbaaLawI
namespace Go.Proofs.Ytfmmpddknanhbaa
open Go.RowKit
set_option linter.unusedSimpArgs false
set_option linter.unusedVariables false
def snoc' (k : Nat) (f : Nat → Int) (x : Int) : Nat → Int := fun i => if i = k then x else f i
/-- append(l, x). -/
theorem pushI {X : Nat → Prop} {W : World} {v : Value} {n : Nat} {f : Nat → Int} (h : BufI X W v n f) (hn : n ≤ 1048576) (x : Int) :
    ∃ ao' cap w', (Builtin.append_ #[23, 23] 23 #[v, .slice (some ⟨W.heap.size, 0, none⟩) 1 1]).run Try.prog (W.alloc (.cells #[.int .i64 x] 3)) = .ok (.slice ao' (n + 1) cap) w' ∧ BufI (fun b => (X b ∨ W.heap.size < b) ∧ b < w'.heap.size) w' (.slice ao' (n + 1) cap) (n + 1) (snoc' n f x) ∧ Mod (fun b => v.ownBlock = some b) W w' := by
  obtain ⟨a, cap, w', h1, h2, h3⟩ := BufI.append (Buf.blw h ((Blw.refl _).alloc _)) 1 (one_ints W x) (by omega) 23
  refine ⟨a, cap, w', h1, (Buf.congr h2 (fun i hi => ?_)).mono (fun b hb => ?_), (((Blw.refl W).alloc _).mod _).trans h3⟩
  · by_cases e : i < n
    · have e2 : i ≠ n := by omega
      simp [ic, icat, e, e2, snoc']
    · have e2 : i = n := by omega
      simp [ic, icat, e2, snoc']
  · exact ⟨hb.1.imp id (fun e => by rw [World.size_alloc] at e; omega), hb.2⟩
def lf (L : List Nat) : Nat → Int := fun i => (L.getD i 0 : Nat)
def pk (p : Nat → Bool) (j : Nat) : List Nat := (List.range j).filter p
theorem pk_len (p : Nat → Bool) (j : Nat) : (pk p j).length ≤ j := by
  have := List.length_filter_le p (List.range j)
  simpa [pk] using this
theorem pk_yes {p : Nat → Bool} {j : Nat} (h : p j = true) : pk p (j + 1) = pk p j ++ [j] := by
  unfold pk; rw [List.range_succ, List.filter_append]; simp [h]
theorem pk_no {p : Nat → Bool} {j : Nat} (h : p j = false) : pk p (j + 1) = pk p j := by
  unfold pk; rw [List.range_succ, List.filter_append]; simp [h]
/-- The slice holds the list. -/
def BufL (X : Nat → Prop) (w : World) (v : Value) (L : List Nat) : Prop := BufI X w v L.length (lf L)
theorem BufL.nil (X : Nat → Prop) (w : World) : BufL X w (.slice none 0 0) [] := Buf.nil _ _ _ _ _
theorem BufL.push {X : Nat → Prop} {W : World} {v : Value} {L : List Nat} (h : BufL X W v L) (hn : L.length ≤ 1048576) (x : Nat) :
    ∃ ao' cap w', (Builtin.append_ #[23, 23] 23 #[v, .slice (some ⟨W.heap.size, 0, none⟩) 1 1]).run Try.prog (W.alloc (.cells #[.int .i64 x] 3)) = .ok (.slice ao' (L.length + 1) cap) w' ∧ BufL (fun b => (X b ∨ W.heap.size < b) ∧ b < w'.heap.size) w' (.slice ao' (L.length + 1) cap) (L ++ [x]) ∧ Mod (fun b => v.ownBlock = some b) W w' := by
  obtain ⟨a, cap, w', h1, h2, h3⟩ := pushI h hn (x : Int)
  refine ⟨a, cap, w', h1, ?_, h3⟩
  unfold BufL
  rw [List.length_append, List.length_singleton]
  refine Buf.congr h2 (fun i hi => ?_)
  simp only [ic, snoc', lf]
  by_cases e : i = L.length
  · subst e; simp
  · have : i < L.length := by omega
    rw [if_neg e, List.getD_eq_getElem?_getD, List.getD_eq_getElem?_getD, List.getElem?_append_left this]
/-- What stands while places are gathered into a new list. -/
structure Gath (w wr : World) (v : Value) (L : List Nat) : Prop where
  buf : BufL (fun x => w.heap.size ≤ x ∧ x < wr.heap.size) wr v L
  blw : Blw w wr
theorem Gath.push {w wr : World} {v : Value} {L : List Nat} (h : Gath w wr v L) (hn : L.length ≤ 1048576) (x : Nat) :
    ∃ ao' cap w', (Builtin.append_ #[23, 23] 23 #[v, .slice (some ⟨wr.heap.size, 0, none⟩) 1 1]).run Try.prog (wr.alloc (.cells #[.int .i64 x] 3)) = .ok (.slice ao' (L.length + 1) cap) w' ∧ Gath w w' (.slice ao' (L.length + 1) cap) (L ++ [x]) := by
  obtain ⟨a, cap, w', h1, h2, h3⟩ := h.buf.push hn x
  have hs := h.blw.size
  have hx : ∀ b, v.ownBlock = some b → w.heap.size ≤ b := fun b hb => (h.buf.2 b hb).1
  refine ⟨a, cap, w', h1, ⟨Buf.mono h2 (fun b hb => ⟨?_, hb.2⟩), Mod.blw h.blw h3 (fun b hb => hx b hb)⟩⟩
  rcases hb.1 with h | h
  · exact h.1
  · omega
theorem Gath.go {w wr w' : World} {v : Value} {L : List Nat} (h : Gath w wr v L) (hb : Blw wr w') : Gath w w' v L :=
  ⟨(Buf.blw h.buf hb).mono (fun x hx => ⟨hx.1, Nat.lt_of_lt_of_le hx.2 hb.size⟩), h.blw.trans hb⟩
theorem Gath.own {w wr : World} {v : Value} {L : List Nat} (h : Gath w wr v L) (hn : L.length ≤ 1048576) : ∃ ao cap, v = .slice ao L.length cap ∧ IntsOwn (fun x => w.heap.size ≤ x ∧ x < wr.heap.size) wr ao L.length (lf L) := BufI.own h.buf (by omega)
def mayP (c l : Nat → Int) (o : Int) : Nat → Bool := fun i => decide (c i = o) || decide (l i = o)
def ownP (c : Nat → Int) (o : Int) : Nat → Bool := fun i => decide (c i = o)
set_option maxHeartbeats 400000 in
theorem mayC_any (c l : Nat → Int) (i : Nat) (o : Int) (pb : Nat) (w : World) (hp : w.cell? ⟨pb, 0, none⟩ = some (.int .i64 o)) : Calls Try.prog 74 #[.agg #[.int .i64 (c i), .int .i64 (l i)], .pointer (some ⟨pb, 0, none⟩)] w fun e w' => e = .returned (.bool (mayP c l o i)) ∧ Blw w w' := by
  have hb0 : Blw w (w.alloc (.cells #[.int .i64 (c i), .int .i64 (l i)] 78)) := (Blw.refl _).alloc _
  obtain ⟨p0, p1⟩ := get2 (box2 w (.int .i64 (c i)) (.int .i64 (l i)) 78)
  have hp' := hb0.cell hp
  by_cases h1 : c i = o
  · have d1 : (c i == o) = true := by simp [h1]
    have E : Hid (mayP c l o i = true) := by show _ = _; simp [mayP, h1]
    clear h1
    go_enter Try.func74, Try.ntmps74
    go_wp2
    go_ret
    exact ⟨(by rw [E.out]; rfl), hb0⟩
  · have d1 : (c i == o) = false := by simp [h1]
    by_cases h2 : l i = o
    · have d2 : (l i == o) = true := by simp [h2]
      have E : Hid (mayP c l o i = true) := by show _ = _; simp [mayP, h2]
      clear h1 h2
      go_enter Try.func74, Try.ntmps74
      go_wp2
      go_ret
      exact ⟨(by rw [E.out]; rfl), hb0⟩
    · have d2 : (l i == o) = false := by simp [h2]
      have E : Hid (mayP c l o i = false) := by show _ = _; simp [mayP, h1, h2]
      clear h1 h2
      go_enter Try.func74, Try.ntmps74
      go_wp2
      go_ret
      exact ⟨(by rw [E.out]; rfl), hb0⟩
set_option maxHeartbeats 400000 in
theorem ownC_any (c l : Nat → Int) (i : Nat) (o : Int) (pb : Nat) (w : World) (hp : w.cell? ⟨pb, 0, none⟩ = some (.int .i64 o)) : Calls Try.prog 76 #[.agg #[.int .i64 (c i), .int .i64 (l i)], .pointer (some ⟨pb, 0, none⟩)] w fun e w' => e = .returned (.bool (ownP c o i)) ∧ Blw w w' := by
  have hb0 : Blw w (w.alloc (.cells #[.int .i64 (c i), .int .i64 (l i)] 78)) := (Blw.refl _).alloc _
  obtain ⟨p0, p1⟩ := get2 (box2 w (.int .i64 (c i)) (.int .i64 (l i)) 78)
  have hp' := hb0.cell hp
  by_cases h1 : c i = o
  · have d1 : (c i == o) = true := by simp [h1]
    have E : Hid (ownP c o i = true) := by show _ = _; simp [ownP, h1]
    clear h1
    go_enter Try.func76, Try.ntmps76
    go_wp2
    go_ret
    exact ⟨(by rw [E.out]; rfl), hb0⟩
  · have d1 : (c i == o) = false := by simp [h1]
    have E : Hid (ownP c o i = false) := by show _ = _; simp [ownP, h1]
    clear h1
    go_enter Try.func76, Try.ntmps76
    go_wp2
    go_ret
    exact ⟨(by rw [E.out]; rfl), hb0⟩
set_option maxRecDepth 10000 in
set_option maxHeartbeats 1600000 in
theorem placesMay_any (z pb : Nat) (c l : Nat → Int) (o : Int) (w : World) (h : Row w z (16 * 2) (uc c l)) (hp : w.cell? ⟨pb, 0, none⟩ = some (.int .i64 o)) :
    Calls Try.prog 73 #[.slice (some ⟨z, 0, none⟩) 16 16, .func (.func 74) #[] #[.pointer (some ⟨pb, 0, none⟩)]] w fun e w' => ∃ v, e = .returned v ∧ Gath w w' v (pk (mayP c l o) 16) := by
  have H : Hid (Row w z (16 * 2) (uc c l)) := h
  have HP : Hid (w.cell? ⟨pb, 0, none⟩ = some (.int .i64 o)) := hp
  clear h hp
  go_enter Try.func73, Try.ntmps73
  go_wp2_with fail
  go_loopw [5, 10] (fun v i wr => ∃ j : Nat, j ≤ 16 ∧ i = .int .i64 j ∧ Gath w wr v (pk (mayP c l o) j)) (fun _ i _ => 16 - (intOf i).toNat)
  case atStart => exact ⟨0, by omega, rfl, ⟨BufL.nil _ _, Blw.refl _⟩⟩
  case round =>
    obtain ⟨j, hj, rfl, hG⟩ := hrel
    have HG : Hid (Gath w wr u5 (pk (mayP c l o) j)) := hG
    clear hG
    by_cases hlt : j < 16
    · have hlt' : (j : Int) < 16 := by omega
      obtain ⟨q0, q1⟩ := undo_get (H.out.blw HG.out.blw) hlt
      obtain ⟨s0, s1⟩ := get2 (box2 wr (.int .i64 (c j)) (.int .i64 (l j)) 78)
      have hA : Blw wr (wr.alloc (.cells #[.int .i64 (c j), .int .i64 (l j)] 78)) := (Blw.refl _).alloc _
      go_wp2_with fail
      clear q0 q1 s0 s1
      refine (mayC_any c l j o pb _ ((HG.out.blw.trans hA).cell HP.out)).mono ?_
      rintro e w1 ⟨rfl, hb1⟩
      replace HG : Hid (Gath w w1 u5 (pk (mayP c l o) j)) := HG.out.go (hA.trans hb1)
      clear hA hb1
      cases hpj : mayP c l o j
      · have HN : Hid (Gath w w1 u5 (pk (mayP c l o) (j + 1))) := by rw [pk_no hpj]; exact HG.out
        clear hpj HG
        go_wp2
        go_roundw
        case rel => exact ⟨j + 1, by omega, by go_num, HN.out⟩
        case measure => simp [intOf]; omega
      · have hle := pk_len (mayP c l o) j
        obtain ⟨ao, cap, w2, hrun, hG2⟩ := HG.out.push (by omega) j
        have HRN : Hid _ := hrun
        have HN : Hid (Gath w w2 (.slice ao ((pk (mayP c l o) j).length + 1) cap) (pk (mayP c l o) (j + 1))) := by rw [pk_yes hpj]; exact hG2
        clear hrun hG2 hpj HG hle
        go_wp2_with (first | (at_builtin; refine wpList_app (.tmp 18) (.tmp 20) 23 (by rfl) ?_; refine ⟨_, _, HRN.out, ?_⟩) | fail)
        go_roundw
        case rel => exact ⟨j + 1, by omega, by go_num, HN.out⟩
        case measure => simp [intOf]; omega
    · obtain rfl : j = 16 := by omega
      go_wp2
      go_ret
      exact ⟨_, rfl, HG.out⟩
set_option maxRecDepth 10000 in
set_option maxHeartbeats 1600000 in
theorem placesOwn_any (z pb : Nat) (c l : Nat → Int) (o : Int) (w : World) (h : Row w z (16 * 2) (uc c l)) (hp : w.cell? ⟨pb, 0, none⟩ = some (.int .i64 o)) :
    Calls Try.prog 73 #[.slice (some ⟨z, 0, none⟩) 16 16, .func (.func 76) #[] #[.pointer (some ⟨pb, 0, none⟩)]] w fun e w' => ∃ v, e = .returned v ∧ Gath w w' v (pk (ownP c o) 16) := by
  have H : Hid (Row w z (16 * 2) (uc c l)) := h
  have HP : Hid (w.cell? ⟨pb, 0, none⟩ = some (.int .i64 o)) := hp
  clear h hp
  go_enter Try.func73, Try.ntmps73
  go_wp2_with fail
  go_loopw [5, 10] (fun v i wr => ∃ j : Nat, j ≤ 16 ∧ i = .int .i64 j ∧ Gath w wr v (pk (ownP c o) j)) (fun _ i _ => 16 - (intOf i).toNat)
  case atStart => exact ⟨0, by omega, rfl, ⟨BufL.nil _ _, Blw.refl _⟩⟩
  case round =>
    obtain ⟨j, hj, rfl, hG⟩ := hrel
    have HG : Hid (Gath w wr u5 (pk (ownP c o) j)) := hG
    clear hG
    by_cases hlt : j < 16
    · have hlt' : (j : Int) < 16 := by omega
      obtain ⟨q0, q1⟩ := undo_get (H.out.blw HG.out.blw) hlt
      obtain ⟨s0, s1⟩ := get2 (box2 wr (.int .i64 (c j)) (.int .i64 (l j)) 78)
      have hA : Blw wr (wr.alloc (.cells #[.int .i64 (c j), .int .i64 (l j)] 78)) := (Blw.refl _).alloc _
      go_wp2_with fail
      clear q0 q1 s0 s1
      refine (ownC_any c l j o pb _ ((HG.out.blw.trans hA).cell HP.out)).mono ?_
      rintro e w1 ⟨rfl, hb1⟩
      replace HG : Hid (Gath w w1 u5 (pk (ownP c o) j)) := HG.out.go (hA.trans hb1)
      clear hA hb1
      cases hpj : ownP c o j
      · have HN : Hid (Gath w w1 u5 (pk (ownP c o) (j + 1))) := by rw [pk_no hpj]; exact HG.out
        clear hpj HG
        go_wp2
        go_roundw
        case rel => exact ⟨j + 1, by omega, by go_num, HN.out⟩
        case measure => simp [intOf]; omega
      · have hle := pk_len (ownP c o) j
        obtain ⟨ao, cap, w2, hrun, hG2⟩ := HG.out.push (by omega) j
        have HRN : Hid _ := hrun
        have HN : Hid (Gath w w2 (.slice ao ((pk (ownP c o) j).length + 1) cap) (pk (ownP c o) (j + 1))) := by rw [pk_yes hpj]; exact hG2
        clear hrun hG2 hpj HG hle
        go_wp2_with (first | (at_builtin; refine wpList_app (.tmp 18) (.tmp 20) 23 (by rfl) ?_; refine ⟨_, _, HRN.out, ?_⟩) | fail)
        go_roundw
        case rel => exact ⟨j + 1, by omega, by go_num, HN.out⟩
        case measure => simp [intOf]; omega
    · obtain rfl : j = 16 := by omega
      go_wp2
      go_ret
      exact ⟨_, rfl, HG.out⟩
def muOK (B : BD) (o : Int) : Prop := B.Good ∧ whoOK o
def muOut (B : BD) (o : Int) (n : Nat) (f : Nat → Int) (r : Bool) : Prop := (muOK B o ∧ n = (pk (mayP B.c B.l o) 16).length ∧ f = lf (pk (mayP B.c B.l o) 16) ∧ r = true) ∨ (¬ muOK B o ∧ n = 0 ∧ r = false)
theorem muOut_same {B : BD} {o : Int} {n n' : Nat} {f f' : Nat → Int} {r r' : Bool} (h : muOut B o n f r) (k : muOut B o n' f' r') : (n = n' ∧ ∀ i, i < n → f i = f' i) ∧ r = r' := by
  rcases h with ⟨g, rfl, rfl, rfl⟩ | ⟨g, rfl, rfl⟩
  · rcases k with ⟨_, rfl, rfl, rfl⟩ | ⟨g', _, _⟩
    · exact ⟨⟨rfl, fun _ _ => rfl⟩, rfl⟩
    · exact absurd g g'
  · rcases k with ⟨g', _⟩ | ⟨_, rfl, rfl⟩
    · exact absurd g' g
    · exact ⟨⟨rfl, fun i hi => absurd hi (Nat.not_lt_zero _)⟩, rfl⟩
theorem zero_givesI {out : Nat → (Nat → Int) → Bool → Prop} {w w1 : World} (ho : out 0 (fun _ => 0) false) (hb : Blw w w1) : GivesI out w (.returned (.tuple #[.slice none 0 0, .bool false])) w1 :=
  ⟨none, 0, 0, fun _ => 0, false, rfl, ho, by omega, IntsOwn.nil _ _ _ _, hb⟩
end Go.Proofs.Ytfmmpddknanhbaa
