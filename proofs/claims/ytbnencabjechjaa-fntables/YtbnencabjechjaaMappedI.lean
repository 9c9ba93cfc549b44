/- MappedIn: the program's. -/
import Derived.Test.YtbnencabjechjaaMapped
namespace Go.Proofs.Ytbnencabjechjaa
open Go.RowKit
set_option linter.unusedSimpArgs false
set_option linter.unusedVariables false
theorem box1 (w : World) (v : Value) (t : TypeId) : Row (w.alloc (.cells #[v] t)) w.heap.size 1 (fun _ => v) :=
  ⟨_, t, heap_alloc_new _ _, by simp, fun i hi => by obtain rfl : i = 0 := by omega
                                                     rfl⟩
/-- A list that is gathered in a box at pb, behind w. -/
structure GB (w wr : World) (pb zk : Nat) (F : Nat → Value) (v : Value) (L : List Nat) : Prop where
  box : Row wr pb 1 (fun _ => v)
  buf : BufL (fun x => w.heap.size ≤ x ∧ x < wr.heap.size ∧ x ≠ pb ∧ x ≠ zk) wr v L
  blw : Blw w wr
  lo : w.heap.size ≤ pb
  kp : Row wr zk 5 F
  ne : zk ≠ pb
theorem GB.go {w wr w' : World} {pb zk : Nat} {F : Nat → Value} {v : Value} {L : List Nat} (h : GB w wr pb zk F v L) (hb : Blw wr w') : GB w w' pb zk F v L :=
  ⟨h.box.blw hb, (Buf.blw h.buf hb).mono (fun x hx => ⟨hx.1, Nat.lt_of_lt_of_le hx.2.1 hb.size, hx.2.2⟩), h.blw.trans hb, h.lo, h.kp.blw hb, h.ne⟩
theorem GB.push {w wr : World} {pb zk : Nat} {F : Nat → Value} {v : Value} {L : List Nat} (h : GB w wr pb zk F v L) (hn : L.length ≤ 1048576) (x : Nat) :
    ∃ ao' cap w', (Builtin.append_ #[23, 23] 23 #[v, .slice (some ⟨wr.heap.size, 0, none⟩) 1 1]).run Try.prog (wr.alloc (.cells #[.int .i64 x] 3)) = .ok (.slice ao' (L.length + 1) cap) w' ∧ w'.cell? ⟨pb, 0, none⟩ = some v ∧ w'.frozen? ⟨pb, 0, none⟩ = false ∧ GB w (w'.setCell ⟨pb, 0, none⟩ (.slice ao' (L.length + 1) cap)) pb zk F (.slice ao' (L.length + 1) cap) (L ++ [x]) := by
  obtain ⟨a, cap, w', h1, h2, h3⟩ := h.buf.push hn x
  have hs := h.blw.size
  have hpl := h.box.lt
  have hkl := h.kp.lt
  have hs3 := h3.size
  have hx : ∀ b, v.ownBlock = some b → w.heap.size ≤ b ∧ b ≠ pb ∧ b ≠ zk := fun b hb => ⟨(h.buf.2 b hb).1, (h.buf.2 b hb).2.2⟩
  have rb := h.box.mod h3 (fun e => (hx _ e).2.1 rfl)
  have ms : Mod (fun x => x = pb) w' (w'.setCell ⟨pb, 0, none⟩ (.slice a (L.length + 1) cap)) := Mod.setCell (X := fun x => x = pb) _ (p := ⟨pb, 0, none⟩) rfl _
  have hs4 := ms.size
  refine ⟨a, cap, w', h1, rb.cell (i := 0) (by omega), rb.frozen 0, ⟨(rb.set 0 _).congr (fun i hi => by obtain rfl : i = 0 := by omega
                                                                                                        rfl), (Buf.mod (X := fun x => w.heap.size ≤ x ∧ x < w'.heap.size ∧ x ≠ pb ∧ x ≠ zk) (Buf.mono h2 (fun b hb => ?_)) ms (fun b hb e => hb.2.2.1 e)).mono (fun b hb => ⟨hb.1, by omega, hb.2.2⟩), Mod.blw (Mod.blw h.blw h3 (fun b hb => (hx b hb).1)) ms (fun i hi => by have := h.lo; omega), h.lo, (h.kp.mod h3 (fun e => (hx _ e).2.2 rfl)).mod ms h.ne, h.ne⟩⟩
  rcases hb.1 with q | q
  · exact ⟨q.1, hb.2, q.2.2⟩
  · exact ⟨by omega, hb.2, by omega, by omega⟩
def addM (L : List Nat) (a : Nat) (y : Int) : List Nat := if 0 < y then L ++ [a] else L
theorem addM_yes {L : List Nat} {a : Nat} {y : Int} (h : 0 < y) : addM L a y = L ++ [a] := if_pos h
theorem addM_no {L : List Nat} {a : Nat} {y : Int} (h : ¬ 0 < y) : addM L a y = L := if_neg h
set_option maxRecDepth 10000 in
set_option maxHeartbeats 1600000 in
theorem noteMapped_any (a : Nat) (x y : Int) (pb zk : Nat) (F : Nat → Value) (w wr : World) (v : Value) (L : List Nat) (hy : 0 ≤ y) (hL : L.length ≤ 1048576) (h : GB w wr pb zk F v L) :
    Calls Try.prog 68 #[.int .i64 a, .agg #[.int .i64 x, .int .i64 y], .pointer (some ⟨pb, 0, none⟩)] wr fun e w' => (∃ u, e = .returned u) ∧ ∃ v', GB w w' pb zk F v' (addM L a y) := by
  have hA : Blw wr (wr.alloc (.cells #[.int .i64 x, .int .i64 y] 73)) := (Blw.refl _).alloc _
  obtain ⟨p0, p1⟩ := get2 (box2 wr (.int .i64 x) (.int .i64 y) 73)
  have HG : Hid (GB w (wr.alloc (.cells #[.int .i64 x, .int .i64 y] 73)) pb zk F v L) := h.go hA
  clear h hA
  by_cases h0 : 0 < y
  · have d0 : (y != 0) = true := by simp; omega
    obtain ⟨ao, cap, w2, hrun, hc2, hf2, hG2⟩ := HG.out.push hL a
    have hc1 := HG.out.box.cell (i := 0) (by omega)
    rw [World.size_alloc] at hrun
    have HRN : Hid _ := hrun
    have HN : Hid (∃ v', GB w (w2.setCell ⟨pb, 0, none⟩ (.slice ao (L.length + 1) cap)) pb zk F v' (addM L a y)) := ⟨_, by rw [addM_yes h0]; exact hG2⟩
    clear hrun hG2 h0 HG hy
    go_enter Try.func68, Try.ntmps68
    go_wp2_with (first | (at_builtin; refine wpList_app (.tmp 8) (.tmp 10) 23 (by rfl) ?_; refine ⟨_, _, HRN.out, ?_⟩) | fail)
    refine bodyPost_end (results_none rfl _ _ _) rfl ?_
    exact ⟨⟨_, rfl⟩, HN.out⟩
  · have d0 : (y != 0) = false := by simp; omega
    have HN : Hid (∃ v', GB w (wr.alloc (.cells #[.int .i64 x, .int .i64 y] 73)) pb zk F v' (addM L a y)) := ⟨_, by rw [addM_no h0]; exact HG.out⟩
    clear h0 HG hy
    go_enter Try.func68, Try.ntmps68
    go_wp2
    refine bodyPost_end (results_none rfl _ _ _) rfl ?_
    exact ⟨⟨_, rfl⟩, HN.out⟩
theorem mp_next (c : Nat → Int) (m : Nat → Nat → Int) (j : Nat) : addM (pk (mpP c m) j) j (lfP c m j) = pk (mpP c m) (j + 1) := by
  by_cases h : 0 < lfP c m j
  · rw [addM_yes h, pk_yes (by simp [mpP, h])]
  · rw [addM_no h, pk_no (by simp [mpP]; omega)]
set_option maxRecDepth 10000 in
set_option maxHeartbeats 3200000 in
theorem walkMapped_any (c : Nat → Int) (zl kn : Nat) (p m : Nat → Nat → Int) (pb : Nat) (w wr : World) (hk : kn ≤ 4) (ht : ∀ i, i < 4 → -1 ≤ c i ∧ c i ≤ (kn : Int) - 1) (hm : ∀ a, a < 16 → 0 ≤ lfP c m a) (hrw : Row w zl (kn * 8) (lc p m)) (hb : Blw w wr) (hlo : w.heap.size ≤ pb) (hbx : Row wr pb 1 (fun _ => .slice none 0 0)) :
    Calls Try.prog 67 #[.agg (held5 c zl kn), .func (.func 68) #[] #[.pointer (some ⟨pb, 0, none⟩)]] wr fun e w' => (∃ u, e = .returned u) ∧ ∃ v' zk F, GB w w' pb zk F v' (pk (mpP c m) 16) := by
  have hA : Blw wr (wr.alloc (.cells (held5 c zl kn) 82)) := (Blw.refl _).alloc _
  have hr5 : Row (wr.alloc (.cells (held5 c zl kn) 82)) wr.heap.size 5 (row5f c (.slice (some ⟨zl, 0, none⟩) kn kn)) := row5 wr (.int .i64 (c 0)) (.int .i64 (c 1)) (.int .i64 (c 2)) (.int .i64 (c 3)) (.slice (some ⟨zl, 0, none⟩) kn kn) 82
  have hpb : pb < wr.heap.size := hbx.lt
  have HG0 : Hid (GB w (wr.alloc (.cells (held5 c zl kn) 82)) pb wr.heap.size (row5f c (.slice (some ⟨zl, 0, none⟩) kn kn)) (.slice none 0 0) []) := ⟨hbx.blw hA, BufL.nil _ _, hb.trans hA, hlo, hr5, by omega⟩
  have HT : Hid (∀ i, i < 4 → -1 ≤ c i ∧ c i ≤ (kn : Int) - 1) := ht
  have HMM : Hid (∀ a, a < 16 → 0 ≤ lfP c m a) := hm
  have HRW : Hid (Row w zl (kn * 8) (lc p m)) := hrw
  clear hA ht hm hrw hb hbx hr5
  go_enter Try.func67, Try.ntmps67
  go_wp2_with fail
  generalize wr.heap.size = z5 at *
  generalize wr.alloc (.cells (held5 c zl kn) 82) = w1 at *
  go_loopw [5] (fun i wq => ∃ j : Nat, j ≤ 16 ∧ i = .int .i64 j ∧ ∃ v', GB w wq pb z5 (row5f c (.slice (some ⟨zl, 0, none⟩) kn kn)) v' (pk (mpP c m) j)) (fun i _ => 16 - (intOf i).toNat)
  case atStart => exact ⟨0, by omega, rfl, _, HG0.out⟩
  case round =>
    obtain ⟨j, hj, rfl, v2, hG⟩ := hrel
    have HG : Hid (GB w wr pb z5 (row5f c (.slice (some ⟨zl, 0, none⟩) kn kn)) v2 (pk (mpP c m) j)) := hG
    clear hG HG0
    by_cases hlt : j < 16
    · have hlt' : (j : Int) < 16 := by omega
      obtain ⟨p0, p1, p2, p3, p4⟩ := get5 HG.out.kp
      go_wp2_with fail
      clear p0 p1 p2 p3 p4
      refine (leafAt_any c zl kn p m j _ hk HT.out hlt (HRW.out.blw HG.out.blw)).mono ?_
      rintro e w2 ⟨rfl, hb2⟩
      replace HG : Hid (GB w w2 pb z5 (row5f c (.slice (some ⟨zl, 0, none⟩) kn kn)) v2 (pk (mpP c m) j)) := HG.out.go hb2
      clear hb2
      have hle := pk_len (mpP c m) j
      go_wp2_with fail
      refine (noteMapped_any j (lfP c p j) (lfP c m j) pb z5 _ w _ v2 (pk (mpP c m) j) (HMM.out j hlt) (by omega) HG.out).mono ?_
      rintro e w3 ⟨⟨u, rfl⟩, v3, hG3⟩
      rw [mp_next] at hG3
      have HN : Hid (∃ v', GB w w3 pb z5 (row5f c (.slice (some ⟨zl, 0, none⟩) kn kn)) v' (pk (mpP c m) (j + 1))) := ⟨v3, hG3⟩
      clear HG hG3 hle
      go_wp2
      go_roundw
      case rel => exact ⟨j + 1, by omega, by go_num, HN.out⟩
      case measure => simp [intOf]; omega
    · obtain rfl : j = 16 := by omega
      have HN : Hid (∃ v' zk F, GB w wr pb zk F v' (pk (mpP c m) 16)) := ⟨_, _, _, HG.out⟩
      clear HG hlt
      go_wp2
      refine bodyPost_end (results_none rfl _ _ _) rfl ?_
      exact ⟨⟨_, rfl⟩, HN.out⟩
end Go.Proofs.Ytbnencabjechjaa
