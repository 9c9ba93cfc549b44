/- The program's held owners: taken in, tested, given out. -/
import Derived.Test.YtfmmpddknanhbaaGood
namespace Go.Proofs.Ytfmmpddknanhbaa
open Go.RowKit
set_option linter.unusedSimpArgs false
set_option linter.unusedVariables false
theorem pageOK_zero {x : Int} : pageOK x 0 ↔ (x = 0 ∨ whoOK x) := by
  unfold pageOK whoOK
  constructor
  · intro h; omega
  · intro h; exact ⟨by omega, by omega, fun h => absurd h (by omega)⟩
theorem pageOK_lent {x y : Int} (h : ¬ y = 0) : pageOK x y ↔ (whoOK x ∧ whoOK y ∧ ¬ y = x) := by
  unfold pageOK whoOK
  constructor
  · intro ⟨h1, h2, h3⟩
    have := h3 (by omega)
    omega
  · intro h; exact ⟨by omega, by omega, fun _ => by omega⟩
set_option maxHeartbeats 800000 in
theorem isGood_any (x y : Int) (w : World) : Calls Try.prog 85 #[.agg #[.int .i64 x, .int .i64 y]] w fun e w' => ∃ r, e = .returned (.bool r) ∧ (r = true ↔ pageOK x y) ∧ Blw w w' := by
  have hb0 : Blw w (w.alloc (.cells #[.int .i64 x, .int .i64 y] 78)) := (Blw.refl _).alloc _
  obtain ⟨p0, p1⟩ := get2 (box2 w (.int .i64 x) (.int .i64 y) 78)
  by_cases hy : y = 0
  · subst hy
    by_cases hx : x = 0
    · subst hx
      go_enter Try.func85, Try.ntmps85
      go_wp2
      go_ret
      exact ⟨true, rfl, iff_t (pageOK_zero.2 (Or.inl rfl)), hb0⟩
    · have d1 : (x == 0) = false := by simp [hx]
      have HX : Hid (¬ x = 0) := hx
      clear hx
      go_enter Try.func85, Try.ntmps85
      go_wp2_with fail
      refine (isOwner_any x _).mono ?_
      rintro e w' ⟨r, rfl, hr, rfl⟩
      have HR : Hid (r = true ↔ whoOK x) := hr
      clear hr
      go_wp2
      go_ret
      exact ⟨r, rfl, HR.out.trans ⟨fun h => pageOK_zero.2 (Or.inr h), fun h => (pageOK_zero.1 h).resolve_left HX.out⟩, hb0⟩
  · have d1 : (y == 0) = false := by simp [hy]
    have HY : Hid (¬ y = 0) := hy
    clear hy
    go_enter Try.func85, Try.ntmps85
    go_wp2_with fail
    refine (isOwner_any x _).mono ?_
    rintro e w' ⟨r, rfl, hr, rfl⟩
    have HR : Hid (r = true ↔ whoOK x) := hr
    clear hr
    cases r
    · go_wp2
      go_ret
      refine ⟨false, rfl, iff_f (fun h => ?_), hb0⟩
      have := HR.out.2 ((pageOK_lent HY.out).1 h).1
      simp at this
    have HX : Hid (whoOK x) := HR.out.1 (by first | rfl | trivial)
    clear HR
    go_wp2_with fail
    refine (isOwner_any y _).mono ?_
    rintro e w' ⟨r, rfl, hr, rfl⟩
    have HR : Hid (r = true ↔ whoOK y) := hr
    clear hr
    cases r
    · go_wp2
      go_ret
      refine ⟨false, rfl, iff_f (fun h => ?_), hb0⟩
      have := HR.out.2 ((pageOK_lent HY.out).1 h).2.1
      simp at this
    have HZ : Hid (whoOK y) := HR.out.1 (by first | rfl | trivial)
    clear HR
    by_cases he : y = x
    · have d2 : (y != x) = false := by simp [he]
      have HE : Hid (y = x) := he
      clear he
      go_wp2
      go_ret
      exact ⟨false, rfl, iff_f (fun h => ((pageOK_lent HY.out).1 h).2.2 HE.out), hb0⟩
    · have d2 : (y != x) = true := by simp [he]
      have HE : Hid (¬ y = x) := he
      clear he
      go_wp2
      go_ret
      exact ⟨true, rfl, iff_t ((pageOK_lent HY.out).2 ⟨HX.out, HZ.out, HE.out⟩), hb0⟩
theorem Row.made2 (w : World) (z : Value) (n : Nat) (t : TypeId) : Row (w.alloc (.cells (madeCells #[z, z] (n * 2)) t)) w.heap.size (n * 2) (fun _ => z) := by
  refine ⟨_, t, heap_alloc_new _ _, by simp [madeCells], fun i hi => ?_⟩
  have h2 : i % 2 = 0 ∨ i % 2 = 1 := by omega
  rcases h2 with h2 | h2 <;> simp [madeCells, hi, h2]
def cutF (j : Nat) (f : Nat → Int) : Nat → Int := fun t => if t < j then f t else 0
theorem put_pair {w : World} {H n : Nat} {f g : Nat → Int} (r : Row w H (n * 2) (uc f g)) (i : Nat) (x y : Int) :
    Row ((w.setCell ⟨H, i * 2, none⟩ (.int .i64 x)).setCell ⟨H, i * 2 + 1, none⟩ (.int .i64 y)) H (n * 2) (uc (fun t => if t = i then x else f t) (fun t => if t = i then y else g t)) := by
  refine ((r.set (i * 2) _).set (i * 2 + 1) _).congr (fun t ht => ?_)
  by_cases e1 : t = i * 2 + 1
  · subst e1
    rw [if_pos rfl, (uc_at _ _ i).2, if_pos rfl]
  · rw [if_neg e1]
    by_cases e0 : t = i * 2
    · subst e0
      rw [if_pos rfl, (uc_at _ _ i).1, if_pos rfl]
    · rw [if_neg e0]
      have e2 : t / 2 ≠ i := by omega
      simp [uc, e2]
theorem put_mod {X : Nat → Prop} (w1 : World) {H a b : Nat} (hB : X H) (v0 v1 : Value) : Mod X w1 ((w1.setCell ⟨H, a, none⟩ v0).setCell ⟨H, b, none⟩ v1) :=
  (Mod.setCell _ (p := ⟨H, a, none⟩) hB _).trans (Mod.setCell _ (p := ⟨H, b, none⟩) hB _)
theorem hinfo78 : (Try.prog.info? 78).map (fun i => (i.zero, i.size, i.bytes)) = some (some (.agg #[.int .i64 0, .int .i64 0]), 2, 16) := by kernel_rfl
theorem mkHeld (w : World) : (Instr.makeSlice 69 (.int .i64 16) (.int .i64 16)).run Try.prog w = .ok (.slice (some ⟨w.heap.size, 0, none⟩) 16 16) (w.alloc (.cells (madeCells #[.int .i64 0, .int .i64 0] (16 * 2)) 78)) := by
  obtain ⟨i0, hi, hz0, hz1, hz2⟩ := info_parts hinfo78
  have h := run_make (P := Try.prog) w 69 78 i0 (.agg #[.int .i64 0, .int .i64 0]) Try.underlying69 hi hz0 .i64 .i64 (16 : Int) (16 : Int) (by omega) (Int.le_refl _) (by rw [hz2]; omega) (by omega)
  simpa [hz1, Value.cells] using h
/-- What holdOwners answers. -/
def heldAt (B : BD) (w : World) (e : Ending) (w' : World) : Prop :=
  (∃ z, B.Good ∧ e = .returned (.tuple #[.slice (some ⟨z, 0, none⟩) 16 16, .bool true]) ∧ Row w' z (16 * 2) (uc B.c B.l) ∧ w.heap.size < z) ∨ (¬ B.Good ∧ e = .returned (.tuple #[.slice none 0 0, .bool false]))
set_option maxRecDepth 10000 in
set_option maxHeartbeats 3200000 in
theorem hold_any (b : BV) (B : BD) (Y : Nat → Prop) (w : World) (h : BookAt Y w b B) (hY : ∀ x, Y x → x < w.heap.size) :
    Calls Try.prog 55 #[b.val B] w fun e w' => heldAt B w e w' ∧ Blw w w' := by
  obtain ⟨n, c, k, l⟩ := B
  obtain ⟨a1, a2, c1, c2⟩ := b
  simp only [BV.val] at *
  have hb0 : Blw w (w.alloc (.cells #[.slice a1 n c1, .slice a2 k c2] 25)) := (Blw.refl _).alloc _
  have r0 := box2 w (.slice a1 n c1) (.slice a2 k c2) 25
  have HC : Hid (IntsAt Y (w.alloc (.cells #[.slice a1 n c1, .slice a2 k c2] 25)) a1 n c) := h.c.blw hb0
  have HL : Hid (IntsAt Y (w.alloc (.cells #[.slice a1 n c1, .slice a2 k c2] 25)) a2 k l) := h.l.blw hb0
  have HY : Hid (∀ x, Y x → x < w.heap.size) := hY
  clear h hY
  by_cases hn : n = 16
  case neg =>
    have d1 : ((n : Int) != 16) = true := by simp; omega
    have H : Hid (¬ n = 16) := hn
    clear hn
    go_enter Try.func55, Try.ntmps55
    go_wp2
    refine bodyPost_ret (v := .tuple #[.slice none 0 0, .bool false]) (by simp [results, Try.results55, go_sem]) rfl ?_
    exact ⟨Or.inr ⟨fun g => H.out g.n, rfl⟩, hb0⟩
  by_cases hk : k = 16
  case neg =>
    subst hn
    have d1 : ((k : Int) != 16) = true := by simp; omega
    have H : Hid (¬ k = 16) := hk
    clear hk
    go_enter Try.func55, Try.ntmps55
    go_wp2
    refine bodyPost_ret (v := .tuple #[.slice none 0 0, .bool false]) (by simp [results, Try.results55, go_sem]) rfl ?_
    exact ⟨Or.inr ⟨fun g => H.out g.k, rfl⟩, hb0⟩
  subst hn hk
  have hz : (w.alloc (.cells #[.slice a1 16 c1, .slice a2 16 c2] 25)).heap.size = w.heap.size + 1 := by simp
  have hmk := mkHeld (w.alloc (.cells #[.slice a1 16 c1, .slice a2 16 c2] 25))
  rw [hz] at hmk
  have hm2 := Row.made2 (w.alloc (.cells #[.slice a1 16 c1, .slice a2 16 c2] 25)) (.int .i64 0) 16 78
  rw [hz] at hm2
  have hA : Blw (w.alloc (.cells #[.slice a1 16 c1, .slice a2 16 c2] 25)) ((w.alloc (.cells #[.slice a1 16 c1, .slice a2 16 c2] 25)).alloc (.cells (madeCells #[.int .i64 0, .int .i64 0] (16 * 2)) 78)) := (Blw.refl _).alloc _
  go_enter Try.func55, Try.ntmps55
  go_wp2_with fail
  clear hmk
  revert hb0 r0 HC HL hm2 hA
  generalize (w.alloc (.cells #[.slice a1 16 c1, .slice a2 16 c2] 25)).alloc (.cells (madeCells #[.int .i64 0, .int .i64 0] (16 * 2)) 78) = w1
  intro hb0 r0 HC HL hm2 hA
  replace HC : Hid (IntsAt Y w1 a1 16 c) := HC.out.blw hA
  replace HL : Hid (IntsAt Y w1 a2 16 l) := HL.out.blw hA
  replace r0 := r0.blw hA
  have HBX : Hid (Row w1 w.heap.size 2 (fun i => if i = 0 then .slice a1 16 c1 else .slice a2 16 c2)) := r0
  have HW : Hid (Blw w w1) := hb0.trans hA
  have HR : Hid (Row w1 (w.heap.size + 1) (16 * 2) (fun _ => .int .i64 0)) := hm2
  clear hA hb0 r0 hm2 hz
  go_loopw [19] (fun i wr => ∃ j : Nat, j ≤ 16 ∧ i = .int .i64 j ∧ (∀ t, t < j → pageOK (c t) (l t)) ∧ Row wr (w.heap.size + 1) (16 * 2) (uc (cutF j c) (cutF j l)) ∧ Mod (fun x => x = w.heap.size + 1) w1 wr) (fun i _ => 16 - (intOf i).toNat)
  case atStart => exact ⟨0, by omega, rfl, fun t ht => absurd ht (Nat.not_lt_zero _), HR.out.congr (fun i hi => by simp [uc, cutF]), Mod.refl _ _⟩
  case round =>
    obtain ⟨j, hj, rfl, hok, hrow, hm⟩ := hrel
    have HO : Hid (∀ t, t < j → pageOK (c t) (l t)) := hok
    have HM : Hid (Mod (fun x => x = w.heap.size + 1) w1 wr) := hm
    have HRW : Hid (Row wr (w.heap.size + 1) (16 * 2) (uc (cutF j c) (cutF j l))) := hrow
    clear hok hm hrow
    by_cases hlt : j < 16
    · have hlt' : (j : Int) < 16 := by omega
      obtain ⟨b1, o1, rfl, y1, g1⟩ := HC.out.2 j hlt
      obtain ⟨b2, o2, rfl, y2, g2⟩ := HL.out.2 j hlt
      have z1 := HY.out _ y1
      have z2 := HY.out _ y2
      replace g1 := HM.out.cell g1 (by show ¬ b1 = w.heap.size + 1; omega)
      replace g2 := HM.out.cell g2 (by show ¬ b2 = w.heap.size + 1; omega)
      obtain ⟨p0, p1⟩ := get2 (HBX.out.mod HM.out (by omega))
      obtain ⟨q0, q1⟩ := undo_get HRW.out hlt
      have f0 := HRW.out.frozen (j * 2)
      have f1 := HRW.out.frozen (j * 2 + 1)
      have nx := put_pair HRW.out j (c j) (l j)
      have nm := HM.out.trans (put_mod (X := fun x => x = w.heap.size + 1) wr (a := j * 2) (b := j * 2 + 1) rfl (.int .i64 (c j)) (.int .i64 (l j)))
      have NX : Hid (Row ((wr.setCell ⟨w.heap.size + 1, j * 2, none⟩ (.int .i64 (c j))).setCell ⟨w.heap.size + 1, j * 2 + 1, none⟩ (.int .i64 (l j))) (w.heap.size + 1) (16 * 2) (uc (cutF (j + 1) c) (cutF (j + 1) l))) := nx.congr (fun t ht => by
        have e : ∀ f : Nat → Int, (if t / 2 = j then f j else cutF j f (t / 2)) = cutF (j + 1) f (t / 2) := fun f => by
          unfold cutF
          by_cases e1 : t / 2 = j
          · rw [if_pos e1, e1, if_pos (by omega)]
          · rw [if_neg e1]
            by_cases e2 : t / 2 < j
            · rw [if_pos e2, if_pos (by omega)]
            · rw [if_neg e2, if_neg (by omega)]
        simp only [uc, e])
      have NM : Hid (Mod (fun x => x = w.heap.size + 1) w1 ((wr.setCell ⟨w.heap.size + 1, j * 2, none⟩ (.int .i64 (c j))).setCell ⟨w.heap.size + 1, j * 2 + 1, none⟩ (.int .i64 (l j)))) := nm
      have NQ : Hid _ := undo_get NX.out hlt
      clear nx nm HRW HM y1 y2 z1 z2
      go_wp2_with fail
      go_region
      clear p0 p1 q0 q1 f0 f1 g1 g2
      obtain ⟨q0, q1⟩ := NQ.out
      have ec : cutF (j + 1) c j = c j := by simp [cutF]
      have el : cutF (j + 1) l j = l j := by simp [cutF]
      rw [ec] at q0
      rw [el] at q1
      clear ec el NQ
      revert NX NM q0 q1
      generalize (wr.setCell ⟨w.heap.size + 1, j * 2, none⟩ (.int .i64 (c j))).setCell ⟨w.heap.size + 1, j * 2 + 1, none⟩ (.int .i64 (l j)) = w2
      intro NX NM q0 q1
      go_wp2_with fail
      clear q0 q1
      refine (isGood_any (c j) (l j) _).mono ?_
      rintro e w3 ⟨r, rfl, hr, hb3⟩
      have HR3 : Hid (r = true ↔ pageOK (c j) (l j)) := hr
      have HB3 : Hid (Blw w2 w3) := (Blw.drew (Blw.refl _)).trans hb3
      clear hr hb3
      cases r
      · go_wp2
        refine bodyPost_ret (v := .tuple #[.slice none 0 0, .bool false]) (by simp [results, Try.results55, go_sem]) rfl ?_
        refine ⟨Or.inr ⟨fun g => ?_, rfl⟩, Mod.blw HW.out (NM.out.trans (HB3.out.mod _)) (fun i hi => by omega)⟩
        have := HR3.out.2 (g.ok j hlt)
        simp at this
      · have OKJ : Hid (pageOK (c j) (l j)) := HR3.out.1 (by first | rfl | trivial)
        go_wp2
        go_roundw
        case rel => exact ⟨j + 1, by omega, by go_num, fun t ht => by
            by_cases e : t = j
            · subst e; exact OKJ.out
            · exact HO.out t (by omega), NX.out.blw HB3.out, NM.out.trans (HB3.out.mod _)⟩
        case measure => simp [intOf]; omega
    · obtain rfl : j = 16 := by omega
      have FIN : Hid (Row wr (w.heap.size + 1) (16 * 2) (uc c l)) := HRW.out.congr (fun i hi => by
        have e2 : i / 2 < 16 := by omega
        simp [uc, cutF, e2])
      go_wp2
      refine bodyPost_ret (v := .tuple #[.slice (some ⟨w.heap.size + 1, 0, none⟩) 16 16, .bool true]) (by simp [results, Try.results55, go_sem]) rfl ?_
      exact ⟨Or.inl ⟨_, ⟨rfl, rfl, HO.out⟩, rfl, FIN.out, by omega⟩, Mod.blw HW.out HM.out (fun i hi => by omega)⟩
end Go.Proofs.Ytfmmpddknanhbaa
