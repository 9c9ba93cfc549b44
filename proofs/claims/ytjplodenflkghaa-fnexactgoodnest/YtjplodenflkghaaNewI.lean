/- New tables: the program's and the model's. -/
import Derived.Test.YtjplodenflkghaaRes
namespace Go.Proofs.Ytjplodenflkghaa
open Go.RowKit
set_option linter.unusedSimpArgs false
set_option linter.unusedVariables false
abbrev zz : Nat → Nat → Int := fun _ _ => 0
abbrev newB (k : Int) : BD := ⟨4, fun _ => -1, ⟨k.toNat, fun _ => 4, zz, zz⟩⟩
theorem lc_zero {w : World} {z n : Nat} (h : Row w z n (fun _ => .int .i64 0)) : Row w z n (lc zz zz) := h.congr (fun i hi => by unfold lc zz; split <;> rfl)
theorem zrow_5 {w : World} {z : Nat} {v : Value} (h : Row w z 5 (zrow v)) : Row w z 5 (row5f (fun _ => 0) v) := h.congr (fun i hi => by
    match i, hi with
    | 0, _ => rfl
    | 1, _ => rfl
    | 2, _ => rfl
    | 3, _ => rfl
    | 4, _ => rfl)
set_option maxRecDepth 10000 in
set_option maxHeartbeats 3200000 in
theorem emptyTable_any (kn : Nat) (w : World) (hk1 : 1 ≤ kn) (hk4 : kn ≤ 4) :
    Calls Try.prog 164 #[.int .i64 kn] w fun e w' => ∃ z, e = .returned (.agg (held5 (fun _ => -1) z kn)) ∧ Row w' z (kn * 8) (lc zz zz) ∧ w.heap.size ≤ z ∧ Blw w w' := by
  have hb0 : Blw w (w.alloc (.cells zero5 129)) := (Blw.refl _).alloc _
  have r0 := zrow5 w (.slice none 0 0) 129
  have hsz : (w.alloc (.cells zero5 129)).heap.size = w.heap.size + 1 := by simp
  go_enter Try.func164, Try.ntmps164
  have hmk := mk8 kn hk4
  go_upto_region 1 with fail
  revert hb0 r0 hsz
  generalize (w.alloc (.cells zero5 129)) = w0
  intro hb0 r0 hsz
  have HB0 : Hid (Blw w w0) := hb0
  have HR0 : Hid (Row w0 w.heap.size 5 (zrow (.slice none 0 0))) := r0
  have HSZ : Hid (w0.heap.size = w.heap.size + 1) := hsz
  clear hb0 r0 hsz
  go_wp2_with fail
  clear hmk
  have h1 : Blw w0 (w0.alloc (.cells (madeCells #[.int .i64 0, .int .i64 0, .int .i64 0, .int .i64 0, .int .i64 0, .int .i64 0, .int .i64 0, .int .i64 0] (kn * 8)) 186)) := (Blw.refl _).alloc _
  have rl := lc_zero (Row.made8 w0 (.int .i64 0) (kn * 8) 186)
  have h2 : Blw (w0.alloc (.cells (madeCells #[.int .i64 0, .int .i64 0, .int .i64 0, .int .i64 0, .int .i64 0, .int .i64 0, .int .i64 0, .int .i64 0] (kn * 8)) 186)) ((w0.alloc (.cells (madeCells #[.int .i64 0, .int .i64 0, .int .i64 0, .int .i64 0, .int .i64 0, .int .i64 0, .int .i64 0, .int .i64 0] (kn * 8)) 186)).alloc (.cells #[.int .i64 0, .int .i64 0, .int .i64 0, .int .i64 0, .slice (some ⟨w0.heap.size, 0, none⟩) kn kn] 129)) := (Blw.refl _).alloc _
  have rb := zrow_5 (zrow5 (w0.alloc (.cells (madeCells #[.int .i64 0, .int .i64 0, .int .i64 0, .int .i64 0, .int .i64 0, .int .i64 0, .int .i64 0, .int .i64 0] (kn * 8)) 186)) (.slice (some ⟨w0.heap.size, 0, none⟩) kn kn) 129)
  rw [World.size_alloc] at rb
  replace rl := rl.blw h2
  have hB := HB0.out.trans (h1.trans h2)
  have hR := HR0.out.blw (h1.trans h2)
  have hsz : ((w0.alloc (.cells (madeCells #[.int .i64 0, .int .i64 0, .int .i64 0, .int .i64 0, .int .i64 0, .int .i64 0, .int .i64 0, .int .i64 0] (kn * 8)) 186)).alloc (.cells #[.int .i64 0, .int .i64 0, .int .i64 0, .int .i64 0, .slice (some ⟨w0.heap.size, 0, none⟩) kn kn] 129)).heap.size = w0.heap.size + 1 + 1 := by simp
  clear h1 h2 HB0 HR0
  revert rl rb hB hR hsz
  generalize ((w0.alloc (.cells (madeCells #[.int .i64 0, .int .i64 0, .int .i64 0, .int .i64 0, .int .i64 0, .int .i64 0, .int .i64 0, .int .i64 0] (kn * 8)) 186)).alloc (.cells #[.int .i64 0, .int .i64 0, .int .i64 0, .int .i64 0, .slice (some ⟨w0.heap.size, 0, none⟩) kn kn] 129)) = w1
  have HZ0 : Hid (w.heap.size + 1 ≤ w0.heap.size) := by show _ ≤ _; rw [HSZ.out]; omega
  clear HSZ
  generalize w0.heap.size = z0 at *
  intro rb rl hB hR hsz
  refine (fill_any (z0 + 1) (fun _ => 0) _ (-1) w1 rb).mono ?_
  rintro e w2 ⟨rfl, rb2, hm⟩
  have hz0 := HZ0.out
  replace rl := rl.mod hm (by omega)
  replace hR := hR.mod hm (by omega)
  replace hB := Mod.blw hB hm (fun i hi => by omega)
  obtain ⟨p0, p1, p2, p3, p4⟩ := get5 rb2
  obtain ⟨t0, t1, t2, t3, t4⟩ := zget hR
  have f0 := hR.frozen 0; have f1 := hR.frozen 1; have f2 := hR.frozen 2; have f3 := hR.frozen 3; have f4 := hR.frozen 4
  have HL : Hid (Row w2 z0 (kn * 8) (lc zz zz)) := rl
  have HBF : Hid (Blw w w2) := hB
  clear rb rb2 hm hz0 hR rl hB
  go_wp2
  refine bodyPost_ret (v := .agg (held5 (fun _ => -1) z0 kn)) (by simp [results, Try.results164, go_sem, t0, t1, t2, t3, t4]) rfl ?_
  have hz := HZ0.out
  exact ⟨z0, rfl, ((((HL.out.setOther (a := ⟨w.heap.size, 0, none⟩) (by show z0 ≠ w.heap.size; omega) _).setOther (a := ⟨w.heap.size, 1, none⟩) (by show z0 ≠ w.heap.size; omega) _).setOther (a := ⟨w.heap.size, 2, none⟩) (by show z0 ≠ w.heap.size; omega) _).setOther (a := ⟨w.heap.size, 3, none⟩) (by show z0 ≠ w.heap.size; omega) _).setOther (a := ⟨w.heap.size, 4, none⟩) (by show z0 ≠ w.heap.size; omega) _, by omega, set5_blw HBF.out (Nat.le_refl _) _ _ _ _ _⟩
set_option maxRecDepth 10000 in
set_option maxHeartbeats 3200000 in
theorem implNew_any (k : Int) (w : World) : Calls Try.prog 139 #[.int .i64 k] w (GivesB (resT (cntOK k) (newB k)) w) := by
  have hb0 : Blw w (w.alloc (.cells #[.slice none 0 0, .slice none 0 0] 29)) := (Blw.refl _).alloc _
  have r0 := box2 w (.slice none 0 0) (.slice none 0 0) 29
  have hsz : (w.alloc (.cells #[.slice none 0 0, .slice none 0 0] 29)).heap.size = w.heap.size + 1 := by simp
  go_enter Try.func139, Try.ntmps139
  go_wp2_with fail
  revert hb0 r0 hsz
  generalize (w.alloc (.cells #[.slice none 0 0, .slice none 0 0] 29)) = w0
  intro hb0 r0 hsz
  refine (isCnt_any k _).mono ?_
  rintro e w0 ⟨r, rfl, hr, rfl⟩
  have HT : Hid (r = true ↔ cntOK k) := hr
  clear hr
  obtain ⟨t0, t1⟩ := get2 r0
  have f0 := r0.frozen 0
  have f1 := r0.frozen 1
  cases r
  · have HN : Hid (¬ cntOK k) := fun g => by have := HT.out.2 g; simp at this
    clear HT r0
    go_wp2
    exact bodyPost_ret (v := .tuple #[BV.zero.val BD.zero, .bool false]) (by simp [results, Try.results139, go_sem, t0, t1]) rfl (zero_givesT (z := w.heap.size) (Nat.le_refl _) (Or.inr ⟨HN.out, rfl, rfl⟩) hb0)
  have hc : cntOK k := HT.out.1 (by first | rfl | trivial)
  clear HT t0 t1 f0 f1
  obtain ⟨kn, hk, hk1, hk4⟩ : ∃ kn : Nat, k = kn ∧ 1 ≤ kn ∧ kn ≤ 4 := ⟨k.toNat, by unfold cntOK at hc; omega, by unfold cntOK at hc; omega, by unfold cntOK at hc; omega⟩
  subst hk
  have HC : Hid (cntOK (kn : Int)) := hc
  have HB0 : Hid (Blw w w0) := hb0
  have HR0 : Hid (Row w0 w.heap.size 2 (fun i => if i = 0 then .slice none 0 0 else .slice none 0 0)) := r0
  have HSZ : Hid (w0.heap.size = w.heap.size + 1) := hsz
  clear hc hb0 r0 hsz
  go_wp2_with fail
  refine (emptyTable_any kn _ hk1 hk4).mono ?_
  rintro e w2 ⟨z0, rfl, rl, hz0, hb2⟩
  replace HR0 : Hid (Row w2 w.heap.size 2 (fun i => if i = 0 then .slice none 0 0 else .slice none 0 0)) := HR0.out.blw hb2
  have HZ : Hid (w.heap.size + 1 ≤ w2.heap.size) := by have h1 := hb2.size; have h2 := HSZ.out; show _ ≤ _; omega
  replace HB0 : Hid (Blw w w2) := HB0.out.trans hb2
  clear hb2 hz0 HSZ
  go_wp2_with fail
  refine (giveOut_any (fun _ => -1) z0 kn zz zz w2 hk4 rl).mono ?_
  rintro e w3 ⟨b, rfl, own, hb3⟩
  have FIN : Hid _ := fin_givesT (out := resT (cntOK (kn : Int)) (newB (kn : Int))) (w := w) (W := w3) (z := w.heap.size) (b := b) (R := newB (kn : Int)) (Nat.le_refl _) (Or.inl ⟨HC.out, rfl, rfl⟩) (tot4 (c := fun _ => -1) (p := zz) (m := zz) hk4) (HB0.out.trans hb3) own (fun x hx => ⟨by have := HZ.out; omega, by have := HZ.out; omega, hx.2⟩)
  have hR := HR0.out.blw hb3
  obtain ⟨t0, t1⟩ := get2 hR
  have f0 := hR.frozen 0
  have f1 := hR.frozen 1
  clear own hb3 rl HB0 hR HR0 HZ
  go_wp2
  exact bodyPost_ret (v := .tuple #[b.val (newB (kn : Int)), .bool true]) (by simp [results, Try.results139, go_sem, t0, t1]) rfl FIN.out
end Go.Proofs.Ytjplodenflkghaa
