/- Merged by program, in this order: StpB, StpC, StpD, Sp, Sq, Rn, Sr, Ig, Fx, OpenG. -/
import Derived.Test.YtbpdopcdhnemfaaJoin8
/- Guests: the model's step, where it goes on. -/
namespace Go.Proofs.Ytbpdopcdhnemfaa
open Go.RowKit
set_option linter.unusedSimpArgs false
set_option linter.unusedVariables false
set_option maxRecDepth 10000 in
set_option maxHeartbeats 3200000 in
theorem l9Step_set (ao : Option Addr) (cp n : Nat) (F : Nat → Nat → Int) (v : GV) (a : Nat) (acc : Int) (c : Nat → Int) (nt : Nat) (t : Nat → Int) (d : Bool) (X Y : Nat → Prop) (w : World) (hn : n ≤ 16) (ha16 : a ≤ 16) (hacc : wordOK acc) (hnt : nt ≤ 20) (hlt : a < n) (hk : F a 0 = 1) (hF : KAt 3 Y w ao n F) (hX : ∀ b, X b → b < w.heap.size) (h : MG X w v ⟨(a : Int), acc, 8, c, nt, t, d⟩) :
    Calls Try.prog 126 #[.slice ao n cp, v.val ⟨(a : Int), acc, 8, c, nt, t, d⟩] w fun e w' => ∃ v' : GV, e = .returned (v'.val ⟨(a : Int) + 1, F a 2, 8, c, nt, t, d⟩) ∧ MG (fun b => X b ∨ (w.heap.size ≤ b ∧ b < w'.heap.size)) w' v' ⟨(a : Int) + 1, F a 2, 8, c, nt, t, d⟩ ∧ Mod X w w' := by
  have HB : Hid (Blw w ((w.alloc (.cells #[.int .i64 (a : Int), .int .i64 acc, .slice v.a1 8 v.c1, .slice v.a2 nt v.c2, .bool d] 61)).alloc (.cells #[.int .i64 0, .int .i64 0, .slice none 0 0, .slice none 0 0, .bool false] 61))) := ((Blw.refl _).alloc _).alloc _
  have r1 := row5 (w.alloc (.cells #[.int .i64 (a : Int), .int .i64 acc, .slice v.a1 8 v.c1, .slice v.a2 nt v.c2, .bool d] 61)) (.int .i64 0) (.int .i64 0) (.slice none 0 0) (.slice none 0 0) (.bool false) 61
  rw [World.size_alloc] at r1
  have R0 : Hid (Row ((w.alloc (.cells #[.int .i64 (a : Int), .int .i64 acc, .slice v.a1 8 v.c1, .slice v.a2 nt v.c2, .bool d] 61)).alloc (.cells #[.int .i64 0, .int .i64 0, .slice none 0 0, .slice none 0 0, .bool false] 61)) w.heap.size 5 (fun i => if i = 0 then .int .i64 (a : Int) else if i = 1 then .int .i64 acc else if i = 2 then .slice v.a1 8 v.c1 else if i = 3 then .slice v.a2 nt v.c2 else .bool d)) := (row5 w _ _ _ _ _ 61).blw ((Blw.refl _).alloc _)
  have R1 : Hid (Row ((w.alloc (.cells #[.int .i64 (a : Int), .int .i64 acc, .slice v.a1 8 v.c1, .slice v.a2 nt v.c2, .bool d] 61)).alloc (.cells #[.int .i64 0, .int .i64 0, .slice none 0 0, .slice none 0 0, .bool false] 61)) (w.heap.size + 1) 5 (fun i => if i = 0 then .int .i64 0 else if i = 1 then .int .i64 0 else if i = 2 then .slice none 0 0 else if i = 3 then .slice none 0 0 else .bool false)) := r1
  have HM : Hid (MG X ((w.alloc (.cells #[.int .i64 (a : Int), .int .i64 acc, .slice v.a1 8 v.c1, .slice v.a2 nt v.c2, .bool d] 61)).alloc (.cells #[.int .i64 0, .int .i64 0, .slice none 0 0, .slice none 0 0, .bool false] 61)) v ⟨(a : Int), acc, 8, c, nt, t, d⟩) := h.blw HB.out
  have HF : Hid (KAt 3 Y ((w.alloc (.cells #[.int .i64 (a : Int), .int .i64 acc, .slice v.a1 8 v.c1, .slice v.a2 nt v.c2, .bool d] 61)).alloc (.cells #[.int .i64 0, .int .i64 0, .slice none 0 0, .slice none 0 0, .bool false] 61)) ao n F) := hF.blw HB.out
  have HXX : Hid (∀ b, X b → b < w.heap.size) := hX
  have HSZ : Hid (((w.alloc (.cells #[.int .i64 (a : Int), .int .i64 acc, .slice v.a1 8 v.c1, .slice v.a2 nt v.c2, .bool d] 61)).alloc (.cells #[.int .i64 0, .int .i64 0, .slice none 0 0, .slice none 0 0, .bool false] 61)).heap.size = w.heap.size + 1 + 1) := by show _ = _; simp
  clear h hF hX r1
  go_enter Try.func126, Try.ntmps126
  go_upto_region 1 with fail
  generalize ((w.alloc (.cells #[.int .i64 (a : Int), .int .i64 acc, .slice v.a1 8 v.c1, .slice v.a2 nt v.c2, .bool d] 61)).alloc (.cells #[.int .i64 0, .int .i64 0, .slice none 0 0, .slice none 0 0, .bool false] 61)) = w0 at *
  have hsz := HSZ.out
  obtain ⟨p0, p1, p2, p3, p4⟩ := get5 R0.out
  obtain ⟨t0, t1, t2, t3, t4⟩ := get5 R1.out
  obtain ⟨bp, op, rfl, -, gg⟩ := HF.out.2 a (by omega)
  have g0 := gg 0 (by omega)
  have g1 := gg 1 (by omega)
  have g2 := gg 2 (by omega)
  rw [Nat.add_zero] at g0
  clear gg
  have hge : ¬ n ≤ a := by omega
  have hlt' : (a : Int) < n := by omega
  rw [hk] at g0
  clear hlt
  have hk' := hk
  clear hk
  have q1 := HSZ.out
  have hA : Blw w0 (w0.alloc (.cells #[.int .i64 1, .int .i64 (F a 1), .int .i64 (F a 2)] 170)) := (Blw.refl _).alloc _
  have S0 : Hid (Row (w0.alloc (.cells #[.int .i64 1, .int .i64 (F a 1), .int .i64 (F a 2)] 170)) w.heap.size 5 (fun i => if i = 0 then .int .i64 (a : Int) else if i = 1 then .int .i64 acc else if i = 2 then .slice v.a1 8 v.c1 else if i = 3 then .slice v.a2 nt v.c2 else .bool d)) := R0.out.blw hA
  have S1 : Hid (Row (w0.alloc (.cells #[.int .i64 1, .int .i64 (F a 1), .int .i64 (F a 2)] 170)) (w.heap.size + 1) 5 (fun i => if i = 0 then .int .i64 0 else if i = 1 then .int .i64 0 else if i = 2 then .slice none 0 0 else if i = 3 then .slice none 0 0 else .bool false)) := R1.out.blw hA
  have S3 : Hid (Row (w0.alloc (.cells #[.int .i64 1, .int .i64 (F a 1), .int .i64 (F a 2)] 170)) w0.heap.size 3 (fun i => if i = 0 then .int .i64 1 else if i = 1 then .int .i64 (F a 1) else .int .i64 (F a 2))) := box3 w0 _ _ _ 170
  have SM : Hid (MG X (w0.alloc (.cells #[.int .i64 1, .int .i64 (F a 1), .int .i64 (F a 2)] 170)) v ⟨(a : Int), acc, 8, c, nt, t, d⟩) := HM.out.blw hA
  have SB : Hid (Blw w (w0.alloc (.cells #[.int .i64 1, .int .i64 (F a 1), .int .i64 (F a 2)] 170))) := HB.out.trans hA
  have SZ : Hid (w0.heap.size = w.heap.size + 1 + 1 ∧ (w0.alloc (.cells #[.int .i64 1, .int .i64 (F a 1), .int .i64 (F a 2)] 170)).heap.size = w.heap.size + 1 + 1 + 1) := ⟨q1, by rw [World.size_alloc, q1]⟩
  clear q1 hA hk'
  go_upto_region 5 with fail
  generalize (w0.alloc (.cells #[.int .i64 1, .int .i64 (F a 1), .int .i64 (F a 2)] 170)) = w1 at *
  obtain ⟨qz, qz1⟩ := SZ.out
  rw [qz] at S3
  clear p0 p1 p2 p3 p4 t0 t1 t2 t3 t4 HB R0 R1 HM HF HSZ hsz qz g0 g1 g2 SZ
  obtain ⟨p0, p1, p2, p3, p4⟩ := get5 S0.out
  obtain ⟨t0, t1, t2, t3, t4⟩ := get5 S1.out
  obtain ⟨s0, s1, s2⟩ := get3 S3.out
  have e0 := S0.out.frozen 0; have e1 := S0.out.frozen 1; have e2 := S0.out.frozen 2; have e3 := S0.out.frozen 3; have e4 := S0.out.frozen 4
  have f0 := S1.out.frozen 0; have f1 := S1.out.frozen 1; have f2 := S1.out.frozen 2; have f3 := S1.out.frozen 3; have f4 := S1.out.frozen 4

  have FF : Hid (_ ∧ _ ∧ _) := fin_sets (v := v) (D := ⟨(a : Int) + 1, F a 2, 8, c, nt, t, d⟩) (Z := X) (w := w) (Wm := ((w1.setCell ⟨w.heap.size, 0, none⟩ (.int .i64 ((a : Int) + 1))).setCell ⟨w.heap.size, 1, none⟩ (.int .i64 (F a 2)))) (z := w.heap.size + 1) (.int .i64 ((a : Int) + 1)) (.int .i64 (F a 2)) (.slice v.a1 8 v.c1) (.slice v.a2 nt v.c2) (.bool d) (show MG X ((w1.setCell ⟨w.heap.size, 0, none⟩ (.int .i64 ((a : Int) + 1))).setCell ⟨w.heap.size, 1, none⟩ (.int .i64 (F a 2))) v ⟨(a : Int) + 1, F a 2, 8, c, nt, t, d⟩ from ⟨(MG.mod (MG.mod (SM.out) (Mod.setCell (X := fun x => x = w.heap.size) _ (p := ⟨w.heap.size, 0, none⟩) rfl _) (fun b hb e => by have := HXX.out b hb; omega)) (Mod.setCell (X := fun x => x = w.heap.size) _ (p := ⟨w.heap.size, 1, none⟩) rfl _) (fun b hb e => by have := HXX.out b hb; omega)).ex⟩) (fun hx => by have := HXX.out _ hx; omega) (Mod.old (Mod.old ((SB.out.mod X)) (Mod.setCell (X := fun x => x = w.heap.size) _ (p := ⟨w.heap.size, 0, none⟩) rfl _) (fun x hx hl => by omega)) (Mod.setCell (X := fun x => x = w.heap.size) _ (p := ⟨w.heap.size, 1, none⟩) rfl _) (fun x hx hl => by omega)) (by omega)
  clear SB S0 S1 S3 SM HXX
  go_wp2
  refine bodyPost_ret (v := GV.val v ⟨(a : Int) + 1, F a 2, 8, c, nt, t, d⟩) (by simp [results, Try.results126, go_sem, t0, t1, t2, t3, t4]) rfl ?_
  exact ⟨v, rfl, FF.out.1.mono (fun b hb => Or.inl hb), FF.out.2.1⟩
set_option maxRecDepth 10000 in
set_option maxHeartbeats 3200000 in
theorem l9Step_add (ao : Option Addr) (cp n : Nat) (F : Nat → Nat → Int) (v : GV) (a : Nat) (acc : Int) (c : Nat → Int) (nt : Nat) (t : Nat → Int) (d : Bool) (X Y : Nat → Prop) (w : World) (hn : n ≤ 16) (ha16 : a ≤ 16) (hacc : wordOK acc) (hnt : nt ≤ 20) (hlt : a < n) (hk : F a 0 = 2) (hx : wordOK (F a 2)) (hF : KAt 3 Y w ao n F) (hX : ∀ b, X b → b < w.heap.size) (h : MG X w v ⟨(a : Int), acc, 8, c, nt, t, d⟩) :
    Calls Try.prog 126 #[.slice ao n cp, v.val ⟨(a : Int), acc, 8, c, nt, t, d⟩] w fun e w' => ∃ v' : GV, e = .returned (v'.val ⟨(a : Int) + 1, (acc + F a 2) % 65536, 8, c, nt, t, d⟩) ∧ MG (fun b => X b ∨ (w.heap.size ≤ b ∧ b < w'.heap.size)) w' v' ⟨(a : Int) + 1, (acc + F a 2) % 65536, 8, c, nt, t, d⟩ ∧ Mod X w w' := by
  have HB : Hid (Blw w ((w.alloc (.cells #[.int .i64 (a : Int), .int .i64 acc, .slice v.a1 8 v.c1, .slice v.a2 nt v.c2, .bool d] 61)).alloc (.cells #[.int .i64 0, .int .i64 0, .slice none 0 0, .slice none 0 0, .bool false] 61))) := ((Blw.refl _).alloc _).alloc _
  have r1 := row5 (w.alloc (.cells #[.int .i64 (a : Int), .int .i64 acc, .slice v.a1 8 v.c1, .slice v.a2 nt v.c2, .bool d] 61)) (.int .i64 0) (.int .i64 0) (.slice none 0 0) (.slice none 0 0) (.bool false) 61
  rw [World.size_alloc] at r1
  have R0 : Hid (Row ((w.alloc (.cells #[.int .i64 (a : Int), .int .i64 acc, .slice v.a1 8 v.c1, .slice v.a2 nt v.c2, .bool d] 61)).alloc (.cells #[.int .i64 0, .int .i64 0, .slice none 0 0, .slice none 0 0, .bool false] 61)) w.heap.size 5 (fun i => if i = 0 then .int .i64 (a : Int) else if i = 1 then .int .i64 acc else if i = 2 then .slice v.a1 8 v.c1 else if i = 3 then .slice v.a2 nt v.c2 else .bool d)) := (row5 w _ _ _ _ _ 61).blw ((Blw.refl _).alloc _)
  have R1 : Hid (Row ((w.alloc (.cells #[.int .i64 (a : Int), .int .i64 acc, .slice v.a1 8 v.c1, .slice v.a2 nt v.c2, .bool d] 61)).alloc (.cells #[.int .i64 0, .int .i64 0, .slice none 0 0, .slice none 0 0, .bool false] 61)) (w.heap.size + 1) 5 (fun i => if i = 0 then .int .i64 0 else if i = 1 then .int .i64 0 else if i = 2 then .slice none 0 0 else if i = 3 then .slice none 0 0 else .bool false)) := r1
  have HM : Hid (MG X ((w.alloc (.cells #[.int .i64 (a : Int), .int .i64 acc, .slice v.a1 8 v.c1, .slice v.a2 nt v.c2, .bool d] 61)).alloc (.cells #[.int .i64 0, .int .i64 0, .slice none 0 0, .slice none 0 0, .bool false] 61)) v ⟨(a : Int), acc, 8, c, nt, t, d⟩) := h.blw HB.out
  have HF : Hid (KAt 3 Y ((w.alloc (.cells #[.int .i64 (a : Int), .int .i64 acc, .slice v.a1 8 v.c1, .slice v.a2 nt v.c2, .bool d] 61)).alloc (.cells #[.int .i64 0, .int .i64 0, .slice none 0 0, .slice none 0 0, .bool false] 61)) ao n F) := hF.blw HB.out
  have HXX : Hid (∀ b, X b → b < w.heap.size) := hX
  have HSZ : Hid (((w.alloc (.cells #[.int .i64 (a : Int), .int .i64 acc, .slice v.a1 8 v.c1, .slice v.a2 nt v.c2, .bool d] 61)).alloc (.cells #[.int .i64 0, .int .i64 0, .slice none 0 0, .slice none 0 0, .bool false] 61)).heap.size = w.heap.size + 1 + 1) := by show _ = _; simp
  clear h hF hX r1
  go_enter Try.func126, Try.ntmps126
  go_upto_region 1 with fail
  generalize ((w.alloc (.cells #[.int .i64 (a : Int), .int .i64 acc, .slice v.a1 8 v.c1, .slice v.a2 nt v.c2, .bool d] 61)).alloc (.cells #[.int .i64 0, .int .i64 0, .slice none 0 0, .slice none 0 0, .bool false] 61)) = w0 at *
  have hsz := HSZ.out
  obtain ⟨p0, p1, p2, p3, p4⟩ := get5 R0.out
  obtain ⟨t0, t1, t2, t3, t4⟩ := get5 R1.out
  obtain ⟨bp, op, rfl, -, gg⟩ := HF.out.2 a (by omega)
  have g0 := gg 0 (by omega)
  have g1 := gg 1 (by omega)
  have g2 := gg 2 (by omega)
  rw [Nat.add_zero] at g0
  clear gg
  have hge : ¬ n ≤ a := by omega
  have hlt' : (a : Int) < n := by omega
  rw [hk] at g0
  clear hlt
  have hk' := hk
  clear hk
  have q1 := HSZ.out
  have hA : Blw w0 (w0.alloc (.cells #[.int .i64 2, .int .i64 (F a 1), .int .i64 (F a 2)] 170)) := (Blw.refl _).alloc _
  have S0 : Hid (Row (w0.alloc (.cells #[.int .i64 2, .int .i64 (F a 1), .int .i64 (F a 2)] 170)) w.heap.size 5 (fun i => if i = 0 then .int .i64 (a : Int) else if i = 1 then .int .i64 acc else if i = 2 then .slice v.a1 8 v.c1 else if i = 3 then .slice v.a2 nt v.c2 else .bool d)) := R0.out.blw hA
  have S1 : Hid (Row (w0.alloc (.cells #[.int .i64 2, .int .i64 (F a 1), .int .i64 (F a 2)] 170)) (w.heap.size + 1) 5 (fun i => if i = 0 then .int .i64 0 else if i = 1 then .int .i64 0 else if i = 2 then .slice none 0 0 else if i = 3 then .slice none 0 0 else .bool false)) := R1.out.blw hA
  have S3 : Hid (Row (w0.alloc (.cells #[.int .i64 2, .int .i64 (F a 1), .int .i64 (F a 2)] 170)) w0.heap.size 3 (fun i => if i = 0 then .int .i64 2 else if i = 1 then .int .i64 (F a 1) else .int .i64 (F a 2))) := box3 w0 _ _ _ 170
  have SM : Hid (MG X (w0.alloc (.cells #[.int .i64 2, .int .i64 (F a 1), .int .i64 (F a 2)] 170)) v ⟨(a : Int), acc, 8, c, nt, t, d⟩) := HM.out.blw hA
  have SB : Hid (Blw w (w0.alloc (.cells #[.int .i64 2, .int .i64 (F a 1), .int .i64 (F a 2)] 170))) := HB.out.trans hA
  have SZ : Hid (w0.heap.size = w.heap.size + 1 + 1 ∧ (w0.alloc (.cells #[.int .i64 2, .int .i64 (F a 1), .int .i64 (F a 2)] 170)).heap.size = w.heap.size + 1 + 1 + 1) := ⟨q1, by rw [World.size_alloc, q1]⟩
  clear q1 hA hk'
  go_upto_region 5 with fail
  generalize (w0.alloc (.cells #[.int .i64 2, .int .i64 (F a 1), .int .i64 (F a 2)] 170)) = w1 at *
  obtain ⟨qz, qz1⟩ := SZ.out
  rw [qz] at S3
  clear p0 p1 p2 p3 p4 t0 t1 t2 t3 t4 HB R0 R1 HM HF HSZ hsz qz g0 g1 g2 SZ
  obtain ⟨p0, p1, p2, p3, p4⟩ := get5 S0.out
  obtain ⟨t0, t1, t2, t3, t4⟩ := get5 S1.out
  obtain ⟨s0, s1, s2⟩ := get3 S3.out
  have e0 := S0.out.frozen 0; have e1 := S0.out.frozen 1; have e2 := S0.out.frozen 2; have e3 := S0.out.frozen 3; have e4 := S0.out.frozen 4
  have f0 := S1.out.frozen 0; have f1 := S1.out.frozen 1; have f2 := S1.out.frozen 2; have f3 := S1.out.frozen 3; have f4 := S1.out.frozen 4
  have hx0 := hx.1; have hx1 := hx.2; have hy0 := hacc.1; have hy1 := hacc.2
  have hr : Int.tmod (acc + F a 2) 65536 = (acc + F a 2) % 65536 := Int.tmod_eq_emod_of_nonneg (by omega)
  have FF : Hid (_ ∧ _ ∧ _) := fin_sets (v := v) (D := ⟨(a : Int) + 1, (acc + F a 2) % 65536, 8, c, nt, t, d⟩) (Z := X) (w := w) (Wm := ((w1.setCell ⟨w.heap.size, 0, none⟩ (.int .i64 ((a : Int) + 1))).setCell ⟨w.heap.size, 1, none⟩ (.int .i64 ((acc + F a 2) % 65536)))) (z := w.heap.size + 1) (.int .i64 ((a : Int) + 1)) (.int .i64 ((acc + F a 2) % 65536)) (.slice v.a1 8 v.c1) (.slice v.a2 nt v.c2) (.bool d) (show MG X ((w1.setCell ⟨w.heap.size, 0, none⟩ (.int .i64 ((a : Int) + 1))).setCell ⟨w.heap.size, 1, none⟩ (.int .i64 ((acc + F a 2) % 65536))) v ⟨(a : Int) + 1, (acc + F a 2) % 65536, 8, c, nt, t, d⟩ from ⟨(MG.mod (MG.mod (SM.out) (Mod.setCell (X := fun x => x = w.heap.size) _ (p := ⟨w.heap.size, 0, none⟩) rfl _) (fun b hb e => by have := HXX.out b hb; omega)) (Mod.setCell (X := fun x => x = w.heap.size) _ (p := ⟨w.heap.size, 1, none⟩) rfl _) (fun b hb e => by have := HXX.out b hb; omega)).ex⟩) (fun hx => by have := HXX.out _ hx; omega) (Mod.old (Mod.old ((SB.out.mod X)) (Mod.setCell (X := fun x => x = w.heap.size) _ (p := ⟨w.heap.size, 0, none⟩) rfl _) (fun x hx hl => by omega)) (Mod.setCell (X := fun x => x = w.heap.size) _ (p := ⟨w.heap.size, 1, none⟩) rfl _) (fun x hx hl => by omega)) (by omega)
  clear SB S0 S1 S3 SM HXX
  go_wp2
  refine bodyPost_ret (v := GV.val v ⟨(a : Int) + 1, (acc + F a 2) % 65536, 8, c, nt, t, d⟩) (by simp [results, Try.results126, go_sem, t0, t1, t2, t3, t4]) rfl ?_
  exact ⟨v, rfl, FF.out.1.mono (fun b hb => Or.inl hb), FF.out.2.1⟩
set_option maxRecDepth 10000 in
set_option maxHeartbeats 3200000 in
theorem l9Step_stay (ao : Option Addr) (cp n : Nat) (F : Nat → Nat → Int) (v : GV) (a : Nat) (acc : Int) (c : Nat → Int) (nt : Nat) (t : Nat → Int) (d : Bool) (X Y : Nat → Prop) (w : World) (hn : n ≤ 16) (ha16 : a ≤ 16) (hacc : wordOK acc) (hnt : nt ≤ 20) (hlt : a < n) (hk : F a 0 = 5) (h0 : acc = 0) (hF : KAt 3 Y w ao n F) (hX : ∀ b, X b → b < w.heap.size) (h : MG X w v ⟨(a : Int), acc, 8, c, nt, t, d⟩) :
    Calls Try.prog 126 #[.slice ao n cp, v.val ⟨(a : Int), acc, 8, c, nt, t, d⟩] w fun e w' => ∃ v' : GV, e = .returned (v'.val ⟨(a : Int) + 1, acc, 8, c, nt, t, d⟩) ∧ MG (fun b => X b ∨ (w.heap.size ≤ b ∧ b < w'.heap.size)) w' v' ⟨(a : Int) + 1, acc, 8, c, nt, t, d⟩ ∧ Mod X w w' := by
  have HB : Hid (Blw w ((w.alloc (.cells #[.int .i64 (a : Int), .int .i64 acc, .slice v.a1 8 v.c1, .slice v.a2 nt v.c2, .bool d] 61)).alloc (.cells #[.int .i64 0, .int .i64 0, .slice none 0 0, .slice none 0 0, .bool false] 61))) := ((Blw.refl _).alloc _).alloc _
  have r1 := row5 (w.alloc (.cells #[.int .i64 (a : Int), .int .i64 acc, .slice v.a1 8 v.c1, .slice v.a2 nt v.c2, .bool d] 61)) (.int .i64 0) (.int .i64 0) (.slice none 0 0) (.slice none 0 0) (.bool false) 61
  rw [World.size_alloc] at r1
  have R0 : Hid (Row ((w.alloc (.cells #[.int .i64 (a : Int), .int .i64 acc, .slice v.a1 8 v.c1, .slice v.a2 nt v.c2, .bool d] 61)).alloc (.cells #[.int .i64 0, .int .i64 0, .slice none 0 0, .slice none 0 0, .bool false] 61)) w.heap.size 5 (fun i => if i = 0 then .int .i64 (a : Int) else if i = 1 then .int .i64 acc else if i = 2 then .slice v.a1 8 v.c1 else if i = 3 then .slice v.a2 nt v.c2 else .bool d)) := (row5 w _ _ _ _ _ 61).blw ((Blw.refl _).alloc _)
  have R1 : Hid (Row ((w.alloc (.cells #[.int .i64 (a : Int), .int .i64 acc, .slice v.a1 8 v.c1, .slice v.a2 nt v.c2, .bool d] 61)).alloc (.cells #[.int .i64 0, .int .i64 0, .slice none 0 0, .slice none 0 0, .bool false] 61)) (w.heap.size + 1) 5 (fun i => if i = 0 then .int .i64 0 else if i = 1 then .int .i64 0 else if i = 2 then .slice none 0 0 else if i = 3 then .slice none 0 0 else .bool false)) := r1
  have HM : Hid (MG X ((w.alloc (.cells #[.int .i64 (a : Int), .int .i64 acc, .slice v.a1 8 v.c1, .slice v.a2 nt v.c2, .bool d] 61)).alloc (.cells #[.int .i64 0, .int .i64 0, .slice none 0 0, .slice none 0 0, .bool false] 61)) v ⟨(a : Int), acc, 8, c, nt, t, d⟩) := h.blw HB.out
  have HF : Hid (KAt 3 Y ((w.alloc (.cells #[.int .i64 (a : Int), .int .i64 acc, .slice v.a1 8 v.c1, .slice v.a2 nt v.c2, .bool d] 61)).alloc (.cells #[.int .i64 0, .int .i64 0, .slice none 0 0, .slice none 0 0, .bool false] 61)) ao n F) := hF.blw HB.out
  have HXX : Hid (∀ b, X b → b < w.heap.size) := hX
  have HSZ : Hid (((w.alloc (.cells #[.int .i64 (a : Int), .int .i64 acc, .slice v.a1 8 v.c1, .slice v.a2 nt v.c2, .bool d] 61)).alloc (.cells #[.int .i64 0, .int .i64 0, .slice none 0 0, .slice none 0 0, .bool false] 61)).heap.size = w.heap.size + 1 + 1) := by show _ = _; simp
  clear h hF hX r1
  have Hh0 : Hid (acc = 0) := h0
  clear h0
  go_enter Try.func126, Try.ntmps126
  go_upto_region 1 with fail
  generalize ((w.alloc (.cells #[.int .i64 (a : Int), .int .i64 acc, .slice v.a1 8 v.c1, .slice v.a2 nt v.c2, .bool d] 61)).alloc (.cells #[.int .i64 0, .int .i64 0, .slice none 0 0, .slice none 0 0, .bool false] 61)) = w0 at *
  have hsz := HSZ.out
  obtain ⟨p0, p1, p2, p3, p4⟩ := get5 R0.out
  obtain ⟨t0, t1, t2, t3, t4⟩ := get5 R1.out
  obtain ⟨bp, op, rfl, -, gg⟩ := HF.out.2 a (by omega)
  have g0 := gg 0 (by omega)
  have g1 := gg 1 (by omega)
  have g2 := gg 2 (by omega)
  rw [Nat.add_zero] at g0
  clear gg
  have hge : ¬ n ≤ a := by omega
  have hlt' : (a : Int) < n := by omega
  rw [hk] at g0
  clear hlt
  have hk' := hk
  clear hk
  have q1 := HSZ.out
  have hA : Blw w0 (w0.alloc (.cells #[.int .i64 5, .int .i64 (F a 1), .int .i64 (F a 2)] 170)) := (Blw.refl _).alloc _
  have S0 : Hid (Row (w0.alloc (.cells #[.int .i64 5, .int .i64 (F a 1), .int .i64 (F a 2)] 170)) w.heap.size 5 (fun i => if i = 0 then .int .i64 (a : Int) else if i = 1 then .int .i64 acc else if i = 2 then .slice v.a1 8 v.c1 else if i = 3 then .slice v.a2 nt v.c2 else .bool d)) := R0.out.blw hA
  have S1 : Hid (Row (w0.alloc (.cells #[.int .i64 5, .int .i64 (F a 1), .int .i64 (F a 2)] 170)) (w.heap.size + 1) 5 (fun i => if i = 0 then .int .i64 0 else if i = 1 then .int .i64 0 else if i = 2 then .slice none 0 0 else if i = 3 then .slice none 0 0 else .bool false)) := R1.out.blw hA
  have S3 : Hid (Row (w0.alloc (.cells #[.int .i64 5, .int .i64 (F a 1), .int .i64 (F a 2)] 170)) w0.heap.size 3 (fun i => if i = 0 then .int .i64 5 else if i = 1 then .int .i64 (F a 1) else .int .i64 (F a 2))) := box3 w0 _ _ _ 170
  have SM : Hid (MG X (w0.alloc (.cells #[.int .i64 5, .int .i64 (F a 1), .int .i64 (F a 2)] 170)) v ⟨(a : Int), acc, 8, c, nt, t, d⟩) := HM.out.blw hA
  have SB : Hid (Blw w (w0.alloc (.cells #[.int .i64 5, .int .i64 (F a 1), .int .i64 (F a 2)] 170))) := HB.out.trans hA
  have SZ : Hid (w0.heap.size = w.heap.size + 1 + 1 ∧ (w0.alloc (.cells #[.int .i64 5, .int .i64 (F a 1), .int .i64 (F a 2)] 170)).heap.size = w.heap.size + 1 + 1 + 1) := ⟨q1, by rw [World.size_alloc, q1]⟩
  clear q1 hA hk'
  go_upto_region 5 with fail
  generalize (w0.alloc (.cells #[.int .i64 5, .int .i64 (F a 1), .int .i64 (F a 2)] 170)) = w1 at *
  obtain ⟨qz, qz1⟩ := SZ.out
  rw [qz] at S3
  clear p0 p1 p2 p3 p4 t0 t1 t2 t3 t4 HB R0 R1 HM HF HSZ hsz qz g0 g1 g2 SZ
  obtain ⟨p0, p1, p2, p3, p4⟩ := get5 S0.out
  obtain ⟨t0, t1, t2, t3, t4⟩ := get5 S1.out
  obtain ⟨s0, s1, s2⟩ := get3 S3.out
  have e0 := S0.out.frozen 0; have e1 := S0.out.frozen 1; have e2 := S0.out.frozen 2; have e3 := S0.out.frozen 3; have e4 := S0.out.frozen 4
  have f0 := S1.out.frozen 0; have f1 := S1.out.frozen 1; have f2 := S1.out.frozen 2; have f3 := S1.out.frozen 3; have f4 := S1.out.frozen 4
  have d0 : (acc != 0) = false := by simp [Hh0.out]
  clear Hh0
  have FF : Hid (_ ∧ _ ∧ _) := fin_sets (v := v) (D := ⟨(a : Int) + 1, acc, 8, c, nt, t, d⟩) (Z := X) (w := w) (Wm := (w1.setCell ⟨w.heap.size, 0, none⟩ (.int .i64 ((a : Int) + 1)))) (z := w.heap.size + 1) (.int .i64 ((a : Int) + 1)) (.int .i64 acc) (.slice v.a1 8 v.c1) (.slice v.a2 nt v.c2) (.bool d) (show MG X (w1.setCell ⟨w.heap.size, 0, none⟩ (.int .i64 ((a : Int) + 1))) v ⟨(a : Int) + 1, acc, 8, c, nt, t, d⟩ from ⟨(MG.mod (SM.out) (Mod.setCell (X := fun x => x = w.heap.size) _ (p := ⟨w.heap.size, 0, none⟩) rfl _) (fun b hb e => by have := HXX.out b hb; omega)).ex⟩) (fun hx => by have := HXX.out _ hx; omega) (Mod.old ((SB.out.mod X)) (Mod.setCell (X := fun x => x = w.heap.size) _ (p := ⟨w.heap.size, 0, none⟩) rfl _) (fun x hx hl => by omega)) (by omega)
  clear SB S0 S1 S3 SM HXX
  go_wp2
  refine bodyPost_ret (v := GV.val v ⟨(a : Int) + 1, acc, 8, c, nt, t, d⟩) (by simp [results, Try.results126, go_sem, t0, t1, t2, t3, t4]) rfl ?_
  exact ⟨v, rfl, FF.out.1.mono (fun b hb => Or.inl hb), FF.out.2.1⟩
set_option maxRecDepth 10000 in
set_option maxHeartbeats 3200000 in
theorem l9Step_jump (ao : Option Addr) (cp n : Nat) (F : Nat → Nat → Int) (v : GV) (a : Nat) (acc : Int) (c : Nat → Int) (nt : Nat) (t : Nat → Int) (d : Bool) (X Y : Nat → Prop) (w : World) (hn : n ≤ 16) (ha16 : a ≤ 16) (hacc : wordOK acc) (hnt : nt ≤ 20) (hlt : a < n) (hk : F a 0 = 5) (h0 : ¬ acc = 0) (hF : KAt 3 Y w ao n F) (hX : ∀ b, X b → b < w.heap.size) (h : MG X w v ⟨(a : Int), acc, 8, c, nt, t, d⟩) :
    Calls Try.prog 126 #[.slice ao n cp, v.val ⟨(a : Int), acc, 8, c, nt, t, d⟩] w fun e w' => ∃ v' : GV, e = .returned (v'.val ⟨F a 2, acc, 8, c, nt, t, d⟩) ∧ MG (fun b => X b ∨ (w.heap.size ≤ b ∧ b < w'.heap.size)) w' v' ⟨F a 2, acc, 8, c, nt, t, d⟩ ∧ Mod X w w' := by
  have HB : Hid (Blw w ((w.alloc (.cells #[.int .i64 (a : Int), .int .i64 acc, .slice v.a1 8 v.c1, .slice v.a2 nt v.c2, .bool d] 61)).alloc (.cells #[.int .i64 0, .int .i64 0, .slice none 0 0, .slice none 0 0, .bool false] 61))) := ((Blw.refl _).alloc _).alloc _
  have r1 := row5 (w.alloc (.cells #[.int .i64 (a : Int), .int .i64 acc, .slice v.a1 8 v.c1, .slice v.a2 nt v.c2, .bool d] 61)) (.int .i64 0) (.int .i64 0) (.slice none 0 0) (.slice none 0 0) (.bool false) 61
  rw [World.size_alloc] at r1
  have R0 : Hid (Row ((w.alloc (.cells #[.int .i64 (a : Int), .int .i64 acc, .slice v.a1 8 v.c1, .slice v.a2 nt v.c2, .bool d] 61)).alloc (.cells #[.int .i64 0, .int .i64 0, .slice none 0 0, .slice none 0 0, .bool false] 61)) w.heap.size 5 (fun i => if i = 0 then .int .i64 (a : Int) else if i = 1 then .int .i64 acc else if i = 2 then .slice v.a1 8 v.c1 else if i = 3 then .slice v.a2 nt v.c2 else .bool d)) := (row5 w _ _ _ _ _ 61).blw ((Blw.refl _).alloc _)
  have R1 : Hid (Row ((w.alloc (.cells #[.int .i64 (a : Int), .int .i64 acc, .slice v.a1 8 v.c1, .slice v.a2 nt v.c2, .bool d] 61)).alloc (.cells #[.int .i64 0, .int .i64 0, .slice none 0 0, .slice none 0 0, .bool false] 61)) (w.heap.size + 1) 5 (fun i => if i = 0 then .int .i64 0 else if i = 1 then .int .i64 0 else if i = 2 then .slice none 0 0 else if i = 3 then .slice none 0 0 else .bool false)) := r1
  have HM : Hid (MG X ((w.alloc (.cells #[.int .i64 (a : Int), .int .i64 acc, .slice v.a1 8 v.c1, .slice v.a2 nt v.c2, .bool d] 61)).alloc (.cells #[.int .i64 0, .int .i64 0, .slice none 0 0, .slice none 0 0, .bool false] 61)) v ⟨(a : Int), acc, 8, c, nt, t, d⟩) := h.blw HB.out
  have HF : Hid (KAt 3 Y ((w.alloc (.cells #[.int .i64 (a : Int), .int .i64 acc, .slice v.a1 8 v.c1, .slice v.a2 nt v.c2, .bool d] 61)).alloc (.cells #[.int .i64 0, .int .i64 0, .slice none 0 0, .slice none 0 0, .bool false] 61)) ao n F) := hF.blw HB.out
  have HXX : Hid (∀ b, X b → b < w.heap.size) := hX
  have HSZ : Hid (((w.alloc (.cells #[.int .i64 (a : Int), .int .i64 acc, .slice v.a1 8 v.c1, .slice v.a2 nt v.c2, .bool d] 61)).alloc (.cells #[.int .i64 0, .int .i64 0, .slice none 0 0, .slice none 0 0, .bool false] 61)).heap.size = w.heap.size + 1 + 1) := by show _ = _; simp
  clear h hF hX r1
  have Hh0 : Hid (¬ acc = 0) := h0
  clear h0
  go_enter Try.func126, Try.ntmps126
  go_upto_region 1 with fail
  generalize ((w.alloc (.cells #[.int .i64 (a : Int), .int .i64 acc, .slice v.a1 8 v.c1, .slice v.a2 nt v.c2, .bool d] 61)).alloc (.cells #[.int .i64 0, .int .i64 0, .slice none 0 0, .slice none 0 0, .bool false] 61)) = w0 at *
  have hsz := HSZ.out
  obtain ⟨p0, p1, p2, p3, p4⟩ := get5 R0.out
  obtain ⟨t0, t1, t2, t3, t4⟩ := get5 R1.out
  obtain ⟨bp, op, rfl, -, gg⟩ := HF.out.2 a (by omega)
  have g0 := gg 0 (by omega)
  have g1 := gg 1 (by omega)
  have g2 := gg 2 (by omega)
  rw [Nat.add_zero] at g0
  clear gg
  have hge : ¬ n ≤ a := by omega
  have hlt' : (a : Int) < n := by omega
  rw [hk] at g0
  clear hlt
  have hk' := hk
  clear hk
  have q1 := HSZ.out
  have hA : Blw w0 (w0.alloc (.cells #[.int .i64 5, .int .i64 (F a 1), .int .i64 (F a 2)] 170)) := (Blw.refl _).alloc _
  have S0 : Hid (Row (w0.alloc (.cells #[.int .i64 5, .int .i64 (F a 1), .int .i64 (F a 2)] 170)) w.heap.size 5 (fun i => if i = 0 then .int .i64 (a : Int) else if i = 1 then .int .i64 acc else if i = 2 then .slice v.a1 8 v.c1 else if i = 3 then .slice v.a2 nt v.c2 else .bool d)) := R0.out.blw hA
  have S1 : Hid (Row (w0.alloc (.cells #[.int .i64 5, .int .i64 (F a 1), .int .i64 (F a 2)] 170)) (w.heap.size + 1) 5 (fun i => if i = 0 then .int .i64 0 else if i = 1 then .int .i64 0 else if i = 2 then .slice none 0 0 else if i = 3 then .slice none 0 0 else .bool false)) := R1.out.blw hA
  have S3 : Hid (Row (w0.alloc (.cells #[.int .i64 5, .int .i64 (F a 1), .int .i64 (F a 2)] 170)) w0.heap.size 3 (fun i => if i = 0 then .int .i64 5 else if i = 1 then .int .i64 (F a 1) else .int .i64 (F a 2))) := box3 w0 _ _ _ 170
  have SM : Hid (MG X (w0.alloc (.cells #[.int .i64 5, .int .i64 (F a 1), .int .i64 (F a 2)] 170)) v ⟨(a : Int), acc, 8, c, nt, t, d⟩) := HM.out.blw hA
  have SB : Hid (Blw w (w0.alloc (.cells #[.int .i64 5, .int .i64 (F a 1), .int .i64 (F a 2)] 170))) := HB.out.trans hA
  have SZ : Hid (w0.heap.size = w.heap.size + 1 + 1 ∧ (w0.alloc (.cells #[.int .i64 5, .int .i64 (F a 1), .int .i64 (F a 2)] 170)).heap.size = w.heap.size + 1 + 1 + 1) := ⟨q1, by rw [World.size_alloc, q1]⟩
  clear q1 hA hk'
  go_upto_region 5 with fail
  generalize (w0.alloc (.cells #[.int .i64 5, .int .i64 (F a 1), .int .i64 (F a 2)] 170)) = w1 at *
  obtain ⟨qz, qz1⟩ := SZ.out
  rw [qz] at S3
  clear p0 p1 p2 p3 p4 t0 t1 t2 t3 t4 HB R0 R1 HM HF HSZ hsz qz g0 g1 g2 SZ
  obtain ⟨p0, p1, p2, p3, p4⟩ := get5 S0.out
  obtain ⟨t0, t1, t2, t3, t4⟩ := get5 S1.out
  obtain ⟨s0, s1, s2⟩ := get3 S3.out
  have e0 := S0.out.frozen 0; have e1 := S0.out.frozen 1; have e2 := S0.out.frozen 2; have e3 := S0.out.frozen 3; have e4 := S0.out.frozen 4
  have f0 := S1.out.frozen 0; have f1 := S1.out.frozen 1; have f2 := S1.out.frozen 2; have f3 := S1.out.frozen 3; have f4 := S1.out.frozen 4
  have d0 : (acc != 0) = true := by simp [Hh0.out]
  clear Hh0
  have FF : Hid (_ ∧ _ ∧ _) := fin_sets (v := v) (D := ⟨F a 2, acc, 8, c, nt, t, d⟩) (Z := X) (w := w) (Wm := ((w1.setCell ⟨w.heap.size, 0, none⟩ (.int .i64 ((a : Int) + 1))).setCell ⟨w.heap.size, 0, none⟩ (.int .i64 (F a 2)))) (z := w.heap.size + 1) (.int .i64 (F a 2)) (.int .i64 acc) (.slice v.a1 8 v.c1) (.slice v.a2 nt v.c2) (.bool d) (show MG X ((w1.setCell ⟨w.heap.size, 0, none⟩ (.int .i64 ((a : Int) + 1))).setCell ⟨w.heap.size, 0, none⟩ (.int .i64 (F a 2))) v ⟨F a 2, acc, 8, c, nt, t, d⟩ from ⟨(MG.mod (MG.mod (SM.out) (Mod.setCell (X := fun x => x = w.heap.size) _ (p := ⟨w.heap.size, 0, none⟩) rfl _) (fun b hb e => by have := HXX.out b hb; omega)) (Mod.setCell (X := fun x => x = w.heap.size) _ (p := ⟨w.heap.size, 0, none⟩) rfl _) (fun b hb e => by have := HXX.out b hb; omega)).ex⟩) (fun hx => by have := HXX.out _ hx; omega) (Mod.old (Mod.old ((SB.out.mod X)) (Mod.setCell (X := fun x => x = w.heap.size) _ (p := ⟨w.heap.size, 0, none⟩) rfl _) (fun x hx hl => by omega)) (Mod.setCell (X := fun x => x = w.heap.size) _ (p := ⟨w.heap.size, 0, none⟩) rfl _) (fun x hx hl => by omega)) (by omega)
  clear SB S0 S1 S3 SM HXX
  go_wp2
  refine bodyPost_ret (v := GV.val v ⟨F a 2, acc, 8, c, nt, t, d⟩) (by simp [results, Try.results126, go_sem, t0, t1, t2, t3, t4]) rfl ?_
  exact ⟨v, rfl, FF.out.1.mono (fun b hb => Or.inl hb), FF.out.2.1⟩
end Go.Proofs.Ytbpdopcdhnemfaa
/- Guests: the model's step: load, store, tell. -/
namespace Go.Proofs.Ytbpdopcdhnemfaa
open Go.RowKit
set_option linter.unusedSimpArgs false
set_option linter.unusedVariables false
set_option maxRecDepth 10000 in
set_option maxHeartbeats 3200000 in
theorem l9Step_load (ao : Option Addr) (cp n : Nat) (F : Nat → Nat → Int) (v : GV) (a : Nat) (acc : Int) (c : Nat → Int) (nt : Nat) (t : Nat → Int) (d : Bool) (X Y : Nat → Prop) (w : World) (hn : n ≤ 16) (ha16 : a ≤ 16) (hacc : wordOK acc) (hnt : nt ≤ 20) (q : Nat) (hi : q < 8) (hlt : a < n) (hk : F a 0 = 3) (hai : F a 1 = (q : Int)) (hF : KAt 3 Y w ao n F) (hX : ∀ b, X b → b < w.heap.size) (h : MG X w v ⟨(a : Int), acc, 8, c, nt, t, d⟩) :
    Calls Try.prog 126 #[.slice ao n cp, v.val ⟨(a : Int), acc, 8, c, nt, t, d⟩] w fun e w' => ∃ v' : GV, e = .returned (v'.val ⟨(a : Int) + 1, c q, 8, c, nt, t, d⟩) ∧ MG (fun b => X b ∨ (w.heap.size ≤ b ∧ b < w'.heap.size)) w' v' ⟨(a : Int) + 1, c q, 8, c, nt, t, d⟩ ∧ Mod X w w' := by
  obtain ⟨a1, a2, c1, c2⟩ := v
  obtain ⟨X1, X2, dd1, dd2, hc, ht⟩ := h.ex
  obtain ⟨b1, hxb1, ea, rc⟩ := hc.2 (by show 0 < 8; omega)
  dsimp only at ea
  subst ea
  have RC : Hid (Row w b1 8 (fun i => .int .i64 (c i))) := rc
  have HT : Hid (BufI X2 w (.slice a2 nt c2) nt t) := ht
  have hxb := (dd1 b1 hxb1).1
  have hbl := hX b1 hxb
  have hne : b1 ≠ w.heap.size := by omega
  have hne' : ¬ w.heap.size = b1 := by omega
  clear hc ht rc
  have HB : Hid (Blw w ((w.alloc (.cells #[.int .i64 (a : Int), .int .i64 acc, .slice (some ⟨b1, 0, none⟩) 8 c1, .slice a2 nt c2, .bool d] 61)).alloc (.cells #[.int .i64 0, .int .i64 0, .slice none 0 0, .slice none 0 0, .bool false] 61))) := ((Blw.refl _).alloc _).alloc _
  have r1 := row5 (w.alloc (.cells #[.int .i64 (a : Int), .int .i64 acc, .slice (some ⟨b1, 0, none⟩) 8 c1, .slice a2 nt c2, .bool d] 61)) (.int .i64 0) (.int .i64 0) (.slice none 0 0) (.slice none 0 0) (.bool false) 61
  rw [World.size_alloc] at r1
  have R0 : Hid (Row ((w.alloc (.cells #[.int .i64 (a : Int), .int .i64 acc, .slice (some ⟨b1, 0, none⟩) 8 c1, .slice a2 nt c2, .bool d] 61)).alloc (.cells #[.int .i64 0, .int .i64 0, .slice none 0 0, .slice none 0 0, .bool false] 61)) w.heap.size 5 (fun i => if i = 0 then .int .i64 (a : Int) else if i = 1 then .int .i64 acc else if i = 2 then .slice (some ⟨b1, 0, none⟩) 8 c1 else if i = 3 then .slice a2 nt c2 else .bool d)) := (row5 w _ _ _ _ _ 61).blw ((Blw.refl _).alloc _)
  have R1 : Hid (Row ((w.alloc (.cells #[.int .i64 (a : Int), .int .i64 acc, .slice (some ⟨b1, 0, none⟩) 8 c1, .slice a2 nt c2, .bool d] 61)).alloc (.cells #[.int .i64 0, .int .i64 0, .slice none 0 0, .slice none 0 0, .bool false] 61)) (w.heap.size + 1) 5 (fun i => if i = 0 then .int .i64 0 else if i = 1 then .int .i64 0 else if i = 2 then .slice none 0 0 else if i = 3 then .slice none 0 0 else .bool false)) := r1
  have HM : Hid (MG X ((w.alloc (.cells #[.int .i64 (a : Int), .int .i64 acc, .slice (some ⟨b1, 0, none⟩) 8 c1, .slice a2 nt c2, .bool d] 61)).alloc (.cells #[.int .i64 0, .int .i64 0, .slice none 0 0, .slice none 0 0, .bool false] 61)) ⟨some ⟨b1, 0, none⟩, a2, c1, c2⟩ ⟨(a : Int), acc, 8, c, nt, t, d⟩) := h.blw HB.out
  have HF : Hid (KAt 3 Y ((w.alloc (.cells #[.int .i64 (a : Int), .int .i64 acc, .slice (some ⟨b1, 0, none⟩) 8 c1, .slice a2 nt c2, .bool d] 61)).alloc (.cells #[.int .i64 0, .int .i64 0, .slice none 0 0, .slice none 0 0, .bool false] 61)) ao n F) := hF.blw HB.out
  have HXX : Hid (∀ b, X b → b < w.heap.size) := hX
  have HSZ : Hid (((w.alloc (.cells #[.int .i64 (a : Int), .int .i64 acc, .slice (some ⟨b1, 0, none⟩) 8 c1, .slice a2 nt c2, .bool d] 61)).alloc (.cells #[.int .i64 0, .int .i64 0, .slice none 0 0, .slice none 0 0, .bool false] 61)).heap.size = w.heap.size + 1 + 1) := by show _ = _; simp
  clear h hF hX r1
  go_enter Try.func126, Try.ntmps126
  go_upto_region 1 with fail
  generalize ((w.alloc (.cells #[.int .i64 (a : Int), .int .i64 acc, .slice (some ⟨b1, 0, none⟩) 8 c1, .slice a2 nt c2, .bool d] 61)).alloc (.cells #[.int .i64 0, .int .i64 0, .slice none 0 0, .slice none 0 0, .bool false] 61)) = w0 at *
  have hsz := HSZ.out
  obtain ⟨p0, p1, p2, p3, p4⟩ := get5 R0.out
  obtain ⟨t0, t1, t2, t3, t4⟩ := get5 R1.out
  obtain ⟨bp, op, rfl, -, gg⟩ := HF.out.2 a (by omega)
  have g0 := gg 0 (by omega)
  have g1 := gg 1 (by omega)
  have g2 := gg 2 (by omega)
  rw [Nat.add_zero] at g0
  clear gg
  have hge : ¬ n ≤ a := by omega
  have hlt' : (a : Int) < n := by omega
  rw [hk] at g0
  clear hlt
  have hk' := hk
  clear hk
  rw [hai] at g1
  clear hai
  have q1 := HSZ.out
  have hA : Blw w0 (w0.alloc (.cells #[.int .i64 3, .int .i64 (q : Int), .int .i64 (F a 2)] 170)) := (Blw.refl _).alloc _
  have S0 : Hid (Row (w0.alloc (.cells #[.int .i64 3, .int .i64 (q : Int), .int .i64 (F a 2)] 170)) w.heap.size 5 (fun i => if i = 0 then .int .i64 (a : Int) else if i = 1 then .int .i64 acc else if i = 2 then .slice (some ⟨b1, 0, none⟩) 8 c1 else if i = 3 then .slice a2 nt c2 else .bool d)) := R0.out.blw hA
  have S1 : Hid (Row (w0.alloc (.cells #[.int .i64 3, .int .i64 (q : Int), .int .i64 (F a 2)] 170)) (w.heap.size + 1) 5 (fun i => if i = 0 then .int .i64 0 else if i = 1 then .int .i64 0 else if i = 2 then .slice none 0 0 else if i = 3 then .slice none 0 0 else .bool false)) := R1.out.blw hA
  have S3 : Hid (Row (w0.alloc (.cells #[.int .i64 3, .int .i64 (q : Int), .int .i64 (F a 2)] 170)) w0.heap.size 3 (fun i => if i = 0 then .int .i64 3 else if i = 1 then .int .i64 (q : Int) else .int .i64 (F a 2))) := box3 w0 _ _ _ 170
  have SM : Hid (MG X (w0.alloc (.cells #[.int .i64 3, .int .i64 (q : Int), .int .i64 (F a 2)] 170)) ⟨some ⟨b1, 0, none⟩, a2, c1, c2⟩ ⟨(a : Int), acc, 8, c, nt, t, d⟩) := HM.out.blw hA
  have SB : Hid (Blw w (w0.alloc (.cells #[.int .i64 3, .int .i64 (q : Int), .int .i64 (F a 2)] 170))) := HB.out.trans hA
  have SZ : Hid (w0.heap.size = w.heap.size + 1 + 1 ∧ (w0.alloc (.cells #[.int .i64 3, .int .i64 (q : Int), .int .i64 (F a 2)] 170)).heap.size = w.heap.size + 1 + 1 + 1) := ⟨q1, by rw [World.size_alloc, q1]⟩
  clear q1 hA hk'
  go_upto_region 5 with fail
  generalize (w0.alloc (.cells #[.int .i64 3, .int .i64 (q : Int), .int .i64 (F a 2)] 170)) = w1 at *
  obtain ⟨qz, qz1⟩ := SZ.out
  rw [qz] at S3
  clear p0 p1 p2 p3 p4 t0 t1 t2 t3 t4 HB R0 R1 HM HF HSZ hsz qz g0 g1 g2 SZ
  obtain ⟨p0, p1, p2, p3, p4⟩ := get5 S0.out
  obtain ⟨t0, t1, t2, t3, t4⟩ := get5 S1.out
  obtain ⟨s0, s1, s2⟩ := get3 S3.out
  have e0 := S0.out.frozen 0; have e1 := S0.out.frozen 1; have e2 := S0.out.frozen 2; have e3 := S0.out.frozen 3; have e4 := S0.out.frozen 4
  have f0 := S1.out.frozen 0; have f1 := S1.out.frozen 1; have f2 := S1.out.frozen 2; have f3 := S1.out.frozen 3; have f4 := S1.out.frozen 4
  have rc1 := (RC.out.blw SB.out).cell (i := q) hi
  have frc := (RC.out.blw SB.out).frozen q
  have hi' : (q : Int) < 8 := by omega
  have FF : Hid (_ ∧ _ ∧ _) := fin_sets (v := ⟨some ⟨b1, 0, none⟩, a2, c1, c2⟩) (D := ⟨(a : Int) + 1, c q, 8, c, nt, t, d⟩) (Z := X) (w := w) (Wm := ((w1.setCell ⟨w.heap.size, 0, none⟩ (.int .i64 ((a : Int) + 1))).setCell ⟨w.heap.size, 1, none⟩ (.int .i64 (c q)))) (z := w.heap.size + 1) (.int .i64 ((a : Int) + 1)) (.int .i64 (c q)) (.slice (some ⟨b1, 0, none⟩) 8 c1) (.slice a2 nt c2) (.bool d) (show MG X ((w1.setCell ⟨w.heap.size, 0, none⟩ (.int .i64 ((a : Int) + 1))).setCell ⟨w.heap.size, 1, none⟩ (.int .i64 (c q))) ⟨some ⟨b1, 0, none⟩, a2, c1, c2⟩ ⟨(a : Int) + 1, c q, 8, c, nt, t, d⟩ from ⟨(MG.mod (MG.mod (SM.out) (Mod.setCell (X := fun x => x = w.heap.size) _ (p := ⟨w.heap.size, 0, none⟩) rfl _) (fun b hb e => by have := HXX.out b hb; omega)) (Mod.setCell (X := fun x => x = w.heap.size) _ (p := ⟨w.heap.size, 1, none⟩) rfl _) (fun b hb e => by have := HXX.out b hb; omega)).ex⟩) (fun hx => by have := HXX.out _ hx; omega) (Mod.old (Mod.old ((SB.out.mod X)) (Mod.setCell (X := fun x => x = w.heap.size) _ (p := ⟨w.heap.size, 0, none⟩) rfl _) (fun x hx hl => by omega)) (Mod.setCell (X := fun x => x = w.heap.size) _ (p := ⟨w.heap.size, 1, none⟩) rfl _) (fun x hx hl => by omega)) (by omega)
  clear SB S0 S1 S3 SM HXX RC HT
  go_wp2
  refine bodyPost_ret (v := GV.val (⟨some ⟨b1, 0, none⟩, a2, c1, c2⟩ : GV) ⟨(a : Int) + 1, c q, 8, c, nt, t, d⟩) (by simp [results, Try.results126, go_sem, t0, t1, t2, t3, t4]) rfl ?_
  exact ⟨⟨some ⟨b1, 0, none⟩, a2, c1, c2⟩, rfl, FF.out.1.mono (fun b hb => Or.inl hb), FF.out.2.1⟩
set_option maxRecDepth 10000 in
set_option maxHeartbeats 3200000 in
theorem l9Step_store (ao : Option Addr) (cp n : Nat) (F : Nat → Nat → Int) (v : GV) (a : Nat) (acc : Int) (c : Nat → Int) (nt : Nat) (t : Nat → Int) (d : Bool) (X Y : Nat → Prop) (w : World) (hn : n ≤ 16) (ha16 : a ≤ 16) (hacc : wordOK acc) (hnt : nt ≤ 20) (q : Nat) (hi : q < 8) (hlt : a < n) (hk : F a 0 = 4) (hai : F a 1 = (q : Int)) (hF : KAt 3 Y w ao n F) (hX : ∀ b, X b → b < w.heap.size) (h : MG X w v ⟨(a : Int), acc, 8, c, nt, t, d⟩) :
    Calls Try.prog 126 #[.slice ao n cp, v.val ⟨(a : Int), acc, 8, c, nt, t, d⟩] w fun e w' => ∃ v' : GV, e = .returned (v'.val ⟨(a : Int) + 1, acc, 8, updI c q acc, nt, t, d⟩) ∧ MG (fun b => X b ∨ (w.heap.size ≤ b ∧ b < w'.heap.size)) w' v' ⟨(a : Int) + 1, acc, 8, updI c q acc, nt, t, d⟩ ∧ Mod X w w' := by
  obtain ⟨a1, a2, c1, c2⟩ := v
  obtain ⟨X1, X2, dd1, dd2, hc, ht⟩ := h.ex
  obtain ⟨b1, hxb1, ea, rc⟩ := hc.2 (by show 0 < 8; omega)
  dsimp only at ea
  subst ea
  have RC : Hid (Row w b1 8 (fun i => .int .i64 (c i))) := rc
  have HT : Hid (BufI X2 w (.slice a2 nt c2) nt t) := ht
  have hxb := (dd1 b1 hxb1).1
  have hbl := hX b1 hxb
  have hne : b1 ≠ w.heap.size := by omega
  have hne' : ¬ w.heap.size = b1 := by omega
  clear hc ht rc
  have HB : Hid (Blw w ((w.alloc (.cells #[.int .i64 (a : Int), .int .i64 acc, .slice (some ⟨b1, 0, none⟩) 8 c1, .slice a2 nt c2, .bool d] 61)).alloc (.cells #[.int .i64 0, .int .i64 0, .slice none 0 0, .slice none 0 0, .bool false] 61))) := ((Blw.refl _).alloc _).alloc _
  have r1 := row5 (w.alloc (.cells #[.int .i64 (a : Int), .int .i64 acc, .slice (some ⟨b1, 0, none⟩) 8 c1, .slice a2 nt c2, .bool d] 61)) (.int .i64 0) (.int .i64 0) (.slice none 0 0) (.slice none 0 0) (.bool false) 61
  rw [World.size_alloc] at r1
  have R0 : Hid (Row ((w.alloc (.cells #[.int .i64 (a : Int), .int .i64 acc, .slice (some ⟨b1, 0, none⟩) 8 c1, .slice a2 nt c2, .bool d] 61)).alloc (.cells #[.int .i64 0, .int .i64 0, .slice none 0 0, .slice none 0 0, .bool false] 61)) w.heap.size 5 (fun i => if i = 0 then .int .i64 (a : Int) else if i = 1 then .int .i64 acc else if i = 2 then .slice (some ⟨b1, 0, none⟩) 8 c1 else if i = 3 then .slice a2 nt c2 else .bool d)) := (row5 w _ _ _ _ _ 61).blw ((Blw.refl _).alloc _)
  have R1 : Hid (Row ((w.alloc (.cells #[.int .i64 (a : Int), .int .i64 acc, .slice (some ⟨b1, 0, none⟩) 8 c1, .slice a2 nt c2, .bool d] 61)).alloc (.cells #[.int .i64 0, .int .i64 0, .slice none 0 0, .slice none 0 0, .bool false] 61)) (w.heap.size + 1) 5 (fun i => if i = 0 then .int .i64 0 else if i = 1 then .int .i64 0 else if i = 2 then .slice none 0 0 else if i = 3 then .slice none 0 0 else .bool false)) := r1
  have HM : Hid (MG X ((w.alloc (.cells #[.int .i64 (a : Int), .int .i64 acc, .slice (some ⟨b1, 0, none⟩) 8 c1, .slice a2 nt c2, .bool d] 61)).alloc (.cells #[.int .i64 0, .int .i64 0, .slice none 0 0, .slice none 0 0, .bool false] 61)) ⟨some ⟨b1, 0, none⟩, a2, c1, c2⟩ ⟨(a : Int), acc, 8, c, nt, t, d⟩) := h.blw HB.out
  have HF : Hid (KAt 3 Y ((w.alloc (.cells #[.int .i64 (a : Int), .int .i64 acc, .slice (some ⟨b1, 0, none⟩) 8 c1, .slice a2 nt c2, .bool d] 61)).alloc (.cells #[.int .i64 0, .int .i64 0, .slice none 0 0, .slice none 0 0, .bool false] 61)) ao n F) := hF.blw HB.out
  have HXX : Hid (∀ b, X b → b < w.heap.size) := hX
  have HSZ : Hid (((w.alloc (.cells #[.int .i64 (a : Int), .int .i64 acc, .slice (some ⟨b1, 0, none⟩) 8 c1, .slice a2 nt c2, .bool d] 61)).alloc (.cells #[.int .i64 0, .int .i64 0, .slice none 0 0, .slice none 0 0, .bool false] 61)).heap.size = w.heap.size + 1 + 1) := by show _ = _; simp
  clear h hF hX r1
  go_enter Try.func126, Try.ntmps126
  go_upto_region 1 with fail
  generalize ((w.alloc (.cells #[.int .i64 (a : Int), .int .i64 acc, .slice (some ⟨b1, 0, none⟩) 8 c1, .slice a2 nt c2, .bool d] 61)).alloc (.cells #[.int .i64 0, .int .i64 0, .slice none 0 0, .slice none 0 0, .bool false] 61)) = w0 at *
  have hsz := HSZ.out
  obtain ⟨p0, p1, p2, p3, p4⟩ := get5 R0.out
  obtain ⟨t0, t1, t2, t3, t4⟩ := get5 R1.out
  obtain ⟨bp, op, rfl, -, gg⟩ := HF.out.2 a (by omega)
  have g0 := gg 0 (by omega)
  have g1 := gg 1 (by omega)
  have g2 := gg 2 (by omega)
  rw [Nat.add_zero] at g0
  clear gg
  have hge : ¬ n ≤ a := by omega
  have hlt' : (a : Int) < n := by omega
  rw [hk] at g0
  clear hlt
  have hk' := hk
  clear hk
  rw [hai] at g1
  clear hai
  have q1 := HSZ.out
  have hA : Blw w0 (w0.alloc (.cells #[.int .i64 4, .int .i64 (q : Int), .int .i64 (F a 2)] 170)) := (Blw.refl _).alloc _
  have S0 : Hid (Row (w0.alloc (.cells #[.int .i64 4, .int .i64 (q : Int), .int .i64 (F a 2)] 170)) w.heap.size 5 (fun i => if i = 0 then .int .i64 (a : Int) else if i = 1 then .int .i64 acc else if i = 2 then .slice (some ⟨b1, 0, none⟩) 8 c1 else if i = 3 then .slice a2 nt c2 else .bool d)) := R0.out.blw hA
  have S1 : Hid (Row (w0.alloc (.cells #[.int .i64 4, .int .i64 (q : Int), .int .i64 (F a 2)] 170)) (w.heap.size + 1) 5 (fun i => if i = 0 then .int .i64 0 else if i = 1 then .int .i64 0 else if i = 2 then .slice none 0 0 else if i = 3 then .slice none 0 0 else .bool false)) := R1.out.blw hA
  have S3 : Hid (Row (w0.alloc (.cells #[.int .i64 4, .int .i64 (q : Int), .int .i64 (F a 2)] 170)) w0.heap.size 3 (fun i => if i = 0 then .int .i64 4 else if i = 1 then .int .i64 (q : Int) else .int .i64 (F a 2))) := box3 w0 _ _ _ 170
  have SM : Hid (MG X (w0.alloc (.cells #[.int .i64 4, .int .i64 (q : Int), .int .i64 (F a 2)] 170)) ⟨some ⟨b1, 0, none⟩, a2, c1, c2⟩ ⟨(a : Int), acc, 8, c, nt, t, d⟩) := HM.out.blw hA
  have SB : Hid (Blw w (w0.alloc (.cells #[.int .i64 4, .int .i64 (q : Int), .int .i64 (F a 2)] 170))) := HB.out.trans hA
  have SZ : Hid (w0.heap.size = w.heap.size + 1 + 1 ∧ (w0.alloc (.cells #[.int .i64 4, .int .i64 (q : Int), .int .i64 (F a 2)] 170)).heap.size = w.heap.size + 1 + 1 + 1) := ⟨q1, by rw [World.size_alloc, q1]⟩
  clear q1 hA hk'
  go_upto_region 5 with fail
  generalize (w0.alloc (.cells #[.int .i64 4, .int .i64 (q : Int), .int .i64 (F a 2)] 170)) = w1 at *
  obtain ⟨qz, qz1⟩ := SZ.out
  rw [qz] at S3
  clear p0 p1 p2 p3 p4 t0 t1 t2 t3 t4 HB R0 R1 HM HF HSZ hsz qz g0 g1 g2 SZ
  obtain ⟨p0, p1, p2, p3, p4⟩ := get5 S0.out
  obtain ⟨t0, t1, t2, t3, t4⟩ := get5 S1.out
  obtain ⟨s0, s1, s2⟩ := get3 S3.out
  have e0 := S0.out.frozen 0; have e1 := S0.out.frozen 1; have e2 := S0.out.frozen 2; have e3 := S0.out.frozen 3; have e4 := S0.out.frozen 4
  have f0 := S1.out.frozen 0; have f1 := S1.out.frozen 1; have f2 := S1.out.frozen 2; have f3 := S1.out.frozen 3; have f4 := S1.out.frozen 4
  have rc1 := (RC.out.blw SB.out).cell (i := q) hi
  have frc := (RC.out.blw SB.out).frozen q
  have hi' : (q : Int) < 8 := by omega
  have FF : Hid (_ ∧ _ ∧ _) := fin_sets (v := ⟨some ⟨b1, 0, none⟩, a2, c1, c2⟩) (D := ⟨(a : Int) + 1, acc, 8, updI c q acc, nt, t, d⟩) (Z := X) (w := w) (Wm := ((w1.setCell ⟨w.heap.size, 0, none⟩ (.int .i64 ((a : Int) + 1))).setCell ⟨b1, q, none⟩ (.int .i64 acc))) (z := w.heap.size + 1) (.int .i64 ((a : Int) + 1)) (.int .i64 acc) (.slice (some ⟨b1, 0, none⟩) 8 c1) (.slice a2 nt c2) (.bool d) (show MG X ((w1.setCell ⟨w.heap.size, 0, none⟩ (.int .i64 ((a : Int) + 1))).setCell ⟨b1, q, none⟩ (.int .i64 acc)) ⟨some ⟨b1, 0, none⟩, a2, c1, c2⟩ ⟨(a : Int) + 1, acc, 8, updI c q acc, nt, t, d⟩ from ⟨X1, X2, dd1, dd2, ⟨by show 8 ≤ _; omega, fun _ => ⟨b1, hxb1, rfl, (((RC.out.blw SB.out).mod (Mod.setCell (X := fun x => x = w.heap.size) _ (p := ⟨w.heap.size, 0, none⟩) rfl _) hne).set q (.int .i64 acc)).congr (fun j hj => by by_cases ej : j = q <;> simp [ej, updI])⟩⟩, Buf.mod (Buf.mod (Buf.blw HT.out SB.out) (Mod.setCell (X := fun x => x = w.heap.size) _ (p := ⟨w.heap.size, 0, none⟩) rfl _) (fun b hb e => by have := HXX.out b (dd2 b hb); omega)) (Mod.setCell (X := fun x => x = b1) _ (p := ⟨b1, q, none⟩) rfl _) (fun b hb e => (dd1 b1 hxb1).2 (e ▸ hb))⟩) (fun hx => by have := HXX.out _ hx; omega) (Mod.old (Mod.old ((SB.out.mod X)) (Mod.setCell (X := fun x => x = w.heap.size) _ (p := ⟨w.heap.size, 0, none⟩) rfl _) (fun x hx hl => by omega)) (Mod.setCell (X := fun x => x = b1) _ (p := ⟨b1, q, none⟩) rfl _) (fun x hx hl => hx ▸ hxb)) (by omega)
  clear SB S0 S1 S3 SM HXX RC HT
  go_wp2
  refine bodyPost_ret (v := GV.val (⟨some ⟨b1, 0, none⟩, a2, c1, c2⟩ : GV) ⟨(a : Int) + 1, acc, 8, updI c q acc, nt, t, d⟩) (by simp [results, Try.results126, go_sem, t0, t1, t2, t3, t4]) rfl ?_
  exact ⟨⟨some ⟨b1, 0, none⟩, a2, c1, c2⟩, rfl, FF.out.1.mono (fun b hb => Or.inl hb), FF.out.2.1⟩
set_option maxRecDepth 10000 in
set_option maxHeartbeats 3200000 in
theorem l9Step_tell (ao : Option Addr) (cp n : Nat) (F : Nat → Nat → Int) (v : GV) (a : Nat) (acc : Int) (c : Nat → Int) (nt : Nat) (t : Nat → Int) (d : Bool) (X Y : Nat → Prop) (w : World) (hn : n ≤ 16) (ha16 : a ≤ 16) (hacc : wordOK acc) (hnt : nt ≤ 20) (hlt : a < n) (hk : F a 0 = 6) (h20n : ¬ nt = 20) (hF : KAt 3 Y w ao n F) (hX : ∀ b, X b → b < w.heap.size) (h : MG X w v ⟨(a : Int), acc, 8, c, nt, t, d⟩) :
    Calls Try.prog 126 #[.slice ao n cp, v.val ⟨(a : Int), acc, 8, c, nt, t, d⟩] w fun e w' => ∃ v' : GV, e = .returned (v'.val ⟨(a : Int) + 1, acc, 8, c, nt + 1, updI t nt acc, d⟩) ∧ MG (fun b => X b ∨ (w.heap.size ≤ b ∧ b < w'.heap.size)) w' v' ⟨(a : Int) + 1, acc, 8, c, nt + 1, updI t nt acc, d⟩ ∧ Mod X w w' := by
  have HB : Hid (Blw w ((w.alloc (.cells #[.int .i64 (a : Int), .int .i64 acc, .slice v.a1 8 v.c1, .slice v.a2 nt v.c2, .bool d] 61)).alloc (.cells #[.int .i64 0, .int .i64 0, .slice none 0 0, .slice none 0 0, .bool false] 61))) := ((Blw.refl _).alloc _).alloc _
  have r1 := row5 (w.alloc (.cells #[.int .i64 (a : Int), .int .i64 acc, .slice v.a1 8 v.c1, .slice v.a2 nt v.c2, .bool d] 61)) (.int .i64 0) (.int .i64 0) (.slice none 0 0) (.slice none 0 0) (.bool false) 61
  rw [World.size_alloc] at r1
  have R0 : Hid (Row ((w.alloc (.cells #[.int .i64 (a : Int), .int .i64 acc, .slice v.a1 8 v.c1, .slice v.a2 nt v.c2, .bool d] 61)).alloc (.cells #[.int .i64 0, .int .i64 0, .slice none 0 0, .slice none 0 0, .bool false] 61)) w.heap.size 5 (fun i => if i = 0 then .int .i64 (a : Int) else if i = 1 then .int .i64 acc else if i = 2 then .slice v.a1 8 v.c1 else if i = 3 then .slice v.a2 nt v.c2 else .bool d)) := (row5 w _ _ _ _ _ 61).blw ((Blw.refl _).alloc _)
  have R1 : Hid (Row ((w.alloc (.cells #[.int .i64 (a : Int), .int .i64 acc, .slice v.a1 8 v.c1, .slice v.a2 nt v.c2, .bool d] 61)).alloc (.cells #[.int .i64 0, .int .i64 0, .slice none 0 0, .slice none 0 0, .bool false] 61)) (w.heap.size + 1) 5 (fun i => if i = 0 then .int .i64 0 else if i = 1 then .int .i64 0 else if i = 2 then .slice none 0 0 else if i = 3 then .slice none 0 0 else .bool false)) := r1
  have HM : Hid (MG X ((w.alloc (.cells #[.int .i64 (a : Int), .int .i64 acc, .slice v.a1 8 v.c1, .slice v.a2 nt v.c2, .bool d] 61)).alloc (.cells #[.int .i64 0, .int .i64 0, .slice none 0 0, .slice none 0 0, .bool false] 61)) v ⟨(a : Int), acc, 8, c, nt, t, d⟩) := h.blw HB.out
  have HF : Hid (KAt 3 Y ((w.alloc (.cells #[.int .i64 (a : Int), .int .i64 acc, .slice v.a1 8 v.c1, .slice v.a2 nt v.c2, .bool d] 61)).alloc (.cells #[.int .i64 0, .int .i64 0, .slice none 0 0, .slice none 0 0, .bool false] 61)) ao n F) := hF.blw HB.out
  have HXX : Hid (∀ b, X b → b < w.heap.size) := hX
  have HSZ : Hid (((w.alloc (.cells #[.int .i64 (a : Int), .int .i64 acc, .slice v.a1 8 v.c1, .slice v.a2 nt v.c2, .bool d] 61)).alloc (.cells #[.int .i64 0, .int .i64 0, .slice none 0 0, .slice none 0 0, .bool false] 61)).heap.size = w.heap.size + 1 + 1) := by show _ = _; simp
  clear h hF hX r1
  have Hh20n : Hid (¬ nt = 20) := h20n
  clear h20n
  go_enter Try.func126, Try.ntmps126
  go_upto_region 1 with fail
  generalize ((w.alloc (.cells #[.int .i64 (a : Int), .int .i64 acc, .slice v.a1 8 v.c1, .slice v.a2 nt v.c2, .bool d] 61)).alloc (.cells #[.int .i64 0, .int .i64 0, .slice none 0 0, .slice none 0 0, .bool false] 61)) = w0 at *
  have hsz := HSZ.out
  obtain ⟨p0, p1, p2, p3, p4⟩ := get5 R0.out
  obtain ⟨t0, t1, t2, t3, t4⟩ := get5 R1.out
  obtain ⟨bp, op, rfl, -, gg⟩ := HF.out.2 a (by omega)
  have g0 := gg 0 (by omega)
  have g1 := gg 1 (by omega)
  have g2 := gg 2 (by omega)
  rw [Nat.add_zero] at g0
  clear gg
  have hge : ¬ n ≤ a := by omega
  have hlt' : (a : Int) < n := by omega
  rw [hk] at g0
  clear hlt
  have hk' := hk
  clear hk
  have d20 : ((nt : Int) == 20) = false := by have := Hh20n.out; simp; omega
  clear Hh20n
  have q1 := HSZ.out
  have hA : Blw w0 (w0.alloc (.cells #[.int .i64 6, .int .i64 (F a 1), .int .i64 (F a 2)] 170)) := (Blw.refl _).alloc _
  have S0 : Hid (Row (w0.alloc (.cells #[.int .i64 6, .int .i64 (F a 1), .int .i64 (F a 2)] 170)) w.heap.size 5 (fun i => if i = 0 then .int .i64 (a : Int) else if i = 1 then .int .i64 acc else if i = 2 then .slice v.a1 8 v.c1 else if i = 3 then .slice v.a2 nt v.c2 else .bool d)) := R0.out.blw hA
  have S1 : Hid (Row (w0.alloc (.cells #[.int .i64 6, .int .i64 (F a 1), .int .i64 (F a 2)] 170)) (w.heap.size + 1) 5 (fun i => if i = 0 then .int .i64 0 else if i = 1 then .int .i64 0 else if i = 2 then .slice none 0 0 else if i = 3 then .slice none 0 0 else .bool false)) := R1.out.blw hA
  have S3 : Hid (Row (w0.alloc (.cells #[.int .i64 6, .int .i64 (F a 1), .int .i64 (F a 2)] 170)) w0.heap.size 3 (fun i => if i = 0 then .int .i64 6 else if i = 1 then .int .i64 (F a 1) else .int .i64 (F a 2))) := box3 w0 _ _ _ 170
  have SM : Hid (MG X (w0.alloc (.cells #[.int .i64 6, .int .i64 (F a 1), .int .i64 (F a 2)] 170)) v ⟨(a : Int), acc, 8, c, nt, t, d⟩) := HM.out.blw hA
  have SB : Hid (Blw w (w0.alloc (.cells #[.int .i64 6, .int .i64 (F a 1), .int .i64 (F a 2)] 170))) := HB.out.trans hA
  have SZ : Hid (w0.heap.size = w.heap.size + 1 + 1 ∧ (w0.alloc (.cells #[.int .i64 6, .int .i64 (F a 1), .int .i64 (F a 2)] 170)).heap.size = w.heap.size + 1 + 1 + 1) := ⟨q1, by rw [World.size_alloc, q1]⟩
  clear q1 hA hk'
  go_upto_region 5 with fail
  generalize (w0.alloc (.cells #[.int .i64 6, .int .i64 (F a 1), .int .i64 (F a 2)] 170)) = w1 at *
  obtain ⟨qz, qz1⟩ := SZ.out
  rw [qz] at S3
  clear p0 p1 p2 p3 p4 t0 t1 t2 t3 t4 HB R0 R1 HM HF HSZ hsz qz g0 g1 g2 SZ
  obtain ⟨p0, p1, p2, p3, p4⟩ := get5 S0.out
  obtain ⟨t0, t1, t2, t3, t4⟩ := get5 S1.out
  obtain ⟨s0, s1, s2⟩ := get3 S3.out
  have e0 := S0.out.frozen 0; have e1 := S0.out.frozen 1; have e2 := S0.out.frozen 2; have e3 := S0.out.frozen 3; have e4 := S0.out.frozen 4
  have f0 := S1.out.frozen 0; have f1 := S1.out.frozen 1; have f2 := S1.out.frozen 2; have f3 := S1.out.frozen 3; have f4 := S1.out.frozen 4

  go_upto_region 7 with fail
  have mz : Mod (fun x => x = w.heap.size) w1 (w1.setCell ⟨w.heap.size, 0, none⟩ (.int .i64 ((a : Int) + 1))) := Mod.setCell (X := fun x => x = w.heap.size) _ (p := ⟨w.heap.size, 0, none⟩) rfl _
  have T0 : Row (w1.setCell ⟨w.heap.size, 0, none⟩ (.int .i64 ((a : Int) + 1))) w.heap.size 5 (fun i => if i = 0 then .int .i64 ((a : Int) + 1) else if i = 1 then .int .i64 acc else if i = 2 then .slice v.a1 8 v.c1 else if i = 3 then .slice v.a2 nt v.c2 else .bool d) := (set5 S0.out).1 _
  have T1 : Row (w1.setCell ⟨w.heap.size, 0, none⟩ (.int .i64 ((a : Int) + 1))) (w.heap.size + 1) 5 (fun i => if i = 0 then .int .i64 0 else if i = 1 then .int .i64 0 else if i = 2 then .slice none 0 0 else if i = 3 then .slice none 0 0 else .bool false) := S1.out.mod mz (by omega)
  have TM : MG X (w1.setCell ⟨w.heap.size, 0, none⟩ (.int .i64 ((a : Int) + 1))) v ⟨(a : Int), acc, 8, c, nt, t, d⟩ := SM.out.mod mz (fun b hb e => by have := HXX.out b hb; omega)
  have TMM : Mod X w (w1.setCell ⟨w.heap.size, 0, none⟩ (.int .i64 ((a : Int) + 1))) := Mod.old (SB.out.mod X) mz (fun x hx hl => by omega)
  have hs2 := mz.size
  clear mz SM SB S0 S1 S3 p0 p1 p2 p3 p4 t0 t1 t2 t3 t4 s0 s1 s2 e0 e1 e2 e3 e4 f0 f1 f2 f3 f4
  generalize (w1.setCell ⟨w.heap.size, 0, none⟩ (.int .i64 ((a : Int) + 1))) = w2 at *
  obtain ⟨X1, X2, dd1, dd2, hc, ht0⟩ := TM.ex
  have ht : BufI X2 w2 (.slice v.a2 nt v.c2) nt t := ht0
  clear ht0
  have hA : Blw w2 (w2.alloc (.cells #[.int .i64 acc] 3)) := (Blw.refl _).alloc _
  obtain ⟨a', cap', w3, hrun, hbuf, hmod⟩ := BufI.append (Buf.blw ht hA) 1 (one_ints w2 acc) (by show nt + 1 ≤ _; omega) 26
  have hown : ∀ b, (Value.slice v.a2 nt v.c2).ownBlock = some b → X2 b := ht.2
  have hs3 := hmod.size
  rw [World.size_alloc] at hs3
  have HRN : Hid _ := hrun
  have nz : ∀ b, X2 b → b < w.heap.size := fun b hb => HXX.out b (dd2 b hb)
  have U0 : Row w3 w.heap.size 5 (fun i => if i = 0 then .int .i64 ((a : Int) + 1) else if i = 1 then .int .i64 acc else if i = 2 then .slice v.a1 8 v.c1 else if i = 3 then .slice v.a2 nt v.c2 else .bool d) := (T0.blw hA).mod hmod (fun e => by have := nz _ (hown _ e); omega)
  have U1 : Row w3 (w.heap.size + 1) 5 (fun i => if i = 0 then .int .i64 0 else if i = 1 then .int .i64 0 else if i = 2 then .slice none 0 0 else if i = 3 then .slice none 0 0 else .bool false) := (T1.blw hA).mod hmod (fun e => by have := nz _ (hown _ e); omega)
  have UM : Mod X w w3 := Mod.old (Mod.old TMM (hA.mod (fun _ => False)) (fun x hx => hx.elim)) hmod (fun x hx hl => dd2 _ (hown _ hx))
  have UG : MG (fun b => X b ∨ (w2.heap.size ≤ b ∧ b < w3.heap.size)) w3 ⟨v.a1, a', v.c1, cap'⟩ ⟨(a : Int) + 1, acc, 8, c, nt + 1, updI t nt acc, d⟩ := ⟨X1, fun b => X2 b ∨ (w2.heap.size ≤ b ∧ b < w3.heap.size), fun b hb => ⟨Or.inl (dd1 b hb).1, fun hh => by
      rcases hh with hh | hh
      · exact (dd1 b hb).2 hh
      · have := HXX.out b (dd1 b hb).1; omega⟩, fun b hb => hb.imp (dd2 b) id, (hc.blw hA).mod' hmod (fun b hb e => (dd1 b hb).2 (hown _ e)), (Buf.congr hbuf (fun i hi => by
      show Value.int .i64 (icat nt t (fun _ => acc) i) = Value.int .i64 (updI t nt acc i)
      unfold icat updI
      rcases Nat.lt_trichotomy i nt with e | e | e
      · rw [if_pos e, if_neg (by omega)]
      · rw [if_neg (by omega), if_pos e]
      · exfalso; have : i < (nt + 1) * 1 := hi; omega)).mono (fun b hb => by
      rcases hb with ⟨hb | hb, hb2⟩
      · exact Or.inl hb
      · rw [World.size_alloc] at hb
        right; exact ⟨by omega, hb2⟩)⟩
  obtain ⟨p0, p1, p2, p3, p4⟩ := get5 T0
  obtain ⟨r0, r1, r2, r3, r4⟩ := get5 (T0.blw hA)
  obtain ⟨s0, s1, s2, s3, s4⟩ := get5 U0
  obtain ⟨t0, t1, t2, t3, t4⟩ := get5 U1
  have e0 := U0.frozen 0; have e1 := U0.frozen 1; have e2 := U0.frozen 2; have e3 := U0.frozen 3; have e4 := U0.frozen 4
  have f0 := U1.frozen 0; have f1 := U1.frozen 1; have f2 := U1.frozen 2; have f3 := U1.frozen 3; have f4 := U1.frozen 4
  have mz3 : Mod (fun x => x = w.heap.size) w3 (w3.setCell ⟨w.heap.size, 3, none⟩ (.slice a' (nt + 1) cap')) := Mod.setCell (X := fun x => x = w.heap.size) _ (p := ⟨w.heap.size, 3, none⟩) rfl _
  have FF : Hid (_ ∧ _ ∧ _) := fin_sets (v := (⟨v.a1, a', v.c1, cap'⟩ : GV)) (D := ⟨(a : Int) + 1, acc, 8, c, nt + 1, updI t nt acc, d⟩) (Z := X) (w := w) (Wm := (w3.setCell ⟨w.heap.size, 3, none⟩ (.slice a' (nt + 1) cap'))) (z := w.heap.size + 1) (.int .i64 ((a : Int) + 1)) (.int .i64 acc) (.slice v.a1 8 v.c1) (.slice a' (nt + 1) cap') (.bool d) (UG.mod mz3 (fun b hb e => by have := fun hx => HXX.out b hx; rcases hb with hb | hb; (have := this hb; omega); omega)) (fun hx => by have := fun hx => HXX.out (w.heap.size + 1) hx; rcases hx with hx | hx; (have := this hx; omega); omega) (Mod.old UM mz3 (fun x hx hl => by omega)) (by omega)
  have HS : Hid (w.heap.size ≤ w2.heap.size ∧ w3.heap.size ≤ (w3.setCell ⟨w.heap.size, 3, none⟩ (.slice a' (nt + 1) cap')).heap.size) := ⟨by omega, mz3.size⟩
  clear d20 hrun hbuf hmod hA hown nz U0 U1 UM UG T0 T1 TM TMM mz3 HXX hs2 hs3 hc ht dd1 dd2
  go_wp2_with (first | (at_builtin; refine wpList_app (.tmp 49) (.tmp 52) 26 (by rfl) ?_; refine ⟨_, _, HRN.out, ?_⟩) | fail)
  refine bodyPost_ret (v := GV.val (⟨v.a1, a', v.c1, cap'⟩ : GV) ⟨(a : Int) + 1, acc, 8, c, nt + 1, updI t nt acc, d⟩) (by simp [results, Try.results126, go_sem, t0, t1, t2, t3, t4]) rfl ?_
  have h9 := HS.out
  have h8 := FF.out.2.2
  exact ⟨_, rfl, FF.out.1.mono (fun b hb => hb.imp id (fun hb => ⟨by omega, by omega⟩)), FF.out.2.1⟩
end Go.Proofs.Ytbpdopcdhnemfaa
/- Guests: the model's step, whole. -/
namespace Go.Proofs.Ytbpdopcdhnemfaa
open Go.RowKit
set_option linter.unusedSimpArgs false
set_option linter.unusedVariables false
theorem l9Step_any (ao : Option Addr) (cp n : Nat) (F : Nat → Nat → Int) (v : GV) (D : GD) (X Y : Nat → Prop) (w : World) (hp : progOK n F) (hg : D.Good) (hF : KAt 3 Y w ao n F) (hX : ∀ b, X b → b < w.heap.size) (h : MG X w v D) :
    Calls Try.prog 126 #[.slice ao n cp, v.val D] w fun e w' => ∃ v' : GV, e = .returned (v'.val (stepG n F D)) ∧ MG (fun b => X b ∨ (w.heap.size ≤ b ∧ b < w'.heap.size)) w' v' (stepG n F D) ∧ Mod X w w' := by
  obtain ⟨at_, acc, nc, c, nt, t, d⟩ := D
  have hnc : nc = 8 := hg.nc
  subst hnc
  have h0 : 0 ≤ at_ := hg.a0
  obtain ⟨a, rfl⟩ : ∃ a : Nat, at_ = a := ⟨at_.toNat, by omega⟩
  have ha16 : a ≤ 16 := by have : (a : Int) ≤ 16 := hg.a1; omega
  unfold stepG
  by_cases hs : stopsAt n F ⟨(a : Int), acc, 8, c, nt, t, d⟩
  · rw [if_pos hs]
    dsimp only
    by_cases h1 : n ≤ a
    · exact l9Step_end ao cp n F v a acc c nt t d X Y w hp.n2 ha16 hg.acc hg.nt h1 hF hX h
    · rcases hs with h2 | h2 | ⟨h2, h3⟩
      · exfalso; have h2' : (n : Int) ≤ (a : Int) := h2; omega
      · have h2' : F a 0 = 7 := by simpa using h2
        exact l9Step_halt ao cp n F v a acc c nt t d X Y w hp.n2 ha16 hg.acc hg.nt (by omega) h2' hF hX h
      · have h2' : F a 0 = 6 := by simpa using h2
        exact l9Step_full ao cp n F v a acc c nt t d X Y w hp.n2 ha16 hg.acc hg.nt (by omega) h2' h3 hF hX h
  · rw [if_neg hs]
    have n1 : a < n := by
      have : ¬ (n : Int) ≤ (a : Int) := fun e => hs (Or.inl e)
      omega
    have n7 : ¬ F a 0 = 7 := fun e => hs (Or.inr (Or.inl (by simpa using e)))
    have n6 : F a 0 = 6 → ¬ nt = 20 := fun e e' => hs (Or.inr (Or.inr ⟨by simpa using e, e'⟩))
    have hi := hp.i a n1
    simp only [Int.toNat_natCast]
    unfold doG
    by_cases k1 : F a 0 = 1
    · rw [if_pos k1]
      exact l9Step_set ao cp n F v a acc c nt t d X Y w hp.n2 ha16 hg.acc hg.nt n1 k1 hF hX h
    · rw [if_neg k1]
      by_cases k2 : F a 0 = 2
      · rw [if_pos k2]
        exact l9Step_add ao cp n F v a acc c nt t d X Y w hp.n2 ha16 hg.acc hg.nt n1 k2 (by rcases hi with q | q | q | q <;> first | exact q.2.2 | (exfalso; omega)) hF hX h
      · rw [if_neg k2]
        by_cases k3 : F a 0 = 3
        · rw [if_pos k3]
          have hr : 0 ≤ F a 1 ∧ F a 1 ≤ 7 := by rcases hi with q | q | q | q <;> first | exact q.2.1 | (exfalso; omega)
          exact l9Step_load ao cp n F v a acc c nt t d X Y w hp.n2 ha16 hg.acc hg.nt (F a 1).toNat (by omega) n1 k3 (by omega) hF hX h
        · rw [if_neg k3]
          by_cases k4 : F a 0 = 4
          · rw [if_pos k4]
            have hr : 0 ≤ F a 1 ∧ F a 1 ≤ 7 := by rcases hi with q | q | q | q <;> first | exact q.2.1 | (exfalso; omega)
            exact l9Step_store ao cp n F v a acc c nt t d X Y w hp.n2 ha16 hg.acc hg.nt (F a 1).toNat (by omega) n1 k4 (by omega) hF hX h
          · rw [if_neg k4]
            by_cases k5 : F a 0 = 5
            · rw [if_pos k5]
              by_cases h0' : acc = 0
              · dsimp only; rw [if_pos h0']
                exact l9Step_stay ao cp n F v a acc c nt t d X Y w hp.n2 ha16 hg.acc hg.nt n1 k5 h0' hF hX h
              · dsimp only; rw [if_neg h0']
                exact l9Step_jump ao cp n F v a acc c nt t d X Y w hp.n2 ha16 hg.acc hg.nt n1 k5 h0' hF hX h
            · rw [if_neg k5]
              have k6 : F a 0 = 6 := by rcases hi with q | q | q | q <;> omega
              exact l9Step_tell ao cp n F v a acc c nt t d X Y w hp.n2 ha16 hg.acc hg.nt n1 k6 (n6 k6) hF hX h
end Go.Proofs.Ytbpdopcdhnemfaa
/- The model's StepGuest, RunGuest, TouchedBy. -/
namespace Go.Proofs.Ytbpdopcdhnemfaa
open Go.RowKit
set_option linter.unusedSimpArgs false
set_option linter.unusedVariables false
set_option maxRecDepth 10000 in
set_option maxHeartbeats 3200000 in
theorem specStep_any (ao : Option Addr) (cp n : Nat) (F : Nat → Nat → Int) (v : GV) (D : GD) (X Y : Nat → Prop) (w : World) (hF : KAt 3 X w ao n F) (h : GAt Y w v D) :
    Calls Try.prog 51 #[.slice ao n cp, v.val D] w fun e w' => ∃ (u : GV) (R : GD) (r : Bool), e = .returned (.tuple #[u.val R, .bool r]) ∧ stOut n F D R r ∧ R.small ∧ GOwn (fun x => w.heap.size ≤ x ∧ x < w'.heap.size) w' u R ∧ Blw w w' := by
  have HB : Hid (Blw w ((w.alloc (.cells #[.int .i64 D.at_, .int .i64 D.acc, .slice v.a1 D.nc v.c1, .slice v.a2 D.nt v.c2, .bool D.d] 61)).alloc (.cells #[.int .i64 0, .int .i64 0, .slice none 0 0, .slice none 0 0, .bool false] 61))) := ((Blw.refl _).alloc _).alloc _
  have R0 : Hid (Row ((w.alloc (.cells #[.int .i64 D.at_, .int .i64 D.acc, .slice v.a1 D.nc v.c1, .slice v.a2 D.nt v.c2, .bool D.d] 61)).alloc (.cells #[.int .i64 0, .int .i64 0, .slice none 0 0, .slice none 0 0, .bool false] 61)) w.heap.size 5 (gb v D)) := (row5 w _ _ _ _ _ 61).blw ((Blw.refl _).alloc _)
  have r1 := row5 (w.alloc (.cells #[.int .i64 D.at_, .int .i64 D.acc, .slice v.a1 D.nc v.c1, .slice v.a2 D.nt v.c2, .bool D.d] 61)) (.int .i64 0) (.int .i64 0) (.slice none 0 0) (.slice none 0 0) (.bool false) 61
  rw [World.size_alloc] at r1
  have HZ : Hid (Row ((w.alloc (.cells #[.int .i64 D.at_, .int .i64 D.acc, .slice v.a1 D.nc v.c1, .slice v.a2 D.nt v.c2, .bool D.d] 61)).alloc (.cells #[.int .i64 0, .int .i64 0, .slice none 0 0, .slice none 0 0, .bool false] 61)) (w.heap.size + 1) 5 (fun i => if i = 0 then .int .i64 0 else if i = 1 then .int .i64 0 else if i = 2 then .slice none 0 0 else if i = 3 then .slice none 0 0 else .bool false)) := r1
  have HS1 : Hid (((w.alloc (.cells #[.int .i64 D.at_, .int .i64 D.acc, .slice v.a1 D.nc v.c1, .slice v.a2 D.nt v.c2, .bool D.d] 61)).alloc (.cells #[.int .i64 0, .int .i64 0, .slice none 0 0, .slice none 0 0, .bool false] 61)).heap.size = w.heap.size + 1 + 1) := by show _ = _; simp
  have HW : Hid (GAt Y w v D ∧ KAt 3 X w ao n F) := ⟨h, hF⟩
  clear h hF r1
  go_enter Try.func51, Try.ntmps51
  go_upto_region 1 with fail
  generalize ((w.alloc (.cells #[.int .i64 D.at_, .int .i64 D.acc, .slice v.a1 D.nc v.c1, .slice v.a2 D.nt v.c2, .bool D.d] 61)).alloc (.cells #[.int .i64 0, .int .i64 0, .slice none 0 0, .slice none 0 0, .bool false] 61)) = w1 at *
  go_wp2_with fail
  refine (specGoodP_any ao cp n F X _ (HW.out.2.blw HB.out)).mono ?_
  rintro e w2 ⟨r, rfl, hr, hb⟩
  have H1 : Hid (r = true ↔ progOK n F) := hr
  have HS2 : Hid (w.heap.size + 1 + 1 ≤ w2.heap.size) := by have := hb.size; have := HS1.out; show _ ≤ _; omega
  replace R0 : Hid (Row w2 w.heap.size 5 (gb v D)) := R0.out.blw hb
  replace HZ : Hid (Row w2 (w.heap.size + 1) 5 (fun i => if i = 0 then .int .i64 0 else if i = 1 then .int .i64 0 else if i = 2 then .slice none 0 0 else if i = 3 then .slice none 0 0 else .bool false)) := HZ.out.blw hb
  replace HB : Hid (Blw w w2) := HB.out.trans hb
  clear hr hb HS1
  cases r
  · have HN : Hid (¬ (progOK n F ∧ D.Good ∧ D.d = false)) := fun g => by have := H1.out.2 g.1; cases this
    clear H1
    obtain ⟨t0, t1, t2, t3, t4⟩ := get5 HZ.out
    have f0 := HZ.out.frozen 0; have f1 := HZ.out.frozen 1; have f2 := HZ.out.frozen 2; have f3 := HZ.out.frozen 3; have f4 := HZ.out.frozen 4
    have m1 := set5_modG w2 (w.heap.size + 1) (.int .i64 0) (.int .i64 0) (.slice none 0 0) (.slice none 0 0) (.bool false) (X := fun x => x = w.heap.size + 1) rfl
    have HBF : Hid _ := Mod.blw HB.out m1 (fun i hi => by omega)
    clear m1 HZ HB
    go_wp2
    refine bodyPost_ret (v := .tuple #[GV.val GV.zero GD.zero, .bool false]) (by simp [results, Try.results51, go_sem, t0, t1, t2, t3, t4]) rfl ⟨_, _, _, rfl, Or.inr ⟨HN.out, rfl, rfl⟩, GD.zero_small, GOwn.zero _ _, HBF.out⟩
  have HP : Hid (progOK n F) := H1.out.1 (by first | rfl | trivial)
  clear H1
  obtain ⟨p0, p1, p2, p3, p4⟩ := get5 R0.out
  go_wp2_with fail
  clear p0 p1 p2 p3 p4
  refine (specGoodG_any v D Y _ (HW.out.1.blw HB.out)).mono ?_
  rintro e w3 ⟨r, rfl, hr, hb⟩
  have H1 : Hid (r = true ↔ D.Good) := hr
  have HS3 : Hid (w.heap.size + 1 + 1 ≤ w3.heap.size) := Nat.le_trans HS2.out hb.size
  replace R0 : Hid (Row w3 w.heap.size 5 (gb v D)) := R0.out.blw hb
  replace HZ : Hid (Row w3 (w.heap.size + 1) 5 (fun i => if i = 0 then .int .i64 0 else if i = 1 then .int .i64 0 else if i = 2 then .slice none 0 0 else if i = 3 then .slice none 0 0 else .bool false)) := HZ.out.blw hb
  replace HB : Hid (Blw w w3) := HB.out.trans hb
  clear hr hb HS2
  cases r
  · have HN : Hid (¬ (progOK n F ∧ D.Good ∧ D.d = false)) := fun g => by have := H1.out.2 g.2.1; cases this
    clear H1
    obtain ⟨t0, t1, t2, t3, t4⟩ := get5 HZ.out
    have f0 := HZ.out.frozen 0; have f1 := HZ.out.frozen 1; have f2 := HZ.out.frozen 2; have f3 := HZ.out.frozen 3; have f4 := HZ.out.frozen 4
    have m1 := set5_modG w3 (w.heap.size + 1) (.int .i64 0) (.int .i64 0) (.slice none 0 0) (.slice none 0 0) (.bool false) (X := fun x => x = w.heap.size + 1) rfl
    have HBF : Hid _ := Mod.blw HB.out m1 (fun i hi => by omega)
    clear m1 HZ HB
    go_wp2
    refine bodyPost_ret (v := .tuple #[GV.val GV.zero GD.zero, .bool false]) (by simp [results, Try.results51, go_sem, t0, t1, t2, t3, t4]) rfl ⟨_, _, _, rfl, Or.inr ⟨HN.out, rfl, rfl⟩, GD.zero_small, GOwn.zero _ _, HBF.out⟩
  have HG : Hid D.Good := H1.out.1 (by first | rfl | trivial)
  clear H1
  obtain ⟨p0, p1, p2, p3, p4⟩ := get5 R0.out
  by_cases hd : D.d = true
  · have HN : Hid (¬ (progOK n F ∧ D.Good ∧ D.d = false)) := fun g => by rw [hd] at g; exact absurd g.2.2 (by decide)
    rw [hd] at p4
    clear hd
    obtain ⟨t0, t1, t2, t3, t4⟩ := get5 HZ.out
    have f0 := HZ.out.frozen 0; have f1 := HZ.out.frozen 1; have f2 := HZ.out.frozen 2; have f3 := HZ.out.frozen 3; have f4 := HZ.out.frozen 4
    have m1 := set5_modG w3 (w.heap.size + 1) (.int .i64 0) (.int .i64 0) (.slice none 0 0) (.slice none 0 0) (.bool false) (X := fun x => x = w.heap.size + 1) rfl
    have HBF : Hid _ := Mod.blw HB.out m1 (fun i hi => by omega)
    clear m1 HZ HB
    go_wp2
    refine bodyPost_ret (v := .tuple #[GV.val GV.zero GD.zero, .bool false]) (by simp [results, Try.results51, go_sem, t0, t1, t2, t3, t4]) rfl ⟨_, _, _, rfl, Or.inr ⟨HN.out, rfl, rfl⟩, GD.zero_small, GOwn.zero _ _, HBF.out⟩
  have hd' : D.d = false := by cases h9 : D.d; rfl; exact absurd h9 hd
  have HOK : Hid (progOK n F ∧ D.Good ∧ D.d = false) := ⟨HP.out, HG.out, hd'⟩
  have HDD : Hid (D.d = false) := hd'
  have p4' := p4
  rw [hd'] at p4'
  clear hd hd' p4
  go_upto_region 3 with fail
  clear p0 p1 p2 p3 p4'
  obtain ⟨p0, p1, p2, p3, p4⟩ := get5 R0.out
  go_wp2_with fail
  clear p0 p1 p2 p3 p4
  have hnc : D.nc ≤ 1048576 := by have := HG.out.nc; omega
  have hnt : D.nt ≤ 1048576 := by have := HG.out.nt; omega
  refine (l9Own_any v D Y _ hnc hnt (HW.out.1.blw HB.out)).mono ?_
  rintro e w4 ⟨v1, rfl, own1, hb⟩
  have HKA : Hid (KAt 3 X w4 ao n F) := (HW.out.2.blw HB.out).blw hb
  have HO1 : Hid (MG (fun x => w3.heap.size ≤ x ∧ x < w4.heap.size) w4 v1 D) := own1
  have HS4 : Hid (w3.heap.size ≤ w4.heap.size) := hb.size
  replace R0 : Hid (Row w4 w.heap.size 5 (gb v D)) := R0.out.blw hb
  replace HZ : Hid (Row w4 (w.heap.size + 1) 5 (fun i => if i = 0 then .int .i64 0 else if i = 1 then .int .i64 0 else if i = 2 then .slice none 0 0 else if i = 3 then .slice none 0 0 else .bool false)) := HZ.out.blw hb
  replace HB : Hid (Blw w w4) := HB.out.trans hb
  clear own1 hb
  go_wp2_with fail
  refine (l9Step_any ao cp n F v1 D _ X _ HP.out HG.out HKA.out (fun b hb => hb.2) HO1.out).mono ?_
  rintro e w5 ⟨v2, rfl, own2, hm5⟩
  have hs3 := HS3.out
  have hs5 := hm5.size
  have HG2 : Hid ((stepG n F D).Good) := stepG_good HP.out HG.out
  have HO2 : Hid (GAt (fun b => (w3.heap.size ≤ b ∧ b < w4.heap.size) ∨ (w4.heap.size ≤ b ∧ b < w5.heap.size)) w5 v2 (stepG n F D)) := (own2.own (by have := HG2.out.nt; omega)).at
  replace HZ : Hid (Row w5 (w.heap.size + 1) 5 (fun i => if i = 0 then .int .i64 0 else if i = 1 then .int .i64 0 else if i = 2 then .slice none 0 0 else if i = 3 then .slice none 0 0 else .bool false)) := HZ.out.mod hm5 (fun e => by omega)
  replace HB : Hid (Blw w w5) := Mod.blw HB.out hm5 (fun i hi => by omega)
  have HS5 : Hid (w.heap.size + 1 + 1 ≤ w5.heap.size) := by have := HS4.out; show _ ≤ _; omega
  clear own2 hm5 hs3 hs5 HO1 HKA R0 HS4 HS3 HW
  go_wp2_with fail
  refine (l9Own_any v2 (stepG n F D) _ _ (by have := HG2.out.nc; omega) (by have := HG2.out.nt; omega) HO2.out).mono ?_
  rintro e w6 ⟨u', rfl, own, hb4⟩
  have hs5 := HS5.out
  have hs4 := hb4.size
  have hzz := HZ.out.blw hb4
  obtain ⟨t0, t1, t2, t3, t4⟩ := get5 hzz
  have f0 := hzz.frozen 0; have f1 := hzz.frozen 1; have f2 := hzz.frozen 2; have f3 := hzz.frozen 3; have f4 := hzz.frozen 4
  generalize hR : stepG n F D = R at *
  have HRE : Hid (stepG n F D = R) := hR
  clear hR
  have m1 := set5_modG w6 (w.heap.size + 1) (.int .i64 R.at_) (.int .i64 R.acc) (.slice u'.a1 R.nc u'.c1) (.slice u'.a2 R.nt u'.c2) (.bool R.d) (X := fun x => x = w.heap.size + 1) rfl
  have m2 := m1.size
  have HF : Hid (_ ∧ _) := And.intro (((own.own (by have := HG2.out.nt; omega)).mod m1 (fun b hb => by omega)).mono (Y := fun x => w.heap.size ≤ x ∧ x < _) (fun b hb => ⟨by omega, Nat.lt_of_lt_of_le hb.2 m2⟩)) (Mod.blw (HB.out.trans hb4) m1 (fun i hi => by omega))
  clear m1 m2 hzz own hb4 HZ HB HO2 hs5 hs4 HS5
  go_wp2
  refine bodyPost_ret (v := .tuple #[GV.val u' R, .bool true]) (by simp [results, Try.results51, go_sem, t0, t1, t2, t3, t4]) rfl ⟨_, R, _, rfl, Or.inl ⟨HOK.out, HRE.out.symm, rfl⟩, HG2.out.small, HF.out.1, HF.out.2⟩
end Go.Proofs.Ytbpdopcdhnemfaa
/- The model's runs. -/
namespace Go.Proofs.Ytbpdopcdhnemfaa
open Go.RowKit
set_option linter.unusedSimpArgs false
set_option linter.unusedVariables false
/-- What stands in the model's run behind j steps. -/
structure RInv (n : Nat) (F : Nat → Nat → Int) (D : GD) (k : Nat) (w : World) (z9 : Nat) (wr : World) (j m : Nat) (E : GD) (vv : GV) (tv : Value) (f : Nat → Int) (X1 T1 : Nat → Prop) : Prop where
  hE : E.Good
  row : Row wr z9 5 (gb vv E)
  mg : MG X1 wr vv E
  tb : BufI T1 wr tv m f
  hX : ∀ b, X1 b → w.heap.size ≤ b ∧ b < wr.heap.size ∧ b ≠ z9 ∧ ¬ T1 b
  hT : ∀ b, T1 b → w.heap.size ≤ b ∧ b < wr.heap.size ∧ b ≠ z9
  blw : Blw w wr
  ri : rising m f
  mj : m ≤ j
  g1 : runG n F (k - j) E = runG n F k D
  g2 : manyG n F (k - j) E + j = manyG n F k D
  g3 : ∀ x, (isIn m f x ∨ ∃ i : Nat, x = i ∧ tchG n F (k - j) E i) ↔ ∃ i : Nat, x = i ∧ tchG n F k D i
/-- A step behind it, with the touched cell put or not. -/
theorem RInv.next {n : Nat} {F : Nat → Nat → Int} {D : GD} {k : Nat} {w : World} {z9 : Nat} {wr : World} {j m : Nat} {E : GD} {vv : GV} {tv : Value} {f : Nat → Int} {X1 T1 : Nat → Prop} (I : RInv n F D k w z9 wr j m E vv tv f X1 T1) (hp : progOK n F) (hlt : j < k) (hd : E.d = false)
    {wp : World} {tv' : Value} {m' : Nat} {f' : Nat → Int} {T2 : Nat → Prop} (hb : Blw wr wp) (hT2 : ∀ b, T2 b → (T1 b ∨ wr.heap.size ≤ b) ∧ b < wp.heap.size) (htb : BufI T2 wp tv' m' f') (hri : rising m' f') (hm : m' ≤ m + 1) (hmem : ∀ x, isIn m' f' x ↔ isIn m f x ∨ ∃ i : Nat, x = i ∧ storesG n F E i)
    {ws : World} {v2 : GV} (hmg : MG (fun b => X1 b ∨ (wp.heap.size ≤ b ∧ b < ws.heap.size)) ws v2 (stepG n F E)) (hmod : Mod X1 wp ws) (u0 u1 u2 u3 u4 : Value) (hz : Row (((((ws.setCell ⟨z9, 0, none⟩ u0).setCell ⟨z9, 1, none⟩ u1).setCell ⟨z9, 2, none⟩ u2).setCell ⟨z9, 3, none⟩ u3).setCell ⟨z9, 4, none⟩ u4) z9 5 (gb v2 (stepG n F E))) (hz9 : w.heap.size ≤ z9) :
    RInv n F D k w z9 (((((ws.setCell ⟨z9, 0, none⟩ u0).setCell ⟨z9, 1, none⟩ u1).setCell ⟨z9, 2, none⟩ u2).setCell ⟨z9, 3, none⟩ u3).setCell ⟨z9, 4, none⟩ u4) (j + 1) m' (stepG n F E) v2 tv' f' (fun b => X1 b ∨ (wp.heap.size ≤ b ∧ b < ws.heap.size)) T2 := by
  have m1 := set5_modG ws z9 u0 u1 u2 u3 u4 (X := fun x => x = z9) rfl
  have s1 := hb.size
  have s2 := hmod.size
  have s3 := m1.size
  have sw := I.blw.size
  have hzl := I.row.lt
  refine ⟨stepG_good hp I.hE, hz, hmg.mod m1 (fun b hb e => ?_), (Buf.mod (Buf.mod htb hmod (fun b h1 h2 => ?_)) m1 (fun b h1 e => ?_)), fun b hb => ?_, fun b hb => ?_, Mod.blw (Mod.blw (I.blw.trans hb) hmod (fun b hb => (I.hX b hb).1)) m1 (fun b e => by omega), hri, by have := I.mj; omega, ?_, ?_, fun x => ?_⟩
  · rcases hb with hb | hb
    · exact (I.hX b hb).2.2.1 e
    · omega
  · rcases (hT2 b h1).1 with h3 | h3
    · exact (I.hX b h2).2.2.2 h3
    · have := (I.hX b h2).2.1; omega
  · rcases (hT2 b h1).1 with h3 | h3
    · exact (I.hT b h3).2.2 e
    · omega
  · rcases hb with hb | hb
    · have hx := I.hX b hb
      refine ⟨hx.1, by omega, hx.2.2.1, fun h2 => ?_⟩
      rcases (hT2 b h2).1 with h3 | h3
      · exact hx.2.2.2 h3
      · omega
    · refine ⟨by omega, by omega, by omega, fun h2 => ?_⟩
      have := (hT2 b h2).2; omega
  · have h2 := (hT2 b hb).2
    rcases (hT2 b hb).1 with h3 | h3
    · have hx := I.hT b h3
      exact ⟨hx.1, by omega, hx.2.2⟩
    · exact ⟨by omega, by omega, by omega⟩
  · have g1 := I.g1
    rw [show k - j = (k - (j + 1)) + 1 by omega, (runG_next hd _).1] at g1
    exact g1
  · have g2 := I.g2
    rw [show k - j = (k - (j + 1)) + 1 by omega, (runG_next hd _).2] at g2
    omega
  · rw [← I.g3 x, hmem x, show k - j = (k - (j + 1)) + 1 by omega]
    constructor
    · rintro ((h | ⟨i, e, h⟩) | ⟨i, e, h⟩)
      · exact Or.inl h
      · exact Or.inr ⟨i, e, hd, Or.inl h⟩
      · exact Or.inr ⟨i, e, hd, Or.inr h⟩
    · rintro (h | ⟨i, e, -, h | h⟩)
      · exact Or.inl (Or.inl h)
      · exact Or.inl (Or.inr ⟨i, e, h⟩)
      · exact Or.inr ⟨i, e, h⟩
theorem RInv.fin {n : Nat} {F : Nat → Nat → Int} {D : GD} {k : Nat} {w : World} {z9 : Nat} {wr : World} {j m : Nat} {E : GD} {vv : GV} {tv : Value} {f : Nat → Int} {X1 T1 : Nat → Prop} (I : RInv n F D k w z9 wr j m E vv tv f X1 T1) (hh : k ≤ j ∨ E.d = true) :
    E = runG n F k D ∧ (j : Int) = (manyG n F k D : Int) ∧ ∀ x, isIn m f x ↔ ∃ i : Nat, x = i ∧ tchG n F k D i := by
  have e : runG n F (k - j) E = E ∧ manyG n F (k - j) E = 0 ∧ ∀ i, ¬ tchG n F (k - j) E i := by
    rcases hh with hh | hh
    · rw [show k - j = 0 by omega]; exact ⟨rfl, rfl, fun i => id⟩
    · exact ⟨(runG_done hh _).1, (runG_done hh _).2, fun i => tchG_done hh _ i⟩
  have g1 := I.g1
  have g2 := I.g2
  rw [e.1] at g1
  rw [e.2.1] at g2
  refine ⟨g1, by omega, fun x => ?_⟩
  rw [← I.g3 x]
  exact ⟨Or.inl, fun q => q.elim id (fun ⟨i, _, h⟩ => absurd h (e.2.2 i))⟩
end Go.Proofs.Ytbpdopcdhnemfaa
/- The model's runs, walked. -/
namespace Go.Proofs.Ytbpdopcdhnemfaa
open Go.RowKit
set_option linter.unusedSimpArgs false
set_option linter.unusedVariables false
theorem stores_at {n a : Nat} {F : Nat → Nat → Int} {E : GD} (hp : progOK n F) (ha : E.at_ = (a : Int)) (hlt : a < n) (h4 : F a 0 = 4) (x : Int) : x = F a 1 ↔ ∃ i : Nat, x = i ∧ storesG n F E i := by
  have hi := hp.i a hlt
  have hq : 0 ≤ F a 1 := by rcases hi with q | q | q | q <;> omega
  unfold storesG
  rw [ha, Int.toNat_natCast]
  constructor
  · intro e
    exact ⟨(F a 1).toNat, by omega, by omega, h4, by omega⟩
  · rintro ⟨i, e, -, -, h⟩
    omega
theorem stores_no {n a : Nat} {F : Nat → Nat → Int} {E : GD} (ha : E.at_ = (a : Int)) (h : ¬ (a < n ∧ F a 0 = 4)) (x : Int) : ¬ ∃ i : Nat, x = i ∧ storesG n F E i := by
  unfold storesG
  rw [ha, Int.toNat_natCast]
  rintro ⟨i, -, h1, h2, -⟩
  exact h ⟨by omega, h2⟩
theorem val_done {vv : GV} {E : GD} (h : E.d = true) : vv.val E = .agg #[.int .i64 E.at_, .int .i64 E.acc, .slice vv.a1 E.nc vv.c1, .slice vv.a2 E.nt vv.c2, .bool true] := by
  rw [← h]
theorem RInv.own {n : Nat} {F : Nat → Nat → Int} {D : GD} {k : Nat} {w : World} {z9 : Nat} {wr : World} {j m : Nat} {E : GD} {vv : GV} {tv : Value} {f : Nat → Int} {X1 T1 : Nat → Prop} (I : RInv n F D k w z9 wr j m E vv tv f X1 T1) : GAt X1 wr vv E := (I.mg.own (by have := I.hE.nt; omega)).at
set_option maxRecDepth 10000 in
set_option maxHeartbeats 9600000 in
theorem l9Run_any (ao : Option Addr) (cp n : Nat) (F : Nat → Nat → Int) (v : GV) (D : GD) (k : Nat) (X Y : Nat → Prop) (w : World) (hk : k ≤ 60) (hp : progOK n F) (hg : D.Good) (hF : KAt 3 X w ao n F) (h : GAt Y w v D) :
    Calls Try.prog 117 #[.slice ao n cp, v.val D, .int .i64 (k : Int)] w fun e w' => ∃ (u : GV) (a : Option Addr) (m c : Nat) (f : Nat → Int), e = .returned (.tuple #[u.val (runG n F k D), .int .i64 (manyG n F k D : Int), .slice a m c]) ∧ GOwn (fun x => w.heap.size ≤ x ∧ x < w'.heap.size) w' u (runG n F k D) ∧ IntsOwn (fun x => w.heap.size ≤ x ∧ x < w'.heap.size) w' a m f ∧ m ≤ 60 ∧ rising m f ∧ (∀ x, isIn m f x ↔ ∃ i : Nat, x = i ∧ tchG n F k D i) ∧ Blw w w' := by
  have HB : Hid (Blw w ((w.alloc (.cells #[.int .i64 D.at_, .int .i64 D.acc, .slice v.a1 D.nc v.c1, .slice v.a2 D.nt v.c2, .bool D.d] 61)).alloc (.cells #[.int .i64 0, .int .i64 0, .slice none 0 0, .slice none 0 0, .bool false] 61))) := ((Blw.refl _).alloc _).alloc _
  have R0 : Hid (Row ((w.alloc (.cells #[.int .i64 D.at_, .int .i64 D.acc, .slice v.a1 D.nc v.c1, .slice v.a2 D.nt v.c2, .bool D.d] 61)).alloc (.cells #[.int .i64 0, .int .i64 0, .slice none 0 0, .slice none 0 0, .bool false] 61)) w.heap.size 5 (gb v D)) := (row5 w _ _ _ _ _ 61).blw ((Blw.refl _).alloc _)
  have r1 := row5 (w.alloc (.cells #[.int .i64 D.at_, .int .i64 D.acc, .slice v.a1 D.nc v.c1, .slice v.a2 D.nt v.c2, .bool D.d] 61)) (.int .i64 0) (.int .i64 0) (.slice none 0 0) (.slice none 0 0) (.bool false) 61
  rw [World.size_alloc] at r1
  have HZ : Hid (Row ((w.alloc (.cells #[.int .i64 D.at_, .int .i64 D.acc, .slice v.a1 D.nc v.c1, .slice v.a2 D.nt v.c2, .bool D.d] 61)).alloc (.cells #[.int .i64 0, .int .i64 0, .slice none 0 0, .slice none 0 0, .bool false] 61)) (w.heap.size + 1) 5 (fun i => if i = 0 then .int .i64 0 else if i = 1 then .int .i64 0 else if i = 2 then .slice none 0 0 else if i = 3 then .slice none 0 0 else .bool false)) := r1
  have HS1 : Hid (((w.alloc (.cells #[.int .i64 D.at_, .int .i64 D.acc, .slice v.a1 D.nc v.c1, .slice v.a2 D.nt v.c2, .bool D.d] 61)).alloc (.cells #[.int .i64 0, .int .i64 0, .slice none 0 0, .slice none 0 0, .bool false] 61)).heap.size = w.heap.size + 1 + 1) := by show _ = _; simp
  have HW : Hid (GAt Y w v D ∧ KAt 3 X w ao n F) := ⟨h, hF⟩
  have HP : Hid (progOK n F) := hp
  have HG : Hid D.Good := hg
  clear h hF r1 hp hg
  go_enter Try.func117, Try.ntmps117
  go_upto_region 1 with fail
  generalize ((w.alloc (.cells #[.int .i64 D.at_, .int .i64 D.acc, .slice v.a1 D.nc v.c1, .slice v.a2 D.nt v.c2, .bool D.d] 61)).alloc (.cells #[.int .i64 0, .int .i64 0, .slice none 0 0, .slice none 0 0, .bool false] 61)) = w1 at *
  replace HS1 : Hid (w1.heap.size = w.heap.size + 1 + 1) := HS1
  have HK1 : Hid (KAt 3 X w1 ao n F) := HW.out.2.blw HB.out
  obtain ⟨p0, p1, p2, p3, p4⟩ := get5 R0.out
  go_wp2_with fail
  clear p0 p1 p2 p3 p4
  refine (l9Own_any v D Y _ (by have := HG.out.nc; omega) (by have := HG.out.nt; omega) (HW.out.1.blw HB.out)).mono ?_
  rintro e w2 ⟨v1, rfl, own1, hb⟩
  have hsz := hb.size
  have r9 := row5 w2 (.int .i64 D.at_) (.int .i64 D.acc) (.slice v1.a1 D.nc v1.c1) (.slice v1.a2 D.nt v1.c2) (.bool D.d) 61
  have hA : Blw w2 (w2.alloc (.cells #[.int .i64 D.at_, .int .i64 D.acc, .slice v1.a1 D.nc v1.c1, .slice v1.a2 D.nt v1.c2, .bool D.d] 61)) := (Blw.refl _).alloc _
  have hsA : (w2.alloc (.cells #[.int .i64 D.at_, .int .i64 D.acc, .slice v1.a1 D.nc v1.c1, .slice v1.a2 D.nt v1.c2, .bool D.d] 61)).heap.size = w2.heap.size + 1 := by simp
  have HI0 : Hid (RInv n F D k w1 w2.heap.size (w2.alloc (.cells #[.int .i64 D.at_, .int .i64 D.acc, .slice v1.a1 D.nc v1.c1, .slice v1.a2 D.nt v1.c2, .bool D.d] 61)) 0 0 D v1 (.slice none 0 0) (fun _ => 0) (fun x => w1.heap.size ≤ x ∧ x < w2.heap.size) (fun _ => False)) := ⟨HG.out, r9, own1.blw hA, Buf.nil _ _ _ _ _, fun b hb => ⟨hb.1, by omega, by omega, id⟩, fun b hb => hb.elim, hb.trans hA, fun i _ _ hi => absurd hi (Nat.not_lt_zero _), by omega, rfl, rfl, fun x => ⟨fun q => q.elim (fun ⟨i, hi, _⟩ => absurd hi (Nat.not_lt_zero _)) id, Or.inr⟩⟩
  have HZ9 : Hid (w1.heap.size ≤ w2.heap.size) := hsz
  clear hsA own1 hb hsz hA r9 HG HW R0
  go_wp2_with fail
  generalize w2.heap.size = z9 at *
  go_loopw [10, 11] (fun nv tq wr => ∃ (j m : Nat) (E : GD) (vv : GV) (tv : Value) (f : Nat → Int) (X1 T1 : Nat → Prop), j ≤ k ∧ nv = .int .i64 j ∧ tq = tv ∧ RInv n F D k w1 z9 wr j m E vv tv f X1 T1) (fun nv _ _ => k - (intOf nv).toNat)
  case atStart => exact ⟨0, 0, D, v1, _, _, _, _, by omega, rfl, rfl, HI0.out⟩
  case round =>
    obtain ⟨j, m, E, vv, tv, f, X1, T1, hj, rfl, hq, i0⟩ := hrel
    have hq' := hq.symm
    clear hq
    subst hq'
    have I : Hid (RInv n F D k w1 z9 wr j m E vv tv f X1 T1) := i0
    clear i0 HI0
    obtain ⟨a, ha⟩ : ∃ a : Nat, E.at_ = a := ⟨E.at_.toNat, by have := I.out.hE.a0; omega⟩
    have HA : Hid (E.at_ = (a : Int)) := ha
    have ha16 : a ≤ 16 := by have := I.out.hE.a1; omega
    have hn16 : n ≤ 16 := HP.out.n2
    have HK : Hid (KAt 3 X wr ao n F) := HK1.out.blw I.out.blw
    obtain ⟨p0, p1, p2, p3, p4⟩ := get5 I.out.row
    by_cases hlt : j < k
    · have hlt' : (j : Int) < k := by omega
      cases hd : E.d
      · have HDD : Hid (E.d = false) := hd
        rw [hd] at p4
        rw [ha] at p0
        clear hd ha p1 p2 p3
        by_cases hla : a < n
        · have hla' : (a : Int) < n := by omega
          obtain ⟨bp, op, hao, -, gg⟩ := HK.out.2 a hla
          have HAO : Hid (ao = some ⟨bp, op, none⟩) := hao
          have g0 := gg 0 (by omega)
          have g1 := gg 1 (by omega)
          rw [Nat.add_zero] at g0
          clear gg
          subst hao
          clear HAO
          by_cases h4 : F a 0 = 4
          · rw [h4] at g0
            have HM : Hid (∀ x, x = F a 1 ↔ ∃ i : Nat, x = i ∧ storesG n F E i) := stores_at HP.out HA.out hla h4
            clear h4
            go_wp2_with fail
            clear g0 g1 p0 p4
            refine (l1Put_any T1 tv m f (F a 1) _ (by have := I.out.mj; omega) (fun b hb => (I.out.hT b hb).2.1) I.out.ri I.out.tb).mono ?_
            rintro e wp ⟨tv', rfl, m', f', hput, hbuf, hbp⟩
            have HPT : Hid (Putted m f (F a 1) m' f') := hput
            have HBF : Hid (BufI (fun b => (T1 b ∨ wr.heap.size ≤ b) ∧ b < wp.heap.size) wp tv' m' f') := hbuf
            have HBP : Hid (Blw wr wp) := hbp
            have HNO : Hid True := trivial
            clear hput hbuf hbp
            obtain ⟨p0, p1, p2, p3, p4⟩ := get5 (I.out.row.blw HBP.out)
            have HB2 : Hid (Blw wr wp) := HBP.out
            go_wp2_with fail
            clear p0 p1 p2 p3 p4
            refine (l9Step_any _ cp n F vv E X1 X _ HP.out I.out.hE (HK.out.blw HB2.out) (fun b hb => Nat.lt_of_lt_of_le (I.out.hX b hb).2.1 HB2.out.size) (I.out.mg.blw HB2.out)).mono ?_
            rintro e ws ⟨v2, rfl, own2, hmod⟩
            have hz := (I.out.row.blw HB2.out).mod hmod (fun e => (I.out.hX z9 e).2.2.1 rfl)
            obtain ⟨t0, t1, t2, t3, t4⟩ := get5 hz
            have e0 := hz.frozen 0; have e1 := hz.frozen 1; have e2 := hz.frozen 2; have e3 := hz.frozen 3; have e4 := hz.frozen 4
            generalize hE' : stepG n F E = E' at *
            have HNX := I.out.next HP.out hlt HDD.out HB2.out (fun b hb => hb) HBF.out HPT.out.r HPT.out.le (fun x => by rw [HPT.out.m x, HM.out x]) (hE'.symm ▸ own2) hmod (.int .i64 E'.at_) (.int .i64 E'.acc) (.slice v2.a1 E'.nc v2.c1) (.slice v2.a2 E'.nt v2.c2) (.bool E'.d) (hE'.symm ▸ set5_all hz _ _ _ _ _) HZ9.out
            rw [hE'] at HNX
            have HN : Hid _ := HNX
            clear HNX own2 hmod hz I HDD HB2 HNO HPT HBF HBP HM HK HA
            go_wp2
            go_roundw
            case rel => exact ⟨j + 1, _, E', v2, _, _, _, _, by omega, by go_num, rfl, HN.out⟩
            case measure => simp [intOf]; omega
          · have h4' : (F a 0 == 4) = false := by simpa using h4
            have HNO : Hid (∀ x : Int, ¬ ∃ i : Nat, x = i ∧ storesG n F E i) := stores_no HA.out (fun q => h4 q.2)
            go_upto_region 7 with fail
            clear g0 g1 p0 p4 h4 h4'
            obtain ⟨p0, p1, p2, p3, p4⟩ := get5 (I.out.row.blw (Blw.refl wr))
            have HB2 : Hid (Blw wr wr) := (Blw.refl wr)
            go_wp2_with fail
            clear p0 p1 p2 p3 p4
            refine (l9Step_any _ cp n F vv E X1 X _ HP.out I.out.hE (HK.out.blw HB2.out) (fun b hb => Nat.lt_of_lt_of_le (I.out.hX b hb).2.1 HB2.out.size) (I.out.mg.blw HB2.out)).mono ?_
            rintro e ws ⟨v2, rfl, own2, hmod⟩
            have hz := (I.out.row.blw HB2.out).mod hmod (fun e => (I.out.hX z9 e).2.2.1 rfl)
            obtain ⟨t0, t1, t2, t3, t4⟩ := get5 hz
            have e0 := hz.frozen 0; have e1 := hz.frozen 1; have e2 := hz.frozen 2; have e3 := hz.frozen 3; have e4 := hz.frozen 4
            generalize hE' : stepG n F E = E' at *
            have HNX := I.out.next HP.out hlt HDD.out HB2.out (fun b hb => ⟨Or.inl hb, (I.out.hT b hb).2.1⟩) I.out.tb I.out.ri (by omega) (fun x => ⟨Or.inl, fun q => q.elim id (fun q => absurd q (HNO.out x))⟩) (hE'.symm ▸ own2) hmod (.int .i64 E'.at_) (.int .i64 E'.acc) (.slice v2.a1 E'.nc v2.c1) (.slice v2.a2 E'.nt v2.c2) (.bool E'.d) (hE'.symm ▸ set5_all hz _ _ _ _ _) HZ9.out
            rw [hE'] at HNX
            have HN : Hid _ := HNX
            clear HNX own2 hmod hz I HDD HB2 HNO HK HA
            go_wp2
            go_roundw
            case rel => exact ⟨j + 1, _, E', v2, _, _, _, _, by omega, by go_num, rfl, HN.out⟩
            case measure => simp [intOf]; omega
        · have hge : ¬ (a : Int) < n := by omega
          have HNO : Hid (∀ x : Int, ¬ ∃ i : Nat, x = i ∧ storesG n F E i) := stores_no HA.out (fun q => hla q.1)
          go_upto_region 7 with fail
          clear p0 p4
          obtain ⟨p0, p1, p2, p3, p4⟩ := get5 (I.out.row.blw (Blw.refl wr))
          have HB2 : Hid (Blw wr wr) := (Blw.refl wr)
          go_wp2_with fail
          clear p0 p1 p2 p3 p4
          refine (l9Step_any ao cp n F vv E X1 X _ HP.out I.out.hE (HK.out.blw HB2.out) (fun b hb => Nat.lt_of_lt_of_le (I.out.hX b hb).2.1 HB2.out.size) (I.out.mg.blw HB2.out)).mono ?_
          rintro e ws ⟨v2, rfl, own2, hmod⟩
          have hz := (I.out.row.blw HB2.out).mod hmod (fun e => (I.out.hX z9 e).2.2.1 rfl)
          obtain ⟨t0, t1, t2, t3, t4⟩ := get5 hz
          have e0 := hz.frozen 0; have e1 := hz.frozen 1; have e2 := hz.frozen 2; have e3 := hz.frozen 3; have e4 := hz.frozen 4
          generalize hE' : stepG n F E = E' at *
          have HNX := I.out.next HP.out hlt HDD.out HB2.out (fun b hb => ⟨Or.inl hb, (I.out.hT b hb).2.1⟩) I.out.tb I.out.ri (by omega) (fun x => ⟨Or.inl, fun q => q.elim id (fun q => absurd q (HNO.out x))⟩) (hE'.symm ▸ own2) hmod (.int .i64 E'.at_) (.int .i64 E'.acc) (.slice v2.a1 E'.nc v2.c1) (.slice v2.a2 E'.nt v2.c2) (.bool E'.d) (hE'.symm ▸ set5_all hz _ _ _ _ _) HZ9.out
          rw [hE'] at HNX
          have HN : Hid _ := HNX
          clear HNX own2 hmod hz I HDD HB2 HNO HK HA
          go_wp2
          go_roundw
          case rel => exact ⟨j + 1, _, E', v2, _, _, _, _, by omega, by go_num, rfl, HN.out⟩
          case measure => simp [intOf]; omega
      · rw [hd] at p4
        have HD9 : Hid (E.d = true) := hd
        clear hd ha
        have HFI : Hid (k ≤ j ∨ E.d = true) := Or.inr HD9.out
        go_wp2_with fail
        clear p0 p1 p2 p3 p4
        have cc := l9Own_any vv E X1 wr (by have := I.out.hE.nc; omega) (by have := I.out.hE.nt; omega) I.out.own
        rw [val_done HD9.out] at cc
        refine cc.mono ?_
        rintro e w6 ⟨u', rfl, own, hb4⟩
        have hzz := (HZ.out.blw I.out.blw).blw hb4
        obtain ⟨t0, t1, t2, t3, t4⟩ := get5 hzz
        have f0 := hzz.frozen 0; have f1 := hzz.frozen 1; have f2 := hzz.frozen 2; have f3 := hzz.frozen 3; have f4 := hzz.frozen 4
        have m1 := set5_modG w6 (w.heap.size + 1) (.int .i64 E.at_) (.int .i64 E.acc) (.slice u'.a1 E.nc u'.c1) (.slice u'.a2 E.nt u'.c2) (.bool E.d) (X := fun x => x = w.heap.size + 1) rfl
        have hs1 := HS1.out
        have hs2 := I.out.blw.size
        have hs3 := hb4.size
        have FIN : Hid (_ ∧ _ ∧ _) := ⟨((own.own (by have := I.out.hE.nt; omega)).mod m1 (fun b hb => by omega)).mono (Y := fun x => w.heap.size ≤ x ∧ x < _) (fun b hb => ⟨by omega, Nat.lt_of_lt_of_le hb.2 m1.size⟩), Buf.mono (Buf.mod (Buf.blw I.out.tb hb4) m1 (fun b h1 e => by have := (I.out.hT b h1).1; omega)) (Y := fun x => w.heap.size ≤ x ∧ x < _) (fun b hb => ⟨by have := (I.out.hT b hb).1; omega, Nat.lt_of_lt_of_le (I.out.hT b hb).2.1 (Nat.le_trans hs3 m1.size)⟩), Mod.blw ((HB.out.trans I.out.blw).trans hb4) m1 (fun i hi => by omega)⟩
        have HQ : Hid (_ ∧ _ ∧ _) := ⟨I.out.fin HFI.out, I.out.ri, I.out.mj⟩
        clear m1 hs1 hs2 hs3 own hb4 hzz HZ HB I
        go_wp2
        refine bodyPost_ret (v := .tuple #[GV.val u' E, .int .i64 (j : Int), tv]) (by simp [results, Try.results117, go_sem, t0, t1, t2, t3, t4]) rfl ?_
        obtain ⟨⟨q1, q2, q3⟩, q4, q5⟩ := HQ.out
        obtain ⟨ta, tc, rfl, own5⟩ := BufI.own FIN.out.2.1 (by omega)
        exact ⟨u', ta, m, tc, f, by rw [← q1, ← q2], by rw [← q1]; exact FIN.out.1, own5, by omega, q4, q3, FIN.out.2.2⟩
    · have hge : ¬ (j : Int) < k := by omega
      clear ha
      have HFI : Hid (k ≤ j ∨ E.d = true) := Or.inl (by omega)
      go_wp2_with fail
      clear p0 p1 p2 p3 p4
      have cc := l9Own_any vv E X1 wr (by have := I.out.hE.nc; omega) (by have := I.out.hE.nt; omega) I.out.own

      refine cc.mono ?_
      rintro e w6 ⟨u', rfl, own, hb4⟩
      have hzz := (HZ.out.blw I.out.blw).blw hb4
      obtain ⟨t0, t1, t2, t3, t4⟩ := get5 hzz
      have f0 := hzz.frozen 0; have f1 := hzz.frozen 1; have f2 := hzz.frozen 2; have f3 := hzz.frozen 3; have f4 := hzz.frozen 4
      have m1 := set5_modG w6 (w.heap.size + 1) (.int .i64 E.at_) (.int .i64 E.acc) (.slice u'.a1 E.nc u'.c1) (.slice u'.a2 E.nt u'.c2) (.bool E.d) (X := fun x => x = w.heap.size + 1) rfl
      have hs1 := HS1.out
      have hs2 := I.out.blw.size
      have hs3 := hb4.size
      have FIN : Hid (_ ∧ _ ∧ _) := ⟨((own.own (by have := I.out.hE.nt; omega)).mod m1 (fun b hb => by omega)).mono (Y := fun x => w.heap.size ≤ x ∧ x < _) (fun b hb => ⟨by omega, Nat.lt_of_lt_of_le hb.2 m1.size⟩), Buf.mono (Buf.mod (Buf.blw I.out.tb hb4) m1 (fun b h1 e => by have := (I.out.hT b h1).1; omega)) (Y := fun x => w.heap.size ≤ x ∧ x < _) (fun b hb => ⟨by have := (I.out.hT b hb).1; omega, Nat.lt_of_lt_of_le (I.out.hT b hb).2.1 (Nat.le_trans hs3 m1.size)⟩), Mod.blw ((HB.out.trans I.out.blw).trans hb4) m1 (fun i hi => by omega)⟩
      have HQ : Hid (_ ∧ _ ∧ _) := ⟨I.out.fin HFI.out, I.out.ri, I.out.mj⟩
      clear m1 hs1 hs2 hs3 own hb4 hzz HZ HB I
      go_wp2
      refine bodyPost_ret (v := .tuple #[GV.val u' E, .int .i64 (j : Int), tv]) (by simp [results, Try.results117, go_sem, t0, t1, t2, t3, t4]) rfl ?_
      obtain ⟨⟨q1, q2, q3⟩, q4, q5⟩ := HQ.out
      obtain ⟨ta, tc, rfl, own5⟩ := BufI.own FIN.out.2.1 (by omega)
      exact ⟨u', ta, m, tc, f, by rw [← q1, ← q2], by rw [← q1]; exact FIN.out.1, own5, by omega, q4, q3, FIN.out.2.2⟩
end Go.Proofs.Ytbpdopcdhnemfaa
/- The model's RunGuest and TouchedBy. -/
namespace Go.Proofs.Ytbpdopcdhnemfaa
open Go.RowKit
set_option linter.unusedSimpArgs false
set_option linter.unusedVariables false
set_option maxRecDepth 10000 in
set_option maxHeartbeats 3200000 in
theorem l9Good_any (ao : Option Addr) (cp n : Nat) (F : Nat → Nat → Int) (v : GV) (D : GD) (k : Int) (X Y : Nat → Prop) (w : World) (hF : KAt 3 X w ao n F) (h : GAt Y w v D) :
    Calls Try.prog 116 #[.slice ao n cp, v.val D, .int .i64 k] w fun e w' => ∃ r, e = .returned (.bool r) ∧ (r = true ↔ (progOK n F ∧ D.Good ∧ stepsOK k)) ∧ Blw w w' := by
  have HB : Hid (Blw w (w.alloc (.cells #[.int .i64 D.at_, .int .i64 D.acc, .slice v.a1 D.nc v.c1, .slice v.a2 D.nt v.c2, .bool D.d] 61))) := (Blw.refl _).alloc _
  have R0 : Hid (Row (w.alloc (.cells #[.int .i64 D.at_, .int .i64 D.acc, .slice v.a1 D.nc v.c1, .slice v.a2 D.nt v.c2, .bool D.d] 61)) w.heap.size 5 (gb v D)) := row5 w _ _ _ _ _ 61
  have HW : Hid (GAt Y w v D ∧ KAt 3 X w ao n F) := ⟨h, hF⟩
  clear h hF
  go_enter Try.func116, Try.ntmps116
  go_upto_region 1 with fail
  generalize (w.alloc (.cells #[.int .i64 D.at_, .int .i64 D.acc, .slice v.a1 D.nc v.c1, .slice v.a2 D.nt v.c2, .bool D.d] 61)) = w1 at *
  go_wp2_with fail
  refine (specGoodP_any ao cp n F X _ (HW.out.2.blw HB.out)).mono ?_
  rintro e w2 ⟨r, rfl, hr, hb⟩
  have H1 : Hid (r = true ↔ progOK n F) := hr
  replace R0 : Hid (Row w2 w.heap.size 5 (gb v D)) := R0.out.blw hb
  replace HB : Hid (Blw w w2) := HB.out.trans hb
  clear hr hb
  cases r
  · go_wp2
    exact bodyPost_ret (v := .bool false) (by simp [results, Try.results116, go_sem]) rfl ⟨false, rfl, ⟨fun g => (by cases g), fun g => H1.out.2 g.1⟩, HB.out⟩
  obtain ⟨p0, p1, p2, p3, p4⟩ := get5 R0.out
  go_wp2_with fail
  clear p0 p1 p2 p3 p4
  refine (specGoodG_any v D Y _ (HW.out.1.blw HB.out)).mono ?_
  rintro e w3 ⟨r, rfl, hr, hb⟩
  have H2 : Hid (r = true ↔ D.Good) := hr
  replace HB : Hid (Blw w w3) := HB.out.trans hb
  clear hr hb R0
  cases r
  · go_wp2
    exact bodyPost_ret (v := .bool false) (by simp [results, Try.results116, go_sem]) rfl ⟨false, rfl, ⟨fun g => (by cases g), fun g => H2.out.2 g.2.1⟩, HB.out⟩
  go_wp2_with fail
  refine (l1In_any k 0 60 _).mono ?_
  rintro e w4 ⟨r, rfl, hr, hw⟩
  subst hw
  have H3 : Hid (r = true ↔ (0 ≤ k ∧ k ≤ 60)) := hr
  clear hr
  go_wp2
  exact bodyPost_ret (v := .bool r) (by simp [results, Try.results116, go_sem]) rfl ⟨r, rfl, ⟨fun g => ⟨H1.out.1 (by first | rfl | trivial), H2.out.1 (by first | rfl | trivial), H3.out.1 g⟩, fun g => H3.out.2 g.2.2⟩, HB.out⟩
set_option maxRecDepth 10000 in
set_option maxHeartbeats 3200000 in
theorem specRun_any (ao : Option Addr) (cp n : Nat) (F : Nat → Nat → Int) (v : GV) (D : GD) (k : Int) (X Y : Nat → Prop) (w : World) (hF : KAt 3 X w ao n F) (h : GAt Y w v D) :
    Calls Try.prog 39 #[.slice ao n cp, v.val D, .int .i64 k] w fun e w' => ∃ (u : GV) (R : GD) (x : Int) (r : Bool), e = .returned (.tuple #[u.val R, .int .i64 x, .bool r]) ∧ rgOut n F D k R x r ∧ R.small ∧ GOwn (fun x => w.heap.size ≤ x ∧ x < w'.heap.size) w' u R ∧ Blw w w' := by
  have HB : Hid (Blw w ((w.alloc (.cells #[.int .i64 D.at_, .int .i64 D.acc, .slice v.a1 D.nc v.c1, .slice v.a2 D.nt v.c2, .bool D.d] 61)).alloc (.cells #[.int .i64 0, .int .i64 0, .slice none 0 0, .slice none 0 0, .bool false] 61))) := ((Blw.refl _).alloc _).alloc _
  have R0 : Hid (Row ((w.alloc (.cells #[.int .i64 D.at_, .int .i64 D.acc, .slice v.a1 D.nc v.c1, .slice v.a2 D.nt v.c2, .bool D.d] 61)).alloc (.cells #[.int .i64 0, .int .i64 0, .slice none 0 0, .slice none 0 0, .bool false] 61)) w.heap.size 5 (gb v D)) := (row5 w _ _ _ _ _ 61).blw ((Blw.refl _).alloc _)
  have r1 := row5 (w.alloc (.cells #[.int .i64 D.at_, .int .i64 D.acc, .slice v.a1 D.nc v.c1, .slice v.a2 D.nt v.c2, .bool D.d] 61)) (.int .i64 0) (.int .i64 0) (.slice none 0 0) (.slice none 0 0) (.bool false) 61
  rw [World.size_alloc] at r1
  have HZ : Hid (Row ((w.alloc (.cells #[.int .i64 D.at_, .int .i64 D.acc, .slice v.a1 D.nc v.c1, .slice v.a2 D.nt v.c2, .bool D.d] 61)).alloc (.cells #[.int .i64 0, .int .i64 0, .slice none 0 0, .slice none 0 0, .bool false] 61)) (w.heap.size + 1) 5 (fun i => if i = 0 then .int .i64 0 else if i = 1 then .int .i64 0 else if i = 2 then .slice none 0 0 else if i = 3 then .slice none 0 0 else .bool false)) := r1
  have HS1 : Hid (((w.alloc (.cells #[.int .i64 D.at_, .int .i64 D.acc, .slice v.a1 D.nc v.c1, .slice v.a2 D.nt v.c2, .bool D.d] 61)).alloc (.cells #[.int .i64 0, .int .i64 0, .slice none 0 0, .slice none 0 0, .bool false] 61)).heap.size = w.heap.size + 1 + 1) := by show _ = _; simp
  have HW : Hid (GAt Y w v D ∧ KAt 3 X w ao n F) := ⟨h, hF⟩
  clear h hF r1
  go_enter Try.func39, Try.ntmps39
  go_upto_region 1 with fail
  generalize ((w.alloc (.cells #[.int .i64 D.at_, .int .i64 D.acc, .slice v.a1 D.nc v.c1, .slice v.a2 D.nt v.c2, .bool D.d] 61)).alloc (.cells #[.int .i64 0, .int .i64 0, .slice none 0 0, .slice none 0 0, .bool false] 61)) = w1 at *
  obtain ⟨p0, p1, p2, p3, p4⟩ := get5 R0.out
  go_wp2_with fail
  clear p0 p1 p2 p3 p4
  refine (l9Good_any ao cp n F v D k X Y _ (HW.out.2.blw HB.out) (HW.out.1.blw HB.out)).mono ?_
  rintro e w2 ⟨r, rfl, hr, hb⟩
  have H1 : Hid (r = true ↔ (progOK n F ∧ D.Good ∧ stepsOK k)) := hr
  have HS2 : Hid (w.heap.size + 1 + 1 ≤ w2.heap.size) := by have := hb.size; have := HS1.out; show _ ≤ _; omega
  replace R0 : Hid (Row w2 w.heap.size 5 (gb v D)) := R0.out.blw hb
  replace HZ : Hid (Row w2 (w.heap.size + 1) 5 (fun i => if i = 0 then .int .i64 0 else if i = 1 then .int .i64 0 else if i = 2 then .slice none 0 0 else if i = 3 then .slice none 0 0 else .bool false)) := HZ.out.blw hb
  replace HB : Hid (Blw w w2) := HB.out.trans hb
  clear hr hb HS1
  cases r
  · have HN : Hid (¬ (progOK n F ∧ D.Good ∧ stepsOK k)) := fun g => by have := H1.out.2 g; cases this
    clear H1
    obtain ⟨t0, t1, t2, t3, t4⟩ := get5 HZ.out
    have f0 := HZ.out.frozen 0; have f1 := HZ.out.frozen 1; have f2 := HZ.out.frozen 2; have f3 := HZ.out.frozen 3; have f4 := HZ.out.frozen 4
    have m1 := set5_modG w2 (w.heap.size + 1) (.int .i64 0) (.int .i64 0) (.slice none 0 0) (.slice none 0 0) (.bool false) (X := fun x => x = w.heap.size + 1) rfl
    have HBF : Hid _ := Mod.blw HB.out m1 (fun i hi => by omega)
    clear m1 HZ HB
    go_wp2
    refine bodyPost_ret (v := .tuple #[GV.val GV.zero GD.zero, .int .i64 0, .bool false]) (by simp [results, Try.results39, go_sem, t0, t1, t2, t3, t4]) rfl ⟨_, _, _, _, rfl, Or.inr ⟨HN.out, rfl, rfl, rfl⟩, GD.zero_small, GOwn.zero _ _, HBF.out⟩
  have HOK : Hid (progOK n F ∧ D.Good ∧ stepsOK k) := H1.out.1 (by first | rfl | trivial)
  clear H1
  obtain ⟨kk, hkk⟩ : ∃ kk : Nat, k = kk := ⟨k.toNat, by have := HOK.out.2.2.1; omega⟩
  subst hkk
  obtain ⟨p0, p1, p2, p3, p4⟩ := get5 R0.out
  go_wp2_with fail
  clear p0 p1 p2 p3 p4
  refine (l9Run_any ao cp n F v D kk X Y _ (by have := HOK.out.2.2.2; omega) HOK.out.1 HOK.out.2.1 (HW.out.2.blw HB.out) (HW.out.1.blw HB.out)).mono ?_
  rintro e w3 ⟨u, a, m, c, f, rfl, own, iown, hm, hri, hmem, hb⟩
  have HM : Hid (m ≤ 60 ∧ rising m f ∧ ∀ x, isIn m f x ↔ ∃ i : Nat, x = i ∧ tchG n F kk D i) := ⟨hm, hri, hmem⟩
  have HG2 : Hid ((runG n F kk D).Good) := runG_good HOK.out.1 _ HOK.out.2.1
  generalize hR : runG n F kk D = R at *
  have HRE : Hid (runG n F kk D = R) := hR
  clear hR hm hri hmem R0
  have hA : Blw w3 (w3.alloc (.cells #[.int .i64 R.at_, .int .i64 R.acc, .slice u.a1 R.nc u.c1, .slice u.a2 R.nt u.c2, .bool R.d] 61)) := (Blw.refl _).alloc _
  have hs0 := HB.out.size
  have hs3 := hb.size
  have hs2 := HS2.out
  have r9 := row5 w3 (.int .i64 R.at_) (.int .i64 R.acc) (.slice u.a1 R.nc u.c1) (.slice u.a2 R.nt u.c2) (.bool R.d) 61
  obtain ⟨p0, p1, p2, p3, p4⟩ := get5 r9
  have hzz := (HZ.out.blw hb).blw hA
  obtain ⟨t0, t1, t2, t3, t4⟩ := get5 hzz
  have f0 := hzz.frozen 0; have f1 := hzz.frozen 1; have f2 := hzz.frozen 2; have f3 := hzz.frozen 3; have f4 := hzz.frozen 4
  have m1 := set5_modG (w3.alloc (.cells #[.int .i64 R.at_, .int .i64 R.acc, .slice u.a1 R.nc u.c1, .slice u.a2 R.nt u.c2, .bool R.d] 61)) (w.heap.size + 1) (.int .i64 R.at_) (.int .i64 R.acc) (.slice u.a1 R.nc u.c1) (.slice u.a2 R.nt u.c2) (.bool R.d) (X := fun x => x = w.heap.size + 1) rfl
  have m2 := m1.size
  have m3 := hA.size
  have HF : Hid (_ ∧ _) := And.intro (((own.blw hA).mod m1 (fun b hb => by omega)).mono (Y := fun x => w.heap.size ≤ x ∧ x < _) (fun b hb => ⟨by omega, Nat.lt_of_lt_of_le hb.2 (Nat.le_trans m3 m2)⟩)) (Mod.blw ((HB.out.trans hb).trans hA) m1 (fun i hi => by omega))
  clear m1 m2 m3 hzz own iown hb HZ HB hA r9 hs0 hs2 hs3 HM HS2 HW
  go_wp2
  refine bodyPost_ret (v := .tuple #[GV.val u R, .int .i64 (manyG n F kk D : Int), .bool true]) (by simp [results, Try.results39, go_sem, t0, t1, t2, t3, t4]) rfl ⟨_, R, _, _, rfl, Or.inl ⟨HOK.out, HRE.out.symm, rfl, rfl⟩, HG2.out.small, HF.out.1, HF.out.2⟩
set_option maxRecDepth 10000 in
set_option maxHeartbeats 3200000 in
theorem specTouched_any (ao : Option Addr) (cp n : Nat) (F : Nat → Nat → Int) (v : GV) (D : GD) (k : Int) (X Y : Nat → Prop) (w : World) (hF : KAt 3 X w ao n F) (h : GAt Y w v D) :
    Calls Try.prog 41 #[.slice ao n cp, v.val D, .int .i64 k] w fun e w' => ∃ (a : Option Addr) (m c : Nat) (f : Nat → Int) (r : Bool), e = .returned (.tuple #[.slice a m c, .bool r]) ∧ tbOut n F D k m f r ∧ m ≤ 1048576 ∧ IntsOwn (fun x => w.heap.size ≤ x ∧ x < w'.heap.size) w' a m f ∧ Blw w w' := by
  have HB : Hid (Blw w (w.alloc (.cells #[.int .i64 D.at_, .int .i64 D.acc, .slice v.a1 D.nc v.c1, .slice v.a2 D.nt v.c2, .bool D.d] 61))) := (Blw.refl _).alloc _
  have R0 : Hid (Row (w.alloc (.cells #[.int .i64 D.at_, .int .i64 D.acc, .slice v.a1 D.nc v.c1, .slice v.a2 D.nt v.c2, .bool D.d] 61)) w.heap.size 5 (gb v D)) := row5 w _ _ _ _ _ 61
  have HW : Hid (GAt Y w v D ∧ KAt 3 X w ao n F) := ⟨h, hF⟩
  clear h hF
  go_enter Try.func41, Try.ntmps41
  go_upto_region 1 with fail
  generalize (w.alloc (.cells #[.int .i64 D.at_, .int .i64 D.acc, .slice v.a1 D.nc v.c1, .slice v.a2 D.nt v.c2, .bool D.d] 61)) = w1 at *
  obtain ⟨p0, p1, p2, p3, p4⟩ := get5 R0.out
  go_wp2_with fail
  clear p0 p1 p2 p3 p4
  refine (l9Good_any ao cp n F v D k X Y _ (HW.out.2.blw HB.out) (HW.out.1.blw HB.out)).mono ?_
  rintro e w2 ⟨r, rfl, hr, hb⟩
  have H1 : Hid (r = true ↔ (progOK n F ∧ D.Good ∧ stepsOK k)) := hr
  replace R0 : Hid (Row w2 w.heap.size 5 (gb v D)) := R0.out.blw hb
  replace HB : Hid (Blw w w2) := HB.out.trans hb
  clear hr hb
  cases r
  · have HN : Hid (¬ (progOK n F ∧ D.Good ∧ stepsOK k)) := fun g => by have := H1.out.2 g; cases this
    clear H1
    go_wp2
    exact bodyPost_ret (v := .tuple #[.slice none 0 0, .bool false]) (by simp [results, Try.results41, go_sem]) rfl ⟨none, 0, 0, fun _ => 0, false, rfl, Or.inr ⟨HN.out, rfl, rfl⟩, by omega, IntsOwn.nil' _ _ _ _, HB.out⟩
  have HOK : Hid (progOK n F ∧ D.Good ∧ stepsOK k) := H1.out.1 (by first | rfl | trivial)
  clear H1
  obtain ⟨kk, hkk⟩ : ∃ kk : Nat, k = kk := ⟨k.toNat, by have := HOK.out.2.2.1; omega⟩
  subst hkk
  obtain ⟨p0, p1, p2, p3, p4⟩ := get5 R0.out
  go_wp2_with fail
  clear p0 p1 p2 p3 p4
  refine (l9Run_any ao cp n F v D kk X Y _ (by have := HOK.out.2.2.2; omega) HOK.out.1 HOK.out.2.1 (HW.out.2.blw HB.out) (HW.out.1.blw HB.out)).mono ?_
  rintro e w3 ⟨u, a, m, c, f, rfl, own, iown, hm, hri, hmem, hb⟩
  have HM : Hid (m ≤ 60 ∧ rising m f ∧ ∀ x, isIn m f x ↔ ∃ i : Nat, x = i ∧ tchG n F kk D i) := ⟨hm, hri, hmem⟩
  have HG2 : Hid ((runG n F kk D).Good) := runG_good HOK.out.1 _ HOK.out.2.1
  generalize hR : runG n F kk D = R at *
  have HRE : Hid (runG n F kk D = R) := hR
  clear hR hm hri hmem R0
  have hA : Blw w3 (w3.alloc (.cells #[.int .i64 R.at_, .int .i64 R.acc, .slice u.a1 R.nc u.c1, .slice u.a2 R.nt u.c2, .bool R.d] 61)) := (Blw.refl _).alloc _
  have hs0 := HB.out.size
  have hs3 := hb.size
  have m3 := hA.size
  have HF : Hid (_ ∧ _) := And.intro ((iown.blw hA).mono (Y := fun x => w.heap.size ≤ x ∧ x < _) (fun b hb => ⟨by omega, Nat.lt_of_lt_of_le hb.2 m3⟩)) ((HB.out.trans hb).trans hA)
  clear m3 own iown hb HB hA hs0 hs3 HW
  go_wp2
  exact bodyPost_ret (v := .tuple #[.slice a m c, .bool true]) (by simp [results, Try.results41, go_sem]) rfl ⟨a, m, c, f, true, rfl, Or.inl ⟨HOK.out, rfl, HM.out.2.1, HM.out.2.2⟩, by have := HM.out.1; omega, HF.out.1, HF.out.2⟩
end Go.Proofs.Ytbpdopcdhnemfaa
/- The program's GoodProgram and GoodGuest. -/
namespace Go.Proofs.Ytbpdopcdhnemfaa
open Go.RowKit
set_option linter.unusedSimpArgs false
set_option linter.unusedVariables false
set_option maxHeartbeats 1600000 in
theorem implGoodP_any (ao : Option Addr) (cp n : Nat) (F : Nat → Nat → Int) (Y : Nat → Prop) (w : World) (h : KAt 3 Y w ao n F) :
    Calls Try.prog 53 #[.slice ao n cp] w fun e w' => ∃ r, e = .returned (.bool r) ∧ (r = true ↔ progOK n F) ∧ Blw w w' := by
  have H : Hid (KAt 3 Y w ao n F) := h
  clear h
  go_enter Try.func53, Try.ntmps53
  go_wp2_with fail
  refine (holdProgram_any ao cp n F Y _ H.out).mono ?_
  rintro e w1 ⟨⟨z, hp, rfl, hr, hz⟩ | ⟨hp, rfl⟩, hb⟩
  · have HP : Hid (progOK n F) := hp
    have HB : Hid (Blw w w1) := hb
    clear hp hb hr hz
    go_wp2
    go_ret
    exact ⟨true, rfl, iff_t HP.out, HB.out⟩
  · have HP : Hid (¬ progOK n F) := hp
    have HB : Hid (Blw w w1) := hb
    clear hp hb
    go_wp2
    go_ret
    exact ⟨false, rfl, iff_f HP.out, HB.out⟩
set_option maxHeartbeats 1600000 in
theorem implGoodG_any (v : GV) (D : GD) (Y : Nat → Prop) (w : World) (h : GAt Y w v D) (hY : ∀ b, Y b → b < w.heap.size) :
    Calls Try.prog 44 #[v.val D] w fun e w' => ∃ r, e = .returned (.bool r) ∧ (r = true ↔ D.Good) ∧ Blw w w' := by
  have HB : Hid (Blw w (w.alloc (.cells #[.int .i64 D.at_, .int .i64 D.acc, .slice v.a1 D.nc v.c1, .slice v.a2 D.nt v.c2, .bool D.d] 61))) := (Blw.refl _).alloc _
  have R0 : Hid (Row (w.alloc (.cells #[.int .i64 D.at_, .int .i64 D.acc, .slice v.a1 D.nc v.c1, .slice v.a2 D.nt v.c2, .bool D.d] 61)) w.heap.size 5 (gb v D)) := row5 w _ _ _ _ _ 61
  have HA : Hid (GAt Y (w.alloc (.cells #[.int .i64 D.at_, .int .i64 D.acc, .slice v.a1 D.nc v.c1, .slice v.a2 D.nt v.c2, .bool D.d] 61)) v D) := h.blw HB.out
  have HYY : Hid (∀ b, Y b → b < (w.alloc (.cells #[.int .i64 D.at_, .int .i64 D.acc, .slice v.a1 D.nc v.c1, .slice v.a2 D.nt v.c2, .bool D.d] 61)).heap.size) := fun b hb => Nat.lt_of_lt_of_le (hY b hb) HB.out.size
  clear h hY
  go_enter Try.func44, Try.ntmps44
  obtain ⟨p0, p1, p2, p3, p4⟩ := get5 R0.out
  go_wp2_with fail
  clear p0 p1 p2 p3 p4
  generalize (w.alloc (.cells #[.int .i64 D.at_, .int .i64 D.acc, .slice v.a1 D.nc v.c1, .slice v.a2 D.nt v.c2, .bool D.d] 61)) = w0 at *
  refine (holdGuest_any v D Y _ HA.out HYY.out).mono ?_
  rintro e w1 ⟨⟨hg, rfl⟩ | ⟨hg, rfl⟩, hb⟩
  · have HG : Hid (D.Good) := hg
    replace HB : Hid (Blw w w1) := HB.out.trans hb
    clear hg hb HA HYY R0
    go_wp2_with (first | (refine alloc_big rfl 148 rfl 32 hz zeroH ?_; intro wa RZ hba hza) | (refine store_big rfl 148 _ _ rfl _ 32 (hc D) hz rfl rfl wdH RZ (fun i _ => hc_one _ i) ?_; intro wb RH hmb hsb) | fail)
    go_ret
    exact ⟨true, rfl, iff_t HG.out, Mod.blw (HB.out.trans hba) hmb (fun i hi => by have := HB.out.size; omega)⟩
  · have HG : Hid (¬ D.Good) := hg
    replace HB : Hid (Blw w w1) := HB.out.trans hb
    clear hg hb HA HYY R0
    go_wp2_with (first | (refine alloc_big rfl 148 rfl 32 hz zeroH ?_; intro wa RZ hba hza) | (refine store_big rfl 148 _ _ rfl _ 32 hz hz rfl rfl wdH RZ (fun i _ => hcf_one _ _ _ _ _ _ i) ?_; intro wb RH hmb hsb) | fail)
    go_ret
    exact ⟨false, rfl, iff_f HG.out, Mod.blw (HB.out.trans hba) hmb (fun i hi => by have := HB.out.size; omega)⟩
def bIff (p : Prop) (r : Bool) : Prop := r = true ↔ p
theorem bIff_same {p : Prop} {a b : Bool} (h : bIff p a) (k : bIff p b) : a = b := by
  unfold bIff at h k
  cases a <;> cases b <;> simp_all
end Go.Proofs.Ytbpdopcdhnemfaa
/- FnStepped: the walk. -/
namespace Go.Proofs.Ytbpdopcdhnemfaa
open Go.RowKit
set_option linter.unusedSimpArgs false
set_option linter.unusedVariables false
def PX (W : World) (a : Option Addr) (n : Nat) (F : Nat → Nat → Int) : Prop := KAt 3 (fun x => x < W.heap.size) W a n F
theorem PX.blw {W W' : World} {a : Option Addr} {n : Nat} {F : Nat → Nat → Int} (h : PX W a n F) (hb : Blw W W') : PX W' a n F := (KAt.blw h hb).mono (fun x hx => Nat.lt_of_lt_of_le hx hb.size)
def LI (W : World) (a : Option Addr) (n : Nat) (f : Nat → Int) : Prop := IntsAt (fun x => x < W.heap.size) W a n f
theorem LI.blw {W W' : World} {a : Option Addr} {n : Nat} {f : Nat → Int} (h : LI W a n f) (hb : Blw W W') : LI W' a n f := (IntsAt.blw h hb).mono (fun x hx => Nat.lt_of_lt_of_le hx hb.size)
def BY (W : World) (a : Option Addr) (n : Nat) (f : Nat → Int) : Prop := BytesAt (fun x => x < W.heap.size) W a n f
theorem BY.blw {W W' : World} {a : Option Addr} {n : Nat} {f : Nat → Int} (h : BY W a n f) (hb : Blw W W') : BY W' a n f :=
  ⟨h.1, fun i hi => let ⟨b, o, e, hY, h0⟩ := h.2 i hi; ⟨b, o, e, Nat.lt_of_lt_of_le hY hb.size, hb.cell h0.1, h0.2⟩⟩
/-- A guest and its box. -/
structure GX (W : World) (z : Nat) (v : GV) (D : GD) : Prop where
  at_ : GAt (fun x => x < W.heap.size) W v D
  box : Row W z 5 (gb v D)
theorem GX.blw {W W' : World} {z : Nat} {v : GV} {D : GD} (h : GX W z v D) (hb : Blw W W') : GX W' z v D :=
  ⟨(h.at_.blw hb).mono (fun x hx => Nat.lt_of_lt_of_le hx hb.size), h.box.blw hb⟩
theorem bool_of (p : Prop) : ∃ b : Bool, b = true ↔ p := by
  by_cases h : p
  · exact ⟨true, fun _ => h, fun _ => rfl⟩
  · exact ⟨false, (fun e => by cases e), fun g => absurd g h⟩
theorem same_of {p : Prop} {a b : Bool} (h : a = true ↔ p) (k : b = true ↔ p) : a = b := Bool.eq_iff_iff.2 (h.trans k.symm)
set_option maxRecDepth 10000 in
set_option maxHeartbeats 12800000 in
theorem lawStepped (ao1 : Option Addr) (n1 c1 : Nat) (f1 : Nat → Int) (ao2 : Option Addr) (n2 c2 : Nat) (f2 : Nat → Int) (w : World) (h1 : BytesAt (fun b => b < w.heap.size) w ao1 n1 f1) (h2 : BytesAt (fun b => b < w.heap.size) w ao2 n2 f2) :
    Calls Try.prog 6 #[.slice ao1 n1 c1, .slice ao2 n2 c2] w fun e w' => e = .returned (.bool true) ∧ Blw w w' := by
  have H1 : Hid (BY w ao1 n1 f1) := h1
  have H2 : Hid (BY w ao2 n2 f2) := h2
  clear h1 h2
  go_enter Try.func6, Try.ntmps6
  by_cases hd : wrap64 ((n1 : Int) + n2) > 1048576
  · have d1 : decide (wrap64 ((n1 : Int) + n2) > 1048576) = true := by simpa using hd
    clear hd
    go_wp2
    go_ret
    exact ⟨rfl, Blw.refl _⟩
  have d1 : decide (wrap64 ((n1 : Int) + n2) > 1048576) = false := by simpa using hd
  clear hd
  have HB : Hid (Blw w w) := Blw.refl w
  go_wp2_with fail
  clear d1
  refine (drawStepG_any ao1 n1 c1 f1 _ H1.out).mono ?_
  rintro e w1 ⟨ap, np, cp, F, u, D, rfl, hnp, hko, hs, own, hb⟩
  replace HB : Hid (Blw _ _) := Blw.trans HB.out hb
  replace H1 : Hid (BY w1 ao1 n1 f1) := BY.blw H1.out hb
  replace H2 : Hid (BY w1 ao2 n2 f2) := BY.blw H2.out hb
  have P5 : Hid (PX w1 ap np F) := hko.at.mono (fun x hx => hx.2)
  clear H1
  have hA : Blw w1 (w1.alloc (.cells #[.int .i64 D.at_, .int .i64 D.acc, .slice u.a1 D.nc u.c1, .slice u.a2 D.nt u.c2, .bool D.d] 61)) := (Blw.refl _).alloc _
  have hat9 : GAt (fun x => x < (w1.alloc (.cells #[.int .i64 D.at_, .int .i64 D.acc, .slice u.a1 D.nc u.c1, .slice u.a2 D.nt u.c2, .bool D.d] 61)).heap.size) (w1.alloc (.cells #[.int .i64 D.at_, .int .i64 D.acc, .slice u.a1 D.nc u.c1, .slice u.a2 D.nt u.c2, .bool D.d] 61)) u D := (GAt.blw own.at hA).mono (fun x hx => Nat.lt_of_lt_of_le hx.2 hA.size)
  have hro9 := row5 w1 (.int .i64 D.at_) (.int .i64 D.acc) (.slice u.a1 D.nc u.c1) (.slice u.a2 D.nt u.c2) (.bool D.d) 61
  replace HB : Hid (Blw _ _) := Blw.trans HB.out hA
  replace H2 : Hid (BY (w1.alloc (.cells #[.int .i64 D.at_, .int .i64 D.acc, .slice u.a1 D.nc u.c1, .slice u.a2 D.nt u.c2, .bool D.d] 61)) ao2 n2 f2) := BY.blw H2.out hA
  replace P5 : Hid (PX (w1.alloc (.cells #[.int .i64 D.at_, .int .i64 D.acc, .slice u.a1 D.nc u.c1, .slice u.a2 D.nt u.c2, .bool D.d] 61)) ap np F) := PX.blw P5.out hA
  have X6 : Hid (GX (w1.alloc (.cells #[.int .i64 D.at_, .int .i64 D.acc, .slice u.a1 D.nc u.c1, .slice u.a2 D.nt u.c2, .bool D.d] 61)) w1.heap.size u D) := ⟨hat9, hro9⟩
  clear hA hat9 hro9
  clear own hko hb hs hnp
  obtain ⟨p0, p1, p2, p3, p4⟩ := get5 X6.out.box
  go_wp2_with fail
  clear p0 p1 p2 p3 p4
  refine (implStep_any ap cp np F u D _ _ _ P5.out X6.out.at_ (fun x hx => hx)).mono ?_
  rintro e w2 ⟨u7, R7, r8, rfl, ho, hs, own, hb⟩
  replace HB : Hid (Blw _ _) := Blw.trans HB.out hb
  replace H2 : Hid (BY w2 ao2 n2 f2) := BY.blw H2.out hb
  replace P5 : Hid (PX w2 ap np F) := PX.blw P5.out hb
  replace X6 : Hid (GX w2 w1.heap.size u D) := GX.blw X6.out hb
  have O7 : Hid (stOut np F D R7 r8) := ho
  have hA : Blw w2 (w2.alloc (.cells #[.int .i64 R7.at_, .int .i64 R7.acc, .slice u7.a1 R7.nc u7.c1, .slice u7.a2 R7.nt u7.c2, .bool R7.d] 61)) := (Blw.refl _).alloc _
  have hat9 : GAt (fun x => x < (w2.alloc (.cells #[.int .i64 R7.at_, .int .i64 R7.acc, .slice u7.a1 R7.nc u7.c1, .slice u7.a2 R7.nt u7.c2, .bool R7.d] 61)).heap.size) (w2.alloc (.cells #[.int .i64 R7.at_, .int .i64 R7.acc, .slice u7.a1 R7.nc u7.c1, .slice u7.a2 R7.nt u7.c2, .bool R7.d] 61)) u7 R7 := (GAt.blw own.at hA).mono (fun x hx => Nat.lt_of_lt_of_le hx.2 hA.size)
  have hro9 := row5 w2 (.int .i64 R7.at_) (.int .i64 R7.acc) (.slice u7.a1 R7.nc u7.c1) (.slice u7.a2 R7.nt u7.c2) (.bool R7.d) 61
  replace HB : Hid (Blw _ _) := Blw.trans HB.out hA
  replace H2 : Hid (BY (w2.alloc (.cells #[.int .i64 R7.at_, .int .i64 R7.acc, .slice u7.a1 R7.nc u7.c1, .slice u7.a2 R7.nt u7.c2, .bool R7.d] 61)) ao2 n2 f2) := BY.blw H2.out hA
  replace P5 : Hid (PX (w2.alloc (.cells #[.int .i64 R7.at_, .int .i64 R7.acc, .slice u7.a1 R7.nc u7.c1, .slice u7.a2 R7.nt u7.c2, .bool R7.d] 61)) ap np F) := PX.blw P5.out hA
  replace X6 : Hid (GX (w2.alloc (.cells #[.int .i64 R7.at_, .int .i64 R7.acc, .slice u7.a1 R7.nc u7.c1, .slice u7.a2 R7.nt u7.c2, .bool R7.d] 61)) w1.heap.size u D) := GX.blw X6.out hA
  have X7 : Hid (GX (w2.alloc (.cells #[.int .i64 R7.at_, .int .i64 R7.acc, .slice u7.a1 R7.nc u7.c1, .slice u7.a2 R7.nt u7.c2, .bool R7.d] 61)) w2.heap.size u7 R7) := ⟨hat9, hro9⟩
  clear hA hat9 hro9
  clear own hb hs ho
  obtain ⟨p0, p1, p2, p3, p4⟩ := get5 X6.out.box
  go_wp2_with fail
  clear p0 p1 p2 p3 p4
  refine (specStep_any ap cp np F u D _ _ _ P5.out X6.out.at_).mono ?_
  rintro e w3 ⟨u9, R9, r10, rfl, ho, hs, own, hb⟩
  replace HB : Hid (Blw _ _) := Blw.trans HB.out hb
  replace H2 : Hid (BY w3 ao2 n2 f2) := BY.blw H2.out hb
  replace P5 : Hid (PX w3 ap np F) := PX.blw P5.out hb
  replace X6 : Hid (GX w3 w1.heap.size u D) := GX.blw X6.out hb
  replace X7 : Hid (GX w3 w2.heap.size u7 R7) := GX.blw X7.out hb
  obtain ⟨e1, e2⟩ := stOut_same ho O7.out
  subst e1 e2
  have hA : Blw w3 (w3.alloc (.cells #[.int .i64 R9.at_, .int .i64 R9.acc, .slice u9.a1 R9.nc u9.c1, .slice u9.a2 R9.nt u9.c2, .bool R9.d] 61)) := (Blw.refl _).alloc _
  have hat9 : GAt (fun x => x < (w3.alloc (.cells #[.int .i64 R9.at_, .int .i64 R9.acc, .slice u9.a1 R9.nc u9.c1, .slice u9.a2 R9.nt u9.c2, .bool R9.d] 61)).heap.size) (w3.alloc (.cells #[.int .i64 R9.at_, .int .i64 R9.acc, .slice u9.a1 R9.nc u9.c1, .slice u9.a2 R9.nt u9.c2, .bool R9.d] 61)) u9 R9 := (GAt.blw own.at hA).mono (fun x hx => Nat.lt_of_lt_of_le hx.2 hA.size)
  have hro9 := row5 w3 (.int .i64 R9.at_) (.int .i64 R9.acc) (.slice u9.a1 R9.nc u9.c1) (.slice u9.a2 R9.nt u9.c2) (.bool R9.d) 61
  replace HB : Hid (Blw _ _) := Blw.trans HB.out hA
  replace H2 : Hid (BY (w3.alloc (.cells #[.int .i64 R9.at_, .int .i64 R9.acc, .slice u9.a1 R9.nc u9.c1, .slice u9.a2 R9.nt u9.c2, .bool R9.d] 61)) ao2 n2 f2) := BY.blw H2.out hA
  replace P5 : Hid (PX (w3.alloc (.cells #[.int .i64 R9.at_, .int .i64 R9.acc, .slice u9.a1 R9.nc u9.c1, .slice u9.a2 R9.nt u9.c2, .bool R9.d] 61)) ap np F) := PX.blw P5.out hA
  replace X6 : Hid (GX (w3.alloc (.cells #[.int .i64 R9.at_, .int .i64 R9.acc, .slice u9.a1 R9.nc u9.c1, .slice u9.a2 R9.nt u9.c2, .bool R9.d] 61)) w1.heap.size u D) := GX.blw X6.out hA
  replace X7 : Hid (GX (w3.alloc (.cells #[.int .i64 R9.at_, .int .i64 R9.acc, .slice u9.a1 R9.nc u9.c1, .slice u9.a2 R9.nt u9.c2, .bool R9.d] 61)) w2.heap.size u7 R9) := GX.blw X7.out hA
  have X9 : Hid (GX (w3.alloc (.cells #[.int .i64 R9.at_, .int .i64 R9.acc, .slice u9.a1 R9.nc u9.c1, .slice u9.a2 R9.nt u9.c2, .bool R9.d] 61)) w3.heap.size u9 R9) := ⟨hat9, hro9⟩
  clear hA hat9 hro9
  clear own hb hs ho
  have q1 : (r10 != r10) = false := by simp
  go_upto_region 6 with fail
  generalize w3.alloc (.cells #[.int .i64 R9.at_, .int .i64 R9.acc, .slice u9.a1 R9.nc u9.c1, .slice u9.a2 R9.nt u9.c2, .bool R9.d] 61) = w40 at *
  obtain ⟨gB, hgB⟩ := bool_of D.Good
  obtain ⟨pB, hpB⟩ := bool_of (progOK np F)
  have HGB : Hid (gB = true ↔ D.Good) := hgB
  have HPB : Hid (pB = true ↔ progOK np F) := hpB
  clear hgB hpB
  have q2 : (gB != gB) = false := by simp
  have q3 : (pB != pB) = false := by simp
  go_cut [64] from 42 to 64 (fun c wx => c = .bool false ∧ Blw w40 wx)
  case first =>
    have A0 : ∀ w', Blw w40 w' → w'.cell? ⟨w1.heap.size, 0, none⟩ = some (.int .i64 D.at_) := fun w' hh => (get5 (X6.out.blw hh).box).1
    have A1 : ∀ w', Blw w40 w' → w'.cell? ⟨w1.heap.size, 1, none⟩ = some (.int .i64 D.acc) := fun w' hh => (get5 (X6.out.blw hh).box).2.1
    have A2 : ∀ w', Blw w40 w' → w'.cell? ⟨w1.heap.size, 2, none⟩ = some (.slice u.a1 D.nc u.c1) := fun w' hh => (get5 (X6.out.blw hh).box).2.2.1
    have A3 : ∀ w', Blw w40 w' → w'.cell? ⟨w1.heap.size, 3, none⟩ = some (.slice u.a2 D.nt u.c2) := fun w' hh => (get5 (X6.out.blw hh).box).2.2.2.1
    have A4 : ∀ w', Blw w40 w' → w'.cell? ⟨w1.heap.size, 4, none⟩ = some (.bool D.d) := fun w' hh => (get5 (X6.out.blw hh).box).2.2.2.2
    have B0 : ∀ w', Blw w40 w' → w'.cell? ⟨w2.heap.size, 0, none⟩ = some (.int .i64 R9.at_) := fun w' hh => (get5 (X7.out.blw hh).box).1
    have B1 : ∀ w', Blw w40 w' → w'.cell? ⟨w2.heap.size, 1, none⟩ = some (.int .i64 R9.acc) := fun w' hh => (get5 (X7.out.blw hh).box).2.1
    have B2 : ∀ w', Blw w40 w' → w'.cell? ⟨w2.heap.size, 2, none⟩ = some (.slice u7.a1 R9.nc u7.c1) := fun w' hh => (get5 (X7.out.blw hh).box).2.2.1
    have B3 : ∀ w', Blw w40 w' → w'.cell? ⟨w2.heap.size, 3, none⟩ = some (.slice u7.a2 R9.nt u7.c2) := fun w' hh => (get5 (X7.out.blw hh).box).2.2.2.1
    have B4 : ∀ w', Blw w40 w' → w'.cell? ⟨w2.heap.size, 4, none⟩ = some (.bool R9.d) := fun w' hh => (get5 (X7.out.blw hh).box).2.2.2.2
    have E0 : ∀ w', Blw w40 w' → w'.cell? ⟨w3.heap.size, 0, none⟩ = some (.int .i64 R9.at_) := fun w' hh => (get5 (X9.out.blw hh).box).1
    have E1 : ∀ w', Blw w40 w' → w'.cell? ⟨w3.heap.size, 1, none⟩ = some (.int .i64 R9.acc) := fun w' hh => (get5 (X9.out.blw hh).box).2.1
    have E2 : ∀ w', Blw w40 w' → w'.cell? ⟨w3.heap.size, 2, none⟩ = some (.slice u9.a1 R9.nc u9.c1) := fun w' hh => (get5 (X9.out.blw hh).box).2.2.1
    have E3 : ∀ w', Blw w40 w' → w'.cell? ⟨w3.heap.size, 3, none⟩ = some (.slice u9.a2 R9.nt u9.c2) := fun w' hh => (get5 (X9.out.blw hh).box).2.2.2.1
    have E4 : ∀ w', Blw w40 w' → w'.cell? ⟨w3.heap.size, 4, none⟩ = some (.bool R9.d) := fun w' hh => (get5 (X9.out.blw hh).box).2.2.2.2
    go_region_held3 (fun w' => Blw w40 w') ((first | exact (Blw.refl _).drew | assumption | exact Blw.trans (by assumption) (by assumption))) (first
      | (go_at_call 42; refine (sameGuest_same u7 u9 R9 _ (X7.out.blw (by assumption)).at_ (X9.out.blw (by assumption)).at_).mono ?_; rintro e w70 ⟨rfl, hb70⟩)
      | (go_at_call 44; refine (implGoodG_any u D _ _ (X6.out.blw (by assumption)).at_ (fun x hx => hx)).mono ?_; rintro e w71 ⟨r71, rfl, hr71, hb71⟩; obtain rfl := (same_of hr71 HGB.out).symm; clear hr71)
      | (go_at_call 52; refine (specGoodG_any u D _ _ (X6.out.blw (by assumption)).at_).mono ?_; rintro e w72 ⟨r72, rfl, hr72, hb72⟩; obtain rfl := (same_of hr72 HGB.out).symm; clear hr72)
      | (go_at_call 53; refine (implGoodP_any ap cp np F _ _ (P5.out.blw (by assumption))).mono ?_; rintro e w73 ⟨r73, rfl, hr73, hb73⟩; obtain rfl := (same_of hr73 HPB.out).symm; clear hr73)
      | (go_at_call 54; refine (specGoodP_any ap cp np F _ _ (P5.out.blw (by assumption))).mono ?_; rintro e w74 ⟨r74, rfl, hr74, hb74⟩; obtain rfl := (same_of hr74 HPB.out).symm; clear hr74))
    all_goals go_wp2_with fail
    all_goals go_meet
    all_goals exact ⟨rfl, by assumption⟩
  case rest =>
    obtain ⟨rfl, hb⟩ := hcut
    clear q1 q2 q3 HGB HPB
    replace HB : Hid (Blw _ _) := Blw.trans HB.out hb
    replace H2 : Hid (BY wc ao2 n2 f2) := BY.blw H2.out hb
    replace P5 : Hid (PX wc ap np F) := PX.blw P5.out hb
    replace X6 : Hid (GX wc w1.heap.size u D) := GX.blw X6.out hb
    replace X7 : Hid (GX wc w2.heap.size u7 R9) := GX.blw X7.out hb
    replace X9 : Hid (GX wc w3.heap.size u9 R9) := GX.blw X9.out hb
    clear X9
    clear hb
    generalize wc = w41 at *
    go_upto_if 65 with fail
    go_cut [11, 12, 13] from 65 to 89 (fun v11 v12 v13 wx => Blw w41 wx)
    case first =>
      cases r10
      · go_wp2_with fail
        go_meet
        exact Blw.refl _
      obtain ⟨⟨hp, hg, hdd⟩, rfl⟩ : (progOK np F ∧ D.Good ∧ D.d = false) ∧ R9 = stepG np F D := by
        rcases O7.out with ⟨h1, h2, _⟩ | ⟨_, _, h⟩
        · exact ⟨h1, h2⟩
        · cases h
      have HG : Hid (progOK np F ∧ D.Good ∧ D.d = false) := ⟨hp, hg, hdd⟩
      have HGS : Hid ((stepG np F D).Good) := stepG_good hp hg
      generalize hst : stepG np F D = R9 at *
      have HST : Hid (stepG np F D = R9) := hst
      clear hp hg hdd hst O7
      have HC : Hid (Blw w41 w41) := Blw.refl _
      obtain ⟨p0, p1, p2, p3, p4⟩ := get5 X6.out.box
      go_wp2_with fail
      clear p0 p1 p2 p3 p4
      refine (implRun_any ap cp np F u D 1 _ _ _ P5.out X6.out.at_ (fun x hx => hx)).mono ?_
      rintro e w4 ⟨u11, R11, x12, r13, rfl, ho, hs, own, hb⟩
      replace HB : Hid (Blw _ _) := Blw.trans HB.out hb
      replace HC : Hid (Blw _ _) := Blw.trans HC.out hb
      replace H2 : Hid (BY w4 ao2 n2 f2) := BY.blw H2.out hb
      replace P5 : Hid (PX w4 ap np F) := PX.blw P5.out hb
      replace X6 : Hid (GX w4 w1.heap.size u D) := GX.blw X6.out hb
      replace X7 : Hid (GX w4 w2.heap.size u7 R9) := GX.blw X7.out hb
      obtain ⟨rfl, rfl, rfl⟩ : R11 = R9 ∧ x12 = 1 ∧ r13 = true := by
        obtain ⟨h1, h2, h3⟩ := HG.out
        rcases ho with ⟨_, e1, e2, e3⟩ | ⟨q, _⟩
        · exact ⟨by rw [e1, ← HST.out]; exact (runG_next h3 0).1, by rw [e2]; show ((manyG np F (0 + 1) D : Nat) : Int) = 1; rw [(runG_next h3 0).2]; rfl, e3⟩
        · exact absurd ⟨h1, h2, ⟨by omega, by omega⟩⟩ q
      -- the names that stay
      have hA : Blw w4 (w4.alloc (.cells #[.int .i64 R11.at_, .int .i64 R11.acc, .slice u11.a1 R11.nc u11.c1, .slice u11.a2 R11.nt u11.c2, .bool R11.d] 61)) := (Blw.refl _).alloc _
      have hat9 : GAt (fun x => x < (w4.alloc (.cells #[.int .i64 R11.at_, .int .i64 R11.acc, .slice u11.a1 R11.nc u11.c1, .slice u11.a2 R11.nt u11.c2, .bool R11.d] 61)).heap.size) (w4.alloc (.cells #[.int .i64 R11.at_, .int .i64 R11.acc, .slice u11.a1 R11.nc u11.c1, .slice u11.a2 R11.nt u11.c2, .bool R11.d] 61)) u11 R11 := (GAt.blw own.at hA).mono (fun x hx => Nat.lt_of_lt_of_le hx.2 hA.size)
      have hro9 := row5 w4 (.int .i64 R11.at_) (.int .i64 R11.acc) (.slice u11.a1 R11.nc u11.c1) (.slice u11.a2 R11.nt u11.c2) (.bool R11.d) 61
      replace HB : Hid (Blw _ _) := Blw.trans HB.out hA
      replace HC : Hid (Blw _ _) := Blw.trans HC.out hA
      replace H2 : Hid (BY (w4.alloc (.cells #[.int .i64 R11.at_, .int .i64 R11.acc, .slice u11.a1 R11.nc u11.c1, .slice u11.a2 R11.nt u11.c2, .bool R11.d] 61)) ao2 n2 f2) := BY.blw H2.out hA
      replace P5 : Hid (PX (w4.alloc (.cells #[.int .i64 R11.at_, .int .i64 R11.acc, .slice u11.a1 R11.nc u11.c1, .slice u11.a2 R11.nt u11.c2, .bool R11.d] 61)) ap np F) := PX.blw P5.out hA
      replace X6 : Hid (GX (w4.alloc (.cells #[.int .i64 R11.at_, .int .i64 R11.acc, .slice u11.a1 R11.nc u11.c1, .slice u11.a2 R11.nt u11.c2, .bool R11.d] 61)) w1.heap.size u D) := GX.blw X6.out hA
      replace X7 : Hid (GX (w4.alloc (.cells #[.int .i64 R11.at_, .int .i64 R11.acc, .slice u11.a1 R11.nc u11.c1, .slice u11.a2 R11.nt u11.c2, .bool R11.d] 61)) w2.heap.size u7 R11) := GX.blw X7.out hA
      have X11 : Hid (GX (w4.alloc (.cells #[.int .i64 R11.at_, .int .i64 R11.acc, .slice u11.a1 R11.nc u11.c1, .slice u11.a2 R11.nt u11.c2, .bool R11.d] 61)) w4.heap.size u11 R11) := ⟨hat9, hro9⟩
      clear hA hat9 hro9
      clear own hb hs ho
      obtain ⟨p0, p1, p2, p3, p4⟩ := get5 X7.out.box
      go_wp2_with fail
      clear p0 p1 p2 p3 p4
      refine (implGoodG_any u7 R11 _ _ X7.out.at_ (fun x hx => hx)).mono ?_
      rintro e w5 ⟨rg, rfl, hg, hb⟩
      replace HB : Hid (Blw _ _) := Blw.trans HB.out hb
      replace HC : Hid (Blw _ _) := Blw.trans HC.out hb
      replace H2 : Hid (BY w5 ao2 n2 f2) := BY.blw H2.out hb
      replace P5 : Hid (PX w5 ap np F) := PX.blw P5.out hb
      replace X6 : Hid (GX w5 w1.heap.size u D) := GX.blw X6.out hb
      replace X7 : Hid (GX w5 w2.heap.size u7 R11) := GX.blw X7.out hb
      replace X11 : Hid (GX w5 w4.heap.size u11 R11) := GX.blw X11.out hb
      obtain rfl : rg = true := hg.2 HGS.out
      clear hg hb
      obtain ⟨p0, p1, p2, p3, p4⟩ := get5 X11.out.box
      obtain ⟨q0, q1, q2, q3, q4⟩ := get5 X7.out.box
      go_wp2_with fail
      clear p0 p1 p2 p3 p4 q0 q1 q2 q3 q4
      refine (sameGuest_same u11 u7 R11 _ X11.out.at_ X7.out.at_).mono ?_
      rintro e w6 ⟨rfl, hb⟩
      replace HB : Hid (Blw _ _) := Blw.trans HB.out hb
      replace HC : Hid (Blw _ _) := Blw.trans HC.out hb
      replace H2 : Hid (BY w6 ao2 n2 f2) := BY.blw H2.out hb
      replace P5 : Hid (PX w6 ap np F) := PX.blw P5.out hb
      replace X6 : Hid (GX w6 w1.heap.size u D) := GX.blw X6.out hb
      replace X7 : Hid (GX w6 w2.heap.size u7 R11) := GX.blw X7.out hb
      replace X11 : Hid (GX w6 w4.heap.size u11 R11) := GX.blw X11.out hb
      clear hb
      have FIN : Hid (Blw w41 w6) := HC.out
      clear HC HB X11 X7 X6 P5 H2 HG HGS HST
      go_wp2_with fail
      go_meet
      exact FIN.out
    case rest =>
      have hb := hcut
      clear hcut P5 X6 X7 O7
      replace HB : Hid (Blw _ _) := Blw.trans HB.out hb
      replace H2 : Hid (BY wc ao2 n2 f2) := BY.blw H2.out hb
      clear hb
      go_wp2_with fail
      refine (drawNewG_any ao2 n2 c2 f2 _ H2.out).mono ?_
      rintro e w7 ⟨a14, c14, g14, rfl, own, hb⟩
      replace HB : Hid (Blw _ _) := Blw.trans HB.out hb
      replace H2 : Hid (BY w7 ao2 n2 f2) := BY.blw H2.out hb
      have L14 : Hid (LI w7 a14 8 g14) := own.at.mono (fun x hx => hx.2)
      clear own hb
      clear H2
      go_wp2_with fail
      refine (implNewG_any a14 c14 8 g14 _ _ L14.out (fun x hx => hx)).mono ?_
      rintro e w8 ⟨u15, R15, r16, rfl, ho, hs, own, hb⟩
      replace HB : Hid (Blw _ _) := Blw.trans HB.out hb
      replace L14 : Hid (LI w8 a14 8 g14) := LI.blw L14.out hb
      have O15 : Hid (ngOut 8 g14 R15 r16) := ho
      have hA : Blw w8 (w8.alloc (.cells #[.int .i64 R15.at_, .int .i64 R15.acc, .slice u15.a1 R15.nc u15.c1, .slice u15.a2 R15.nt u15.c2, .bool R15.d] 61)) := (Blw.refl _).alloc _
      have hat9 : GAt (fun x => x < (w8.alloc (.cells #[.int .i64 R15.at_, .int .i64 R15.acc, .slice u15.a1 R15.nc u15.c1, .slice u15.a2 R15.nt u15.c2, .bool R15.d] 61)).heap.size) (w8.alloc (.cells #[.int .i64 R15.at_, .int .i64 R15.acc, .slice u15.a1 R15.nc u15.c1, .slice u15.a2 R15.nt u15.c2, .bool R15.d] 61)) u15 R15 := (GAt.blw own.at hA).mono (fun x hx => Nat.lt_of_lt_of_le hx.2 hA.size)
      have hro9 := row5 w8 (.int .i64 R15.at_) (.int .i64 R15.acc) (.slice u15.a1 R15.nc u15.c1) (.slice u15.a2 R15.nt u15.c2) (.bool R15.d) 61
      replace HB : Hid (Blw _ _) := Blw.trans HB.out hA
      replace L14 : Hid (LI (w8.alloc (.cells #[.int .i64 R15.at_, .int .i64 R15.acc, .slice u15.a1 R15.nc u15.c1, .slice u15.a2 R15.nt u15.c2, .bool R15.d] 61)) a14 8 g14) := LI.blw L14.out hA
      have X15 : Hid (GX (w8.alloc (.cells #[.int .i64 R15.at_, .int .i64 R15.acc, .slice u15.a1 R15.nc u15.c1, .slice u15.a2 R15.nt u15.c2, .bool R15.d] 61)) w8.heap.size u15 R15) := ⟨hat9, hro9⟩
      clear hA hat9 hro9
      clear own hb hs ho
      go_wp2_with fail
      refine (specNewG_any a14 c14 8 g14 _ _ (by omega) L14.out).mono ?_
      rintro e w9 ⟨u17, R17, r18, rfl, ho, hs, own, hb⟩
      replace HB : Hid (Blw _ _) := Blw.trans HB.out hb
      replace L14 : Hid (LI w9 a14 8 g14) := LI.blw L14.out hb
      replace X15 : Hid (GX w9 w8.heap.size u15 R15) := GX.blw X15.out hb
      obtain ⟨e1, e2⟩ := ngOut_same ho O15.out
      subst e1 e2
      have hA : Blw w9 (w9.alloc (.cells #[.int .i64 R17.at_, .int .i64 R17.acc, .slice u17.a1 R17.nc u17.c1, .slice u17.a2 R17.nt u17.c2, .bool R17.d] 61)) := (Blw.refl _).alloc _
      have hat9 : GAt (fun x => x < (w9.alloc (.cells #[.int .i64 R17.at_, .int .i64 R17.acc, .slice u17.a1 R17.nc u17.c1, .slice u17.a2 R17.nt u17.c2, .bool R17.d] 61)).heap.size) (w9.alloc (.cells #[.int .i64 R17.at_, .int .i64 R17.acc, .slice u17.a1 R17.nc u17.c1, .slice u17.a2 R17.nt u17.c2, .bool R17.d] 61)) u17 R17 := (GAt.blw own.at hA).mono (fun x hx => Nat.lt_of_lt_of_le hx.2 hA.size)
      have hro9 := row5 w9 (.int .i64 R17.at_) (.int .i64 R17.acc) (.slice u17.a1 R17.nc u17.c1) (.slice u17.a2 R17.nt u17.c2) (.bool R17.d) 61
      replace HB : Hid (Blw _ _) := Blw.trans HB.out hA
      replace L14 : Hid (LI (w9.alloc (.cells #[.int .i64 R17.at_, .int .i64 R17.acc, .slice u17.a1 R17.nc u17.c1, .slice u17.a2 R17.nt u17.c2, .bool R17.d] 61)) a14 8 g14) := LI.blw L14.out hA
      replace X15 : Hid (GX (w9.alloc (.cells #[.int .i64 R17.at_, .int .i64 R17.acc, .slice u17.a1 R17.nc u17.c1, .slice u17.a2 R17.nt u17.c2, .bool R17.d] 61)) w8.heap.size u15 R17) := GX.blw X15.out hA
      have X17 : Hid (GX (w9.alloc (.cells #[.int .i64 R17.at_, .int .i64 R17.acc, .slice u17.a1 R17.nc u17.c1, .slice u17.a2 R17.nt u17.c2, .bool R17.d] 61)) w9.heap.size u17 R17) := ⟨hat9, hro9⟩
      clear hA hat9 hro9
      clear own hb hs ho
      clear L14
      have q1 : (r18 == r18) = true := by simp
      obtain ⟨p0, p1, p2, p3, p4⟩ := get5 X15.out.box
      obtain ⟨q0, q1, q2, q3, q4⟩ := get5 X17.out.box
      go_wp2_with fail
      clear p0 p1 p2 p3 p4 q0 q1 q2 q3 q4
      refine (sameGuest_same u15 u17 R17 _ X15.out.at_ X17.out.at_).mono ?_
      rintro e w10 ⟨rfl, hb⟩
      replace HB : Hid (Blw _ _) := Blw.trans HB.out hb
      replace X15 : Hid (GX w10 w8.heap.size u15 R17) := GX.blw X15.out hb
      replace X17 : Hid (GX w10 w9.heap.size u17 R17) := GX.blw X17.out hb
      clear hb
      clear X15 X17
      go_wp2
      go_ret
      exact ⟨rfl, HB.out⟩
end Go.Proofs.Ytbpdopcdhnemfaa
/- Programs and guests that come in: opened. -/
namespace Go.Proofs.Ytbpdopcdhnemfaa
open Go.ChangeShapes Go.WideShapes Go.ChangeAt Go.RowKit Go.Joins Go.Deep
set_option linter.unusedVariables false
set_option linter.unusedSimpArgs false
section
variable {H : Type} {enc : TypeId × Value → H} {w : World} {base : Nat} {spare : Nat → Bool} {held : Bool}
theorem cellsIL : Try.prog.cellsOf 177 = 3 := by kernel_rfl
theorem cellsGL : Try.prog.cellsOf 94 = 5 := by kernel_rfl
theorem cells_26 : Try.prog.cellsOf 26 = 1 := by kernel_rfl
theorem cells_4 : Try.prog.cellsOf 4 = 1 := by kernel_rfl
set_option maxRecDepth 10000 in
theorem open_insAt {fuel : Nat} {v : Value} {x : DataW H × List MemPlace} (h : DataW.trod enc Try.prog w base spare held fuel 89 [v] = some x) :
    ∃ ao n c F, v = .slice ao n c ∧ KAt 3 (fun b => b < w.heap.size) w ao n F := by
  rcases open_slice Try.underlying89 h with ⟨hcs, _⟩ | ⟨a, len, cap, m, nn, D, Pl, hcs, hb, hl, hm, hmm, -, hx⟩
  · simp only [List.cons.injEq, and_true] at hcs
    exact ⟨none, 0, 0, fun _ _ => 0, hcs, by omega, fun i hi => absurd hi (Nat.not_lt_zero _)⟩
  · simp only [List.cons.injEq, and_true] at hcs
    have hml : len ≤ m := by rw [hmm]; split <;> omega
    unfold maxLen at hm
    have each : ∀ i, i < len → ∃ q : Int × Int × Int, w.cell? (a.add (i * 3)) = some (.int .i64 q.1) ∧ w.cell? (a.add (i * 3 + 1)) = some (.int .i64 q.2.1) ∧ w.cell? (a.add (i * 3 + 2)) = some (.int .i64 q.2.2) := fun i hi => by
      obtain ⟨cs', h1, h2⟩ := hx i (by omega)
      rw [cellsIL] at h1
      obtain ⟨_, hlen, hcell⟩ := World.cells?_some h1
      obtain ⟨xs, k, hk, hxy, _, hxl, hf⟩ := DataW.trod_struct Try.underlying177 h2
      match xs, hxl, cs', hlen with
      | [y0, y1, y2], _, [v0, v1, v2], _ =>
        have g0 := hf 0 _ rfl
        have g1 := hf 1 _ rfl
        have g2 := hf 2 _ rfl
        simp [cells3] at g0 g1 g2
        have e0 := hcell 0 (by omega)
        have e1 := hcell 1 (by omega)
        have e2 := hcell 2 (by omega)
        rw [add_add] at e0 e1 e2
        obtain ⟨a0, q0, _⟩ := DataW.trod_int Try.underlying3 g0
        obtain ⟨a1, q1, _⟩ := DataW.trod_int Try.underlying3 g1
        obtain ⟨a2, q2, _⟩ := DataW.trod_int Try.underlying3 g2
        simp only [List.cons.injEq, and_true] at q0 q1 q2
        subst q0 q1 q2
        exact ⟨(a0, a1, a2), by simpa using e0, by simpa using e1, by simpa using e2⟩
    obtain ⟨T, hT⟩ := Go.Deep.choose_lt each
    refine ⟨some a, len, cap, fun i c => if c = 0 then (T i).1 else if c = 1 then (T i).2.1 else (T i).2.2, hcs, by omega, fun i hi => ?_⟩
    have ha := addr_of_cell (by simpa [Addr.add] using (hT 0 (by omega)).1)
    obtain ⟨c0, c1, c2⟩ := hT i hi
    rw [ha, Addr.add_mid] at c0 c1 c2
    refine ⟨a.block, a.off, by rw [← ha], World.block_lt_of_cell? w ⟨a.block, a.off + i * 3, none⟩ c0, fun c hc => ?_⟩
    match c, hc with
    | 0, _ => simpa using c0
    | 1, _ => simpa [Nat.add_assoc] using c1
    | 2, _ => simpa [Nat.add_assoc] using c2
set_option maxRecDepth 100000 in
/-- A guest by value. -/
theorem open_guest {r : Reach} {b0 : Nat} {v : Value} {d : DataW H} {p : List MemPlace} (hv : Value.okWide Try.prog w r b0 94 v) (h : DataW.Trod enc Try.prog w base spare held 94 v d p) :
    ∃ (u : GV) (D : GD), v = u.val D ∧ GAt (fun b => b < w.heap.size) w u D := by
  obtain ⟨cs, rfl, hsz⟩ := okWide_struct Try.underlying94 hv
  obtain ⟨fuel, hf⟩ := h
  obtain ⟨xs, k, hk, hxy, _, hxl, hf⟩ := DataW.trod_struct Try.underlying94 hf
  have hl : cs.toList.length = 5 := by rw [Array.length_toList, hsz]; exact cellsGL
  obtain ⟨cl, rfl⟩ : ∃ l : List Value, cs = l.toArray := ⟨cs.toList, by simp⟩
  match xs, hxl, cl, hl with
  | [y0, y1, y2, y3, y4], _, [v0, v1, v2, v3, v4], _ =>
    have g0 := hf 0 _ rfl
    have g1 := hf 1 _ rfl
    have g2 := hf 2 _ rfl
    have g3 := hf 3 _ rfl
    have g4 := hf 4 _ rfl
    simp [Value.cells, cells3, cells_26, cells_4] at g0 g1 g2 g3 g4
    obtain ⟨a0, q0, _⟩ := DataW.trod_int Try.underlying3 g0
    obtain ⟨a1, q1, _⟩ := DataW.trod_int Try.underlying3 g1
    obtain ⟨ao1, n1, c1, f1, e1, m1⟩ := open_intsAt g2
    obtain ⟨ao2, n2, c2, f2, e2, m2⟩ := open_intsAt g3
    obtain ⟨b4, q4, _⟩ := DataW.trod_bool Try.underlying4 g4
    simp only [List.cons.injEq, and_true] at q0 q1 q4
    subst q0 q1 q4 e1 e2
    exact ⟨⟨ao1, ao2, c1, c2⟩, ⟨a0, a1, n1, f1, n2, f2, b4⟩, rfl, ⟨m1, m2⟩⟩
end
end Go.Proofs.Ytbpdopcdhnemfaa
