/- Merged by program, in this order: Ng. -/
import Derived.Test.YtbpdopcdhnemfaaJoin11
/- NewGuest, the model's and the program's. -/
namespace Go.Proofs.Ytbpdopcdhnemfaa
open Go.RowKit
set_option linter.unusedSimpArgs false
set_option linter.unusedVariables false
def ngOut (nc : Nat) (fc : Nat → Int) (R : GD) (r : Bool) : Prop := (GD.Good (⟨0, 0, nc, fc, 0, fun _ => 0, false⟩ : GD) ∧ R = (⟨0, 0, nc, fc, 0, fun _ => 0, false⟩ : GD) ∧ r = true) ∨ (¬ GD.Good (⟨0, 0, nc, fc, 0, fun _ => 0, false⟩ : GD) ∧ R = GD.zero ∧ r = false)
theorem ngOut_same {nc : Nat} {fc : Nat → Int} {R R' : GD} {r r' : Bool} (h : ngOut nc fc R r) (k : ngOut nc fc R' r') : R = R' ∧ r = r' := by
  rcases h with ⟨g, rfl, rfl⟩ | ⟨g, rfl, rfl⟩ <;> rcases k with ⟨l, rfl, rfl⟩ | ⟨l, rfl, rfl⟩
  · exact ⟨rfl, rfl⟩
  · exact absurd g l
  · exact absurd l g
  · exact ⟨rfl, rfl⟩
theorem gat_new {Y : Nat → Prop} {w : World} {a : Option Addr} {nc : Nat} {fc : Nat → Int} (c : Nat) (h : IntsAt Y w a nc fc) : GAt Y w (⟨a, none, c, 0⟩ : GV) (⟨0, 0, nc, fc, 0, fun _ => 0, false⟩ : GD) := ⟨h, ⟨by show 0 ≤ _; omega, fun i hi => absurd hi (Nat.not_lt_zero _)⟩⟩
theorem gown_new {X Z : Nat → Prop} {w : World} {a : Option Addr} {nc : Nat} {fc : Nat → Int} (c : Nat) (h : IntsOwn X w a nc fc) (hz : ∀ b, X b → Z b) : GOwn Z w (⟨a, none, c, 0⟩ : GV) (⟨0, 0, nc, fc, 0, fun _ => 0, false⟩ : GD) := ⟨X, fun _ => False, fun b hb => ⟨hz b hb, id⟩, fun _ h => h.elim, h, IntsOwn.nil' _ _ _ _⟩
set_option maxRecDepth 10000 in
set_option maxHeartbeats 3200000 in
theorem specNew_any (ac : Option Addr) (cc nc : Nat) (fc : Nat → Int) (Y : Nat → Prop) (w : World) (hn : nc ≤ 1048576) (h : IntsAt Y w ac nc fc) :
    Calls Try.prog 57 #[.slice ac nc cc] w fun e w' => ∃ (u : GV) (R : GD) (r : Bool), e = .returned (.tuple #[u.val R, .bool r]) ∧ ngOut nc fc R r ∧ R.small ∧ GOwn (fun x => w.heap.size ≤ x ∧ x < w'.heap.size) w' u R ∧ Blw w w' := by
  have HB : Hid (Blw w (w.alloc (.cells #[.int .i64 0, .int .i64 0, .slice none 0 0, .slice none 0 0, .bool false] 61))) := (Blw.refl _).alloc _
  have HZ : Hid (Row (w.alloc (.cells #[.int .i64 0, .int .i64 0, .slice none 0 0, .slice none 0 0, .bool false] 61)) w.heap.size 5 (fun i => if i = 0 then .int .i64 0 else if i = 1 then .int .i64 0 else if i = 2 then .slice none 0 0 else if i = 3 then .slice none 0 0 else .bool false)) := row5 w _ _ _ _ _ 61
  have HS1 : Hid ((w.alloc (.cells #[.int .i64 0, .int .i64 0, .slice none 0 0, .slice none 0 0, .bool false] 61)).heap.size = w.heap.size + 1) := by show _ = _; simp
  have HI : Hid (IntsAt Y (w.alloc (.cells #[.int .i64 0, .int .i64 0, .slice none 0 0, .slice none 0 0, .bool false] 61)) ac nc fc) := h.blw HB.out
  clear h
  go_enter Try.func57, Try.ntmps57
  go_upto_region 1 with fail
  generalize (w.alloc (.cells #[.int .i64 0, .int .i64 0, .slice none 0 0, .slice none 0 0, .bool false] 61)) = w1 at *
  obtain ⟨a1, q1, w2, r1, b1, m1⟩ := copyI HI.out hn cc
  have r9 := row5 w2 (.int .i64 0) (.int .i64 0) (.slice a1 nc q1) (.slice none 0 0) (.bool false) 61
  have hA : Blw w2 (w2.alloc (.cells #[.int .i64 0, .int .i64 0, .slice a1 nc q1, .slice none 0 0, .bool false] 61)) := (Blw.refl _).alloc _
  have HO : Hid (IntsOwn (fun b => w1.heap.size ≤ b ∧ b < w2.heap.size) (w2.alloc (.cells #[.int .i64 0, .int .i64 0, .slice a1 nc q1, .slice none 0 0, .bool false] 61)) a1 nc fc) := (b1.own' (by omega)).blw hA
  have HS2 : Hid (w.heap.size + 1 ≤ w2.heap.size) := by have := m1.size; have := HS1.out; show _ ≤ _; omega
  have HR9 : Hid (Row (w2.alloc (.cells #[.int .i64 0, .int .i64 0, .slice a1 nc q1, .slice none 0 0, .bool false] 61)) w2.heap.size 5 _) := r9
  replace HZ : Hid (Row (w2.alloc (.cells #[.int .i64 0, .int .i64 0, .slice a1 nc q1, .slice none 0 0, .bool false] 61)) w.heap.size 5 (fun i => if i = 0 then .int .i64 0 else if i = 1 then .int .i64 0 else if i = 2 then .slice none 0 0 else if i = 3 then .slice none 0 0 else .bool false)) := (HZ.out.blw m1).blw hA
  replace HB : Hid (Blw w (w2.alloc (.cells #[.int .i64 0, .int .i64 0, .slice a1 nc q1, .slice none 0 0, .bool false] 61))) := (HB.out.trans m1).trans hA
  have HS3 : Hid ((w2.alloc (.cells #[.int .i64 0, .int .i64 0, .slice a1 nc q1, .slice none 0 0, .bool false] 61)).heap.size = w2.heap.size + 1) := by show _ = _; simp
  have R1 : Hid _ := r1
  clear m1 b1 hA HI r1
  obtain ⟨p0, p1, p2, p3, p4⟩ := get5 r9
  clear r9
  go_wp2_with (first | (at_builtin; refine wpList_append_at rfl (.tmp 5) (.tmp 6) 26 rfl ?_; refine ⟨_, _, R1.out, ?_⟩) | fail)
  clear p0 p1 p2 p3 p4 R1
  generalize (w2.alloc (.cells #[.int .i64 0, .int .i64 0, .slice a1 nc q1, .slice none 0 0, .bool false] 61)) = w3 at *
  refine (specGoodG_any (⟨a1, none, q1, 0⟩ : GV) (⟨0, 0, nc, fc, 0, fun _ => 0, false⟩ : GD) _ _ (gat_new q1 HO.out.at)).mono ?_
  rintro e w4 ⟨r, rfl, hr, hb⟩
  have H1 : Hid (r = true ↔ GD.Good (⟨0, 0, nc, fc, 0, fun _ => 0, false⟩ : GD)) := hr
  have hzz := HZ.out.blw hb
  have hbb := HB.out.trans hb
  have hoo := HO.out.blw hb
  have h99 := HR9.out.blw hb
  have HS4 : Hid (w3.heap.size ≤ w4.heap.size) := hb.size
  replace HZ : Hid (Row w4 w.heap.size 5 (fun i => if i = 0 then .int .i64 0 else if i = 1 then .int .i64 0 else if i = 2 then .slice none 0 0 else if i = 3 then .slice none 0 0 else .bool false)) := hzz
  replace HB : Hid (Blw w w4) := hbb
  replace HO : Hid (IntsOwn _ w4 a1 nc fc) := hoo
  replace HR9 : Hid (Row w4 w2.heap.size 5 _) := h99
  clear hr hb hzz hbb hoo h99
  cases r
  · have HN : Hid (¬ GD.Good (⟨0, 0, nc, fc, 0, fun _ => 0, false⟩ : GD)) := fun g => by have := H1.out.2 g; cases this
    clear H1
    obtain ⟨t0, t1, t2, t3, t4⟩ := get5 HZ.out
    have f0 := HZ.out.frozen 0; have f1 := HZ.out.frozen 1; have f2 := HZ.out.frozen 2; have f3 := HZ.out.frozen 3; have f4 := HZ.out.frozen 4
    have m1 := set5_modG w4 w.heap.size (.int .i64 0) (.int .i64 0) (.slice none 0 0) (.slice none 0 0) (.bool false) (X := fun x => x = w.heap.size) rfl
    have HBF : Hid _ := Mod.blw HB.out m1 (fun i hi => by omega)
    clear m1 HZ HB
    go_wp2
    refine bodyPost_ret (v := .tuple #[GV.val GV.zero GD.zero, .bool false]) (by simp [results, Try.results57, go_sem, t0, t1, t2, t3, t4]) rfl ⟨_, _, _, rfl, Or.inr ⟨HN.out, rfl, rfl⟩, GD.zero_small, GOwn.zero _ _, HBF.out⟩
  have HG : Hid (GD.Good (⟨0, 0, nc, fc, 0, fun _ => 0, false⟩ : GD)) := H1.out.1 (by first | rfl | trivial)
  clear H1
  obtain ⟨t0, t1, t2, t3, t4⟩ := get5 HZ.out
  have f0 := HZ.out.frozen 0; have f1 := HZ.out.frozen 1; have f2 := HZ.out.frozen 2; have f3 := HZ.out.frozen 3; have f4 := HZ.out.frozen 4
  obtain ⟨p0, p1, p2, p3, p4⟩ := get5 HR9.out
  have m1 := set5_modG w4 w.heap.size (.int .i64 0) (.int .i64 0) (.slice a1 nc q1) (.slice none 0 0) (.bool false) (X := fun x => x = w.heap.size) rfl
  have m2 := m1.size
  have hs1 := HS1.out; have hs2 := HS2.out; have hs3 := HS3.out; have hs4 := HS4.out
  have HF : Hid (_ ∧ _) := And.intro (gown_new (Z := fun x => w.heap.size ≤ x ∧ x < _) q1 (HO.out.mod' m1 (fun b hb => by omega)) (fun b hb => ⟨by omega, Nat.lt_of_lt_of_le (by omega : b < w4.heap.size) m2⟩)) (Mod.blw HB.out m1 (fun i hi => by omega))
  clear m1 m2 hs1 hs2 hs3 hs4 HO HZ HB HR9 HS1 HS2 HS3 HS4
  go_wp2
  refine bodyPost_ret (v := .tuple #[GV.val (⟨a1, none, q1, 0⟩ : GV) (⟨0, 0, nc, fc, 0, fun _ => 0, false⟩ : GD), .bool true]) (by simp [results, Try.results57, go_sem, t0, t1, t2, t3, t4, GV.val]) rfl ⟨_, (⟨0, 0, nc, fc, 0, fun _ => 0, false⟩ : GD), _, rfl, Or.inl ⟨HG.out, rfl, rfl⟩, HG.out.small, HF.out.1, HF.out.2⟩
set_option maxRecDepth 10000 in
set_option maxHeartbeats 3200000 in
theorem implNew_any (ac : Option Addr) (cc nc : Nat) (fc : Nat → Int) (Y : Nat → Prop) (w : World) (h : IntsAt Y w ac nc fc) (hY : ∀ b, Y b → b < w.heap.size) :
    Calls Try.prog 56 #[.slice ac nc cc] w fun e w' => ∃ (u : GV) (R : GD) (r : Bool), e = .returned (.tuple #[u.val R, .bool r]) ∧ ngOut nc fc R r ∧ R.small ∧ GOwn (fun x => w.heap.size ≤ x ∧ x < w'.heap.size) w' u R ∧ Blw w w' := by
  have HB : Hid (Blw w (w.alloc (.cells #[.int .i64 0, .int .i64 0, .slice none 0 0, .slice none 0 0, .bool false] 61))) := (Blw.refl _).alloc _
  have HZ : Hid (Row (w.alloc (.cells #[.int .i64 0, .int .i64 0, .slice none 0 0, .slice none 0 0, .bool false] 61)) w.heap.size 5 (fun i => if i = 0 then .int .i64 0 else if i = 1 then .int .i64 0 else if i = 2 then .slice none 0 0 else if i = 3 then .slice none 0 0 else .bool false)) := row5 w _ _ _ _ _ 61
  have HS1 : Hid ((w.alloc (.cells #[.int .i64 0, .int .i64 0, .slice none 0 0, .slice none 0 0, .bool false] 61)).heap.size = w.heap.size + 1) := by show _ = _; simp
  have HI : Hid (IntsAt Y (w.alloc (.cells #[.int .i64 0, .int .i64 0, .slice none 0 0, .slice none 0 0, .bool false] 61)) ac nc fc) := h.blw HB.out
  have HYY : Hid (∀ b, Y b → b < (w.alloc (.cells #[.int .i64 0, .int .i64 0, .slice none 0 0, .slice none 0 0, .bool false] 61)).heap.size) := fun b hb => Nat.lt_of_lt_of_le (hY b hb) HB.out.size
  clear h hY
  go_enter Try.func56, Try.ntmps56
  go_upto_region 1 with fail
  generalize (w.alloc (.cells #[.int .i64 0, .int .i64 0, .slice none 0 0, .slice none 0 0, .bool false] 61)) = w1 at *
  go_wp2_with fail
  refine (holdGuest_any (⟨ac, none, cc, 0⟩ : GV) (⟨0, 0, nc, fc, 0, fun _ => 0, false⟩ : GD) Y _ (gat_new cc HI.out) HYY.out).mono ?_
  rintro e w3 ⟨⟨hg, rfl⟩ | ⟨hg, rfl⟩, hb⟩
  case inr =>
    have HN : Hid (¬ GD.Good (⟨0, 0, nc, fc, 0, fun _ => 0, false⟩ : GD)) := hg
    have HS3 : Hid (w.heap.size + 1 ≤ w3.heap.size) := by have := hb.size; have := HS1.out; show _ ≤ _; omega
    have hzz := HZ.out.blw hb
    have hbb := HB.out.trans hb
    clear hg hb HI HYY HS1 HZ HB
    have HZ : Hid (Row w3 w.heap.size 5 (fun i => if i = 0 then .int .i64 0 else if i = 1 then .int .i64 0 else if i = 2 then .slice none 0 0 else if i = 3 then .slice none 0 0 else .bool false)) := hzz
    have HB : Hid (Blw w w3) := hbb
    clear hzz hbb
    go_upto_region 2 with (first | (refine alloc_big rfl 148 rfl 32 hz zeroH ?_; intro wa RA hba hsa) | (refine store_big rfl 148 _ _ rfl _ 32 hz hz rfl rfl wdH RA (fun i _ => hcf_one _ _ _ _ _ _ i) ?_; intro wb RB hmb hsb) | fail)
    have hs3 := HS3.out
    replace HZ : Hid (Row wb w.heap.size 5 (fun i => if i = 0 then .int .i64 0 else if i = 1 then .int .i64 0 else if i = 2 then .slice none 0 0 else if i = 3 then .slice none 0 0 else .bool false)) := (HZ.out.blw hba).mod hmb (by omega)
    replace HB : Hid (Blw w wb) := Mod.blw (HB.out.trans hba) hmb (fun i hi => by omega)
    clear RA hba hsa RB hmb hsb hs3 HS3
    obtain ⟨t0, t1, t2, t3, t4⟩ := get5 HZ.out
    have f0 := HZ.out.frozen 0; have f1 := HZ.out.frozen 1; have f2 := HZ.out.frozen 2; have f3 := HZ.out.frozen 3; have f4 := HZ.out.frozen 4
    have m1 := set5_modG wb w.heap.size (.int .i64 0) (.int .i64 0) (.slice none 0 0) (.slice none 0 0) (.bool false) (X := fun x => x = w.heap.size) rfl
    have HBF : Hid _ := Mod.blw HB.out m1 (fun i hi => by omega)
    clear m1 HZ HB
    go_wp2
    refine bodyPost_ret (v := .tuple #[GV.val GV.zero GD.zero, .bool false]) (by simp [results, Try.results56, go_sem, t0, t1, t2, t3, t4]) rfl ⟨_, _, _, rfl, Or.inr ⟨HN.out, rfl, rfl⟩, GD.zero_small, GOwn.zero _ _, HBF.out⟩
  have HG : Hid (GD.Good (⟨0, 0, nc, fc, 0, fun _ => 0, false⟩ : GD)) := hg
  have HS3 : Hid (w.heap.size + 1 ≤ w3.heap.size) := by have := hb.size; have := HS1.out; show _ ≤ _; omega
  have hzz := HZ.out.blw hb
  have hbb := HB.out.trans hb
  clear hg hb HI HYY HS1 HZ HB
  have HZ : Hid (Row w3 w.heap.size 5 (fun i => if i = 0 then .int .i64 0 else if i = 1 then .int .i64 0 else if i = 2 then .slice none 0 0 else if i = 3 then .slice none 0 0 else .bool false)) := hzz
  have HB : Hid (Blw w w3) := hbb
  clear hzz hbb
  go_upto_region 2 with (first | (refine alloc_big rfl 148 rfl 32 hz zeroH ?_; intro wa RA hba hsa) | (refine store_big rfl 148 _ _ rfl _ 32 (hc (⟨0, 0, nc, fc, 0, fun _ => 0, false⟩ : GD)) hz rfl rfl wdH RA (fun i _ => hc_one _ i) ?_; intro wb RB hmb hsb) | fail)
  have hs3 := HS3.out
  replace HZ : Hid (Row wb w.heap.size 5 (fun i => if i = 0 then .int .i64 0 else if i = 1 then .int .i64 0 else if i = 2 then .slice none 0 0 else if i = 3 then .slice none 0 0 else .bool false)) := (HZ.out.blw hba).mod hmb (by omega)
  replace HB : Hid (Blw w wb) := Mod.blw (HB.out.trans hba) hmb (fun i hi => by omega)
  have HCL : Hid (Cells wb w3.heap.size 0 32 (hc (⟨0, 0, nc, fc, 0, fun _ => 0, false⟩ : GD))) := by have hq := RB.cells; exact hq
  have HZ3 : Hid (w.heap.size < wb.heap.size) := HZ.out.lt
  clear RA hba hsa RB hmb hsb hs3 HS3
  generalize w3.heap.size = zm at *
  go_wp2_with fail
  refine (giveOut0_any zm (⟨0, 0, nc, fc, 0, fun _ => 0, false⟩ : GD) _ HG.out HCL.out).mono ?_
  rintro e w4 ⟨u', rfl, own, hb4⟩
  have hz3 := HZ3.out
  have hs4 := hb4.size
  have hzz := HZ.out.blw hb4
  obtain ⟨t0, t1, t2, t3, t4⟩ := get5 hzz
  have f0 := hzz.frozen 0; have f1 := hzz.frozen 1; have f2 := hzz.frozen 2; have f3 := hzz.frozen 3; have f4 := hzz.frozen 4
  generalize hR : (⟨0, 0, nc, fc, 0, fun _ => 0, false⟩ : GD) = R at *
  have HRE : Hid ((⟨0, 0, nc, fc, 0, fun _ => 0, false⟩ : GD) = R) := hR
  clear hR
  have m1 := set5_modG w4 w.heap.size (.int .i64 R.at_) (.int .i64 R.acc) (.slice u'.a1 R.nc u'.c1) (.slice u'.a2 R.nt u'.c2) (.bool R.d) (X := fun x => x = w.heap.size) rfl
  have m2 := m1.size
  have hs1 := HB.out.size
  have HF : Hid (_ ∧ _) := And.intro ((own.mod m1 (fun b hb => by omega)).mono (Y := fun x => w.heap.size ≤ x ∧ x < _) (fun b hb => ⟨by omega, Nat.lt_of_lt_of_le hb.2 m2⟩)) (Mod.blw (HB.out.trans hb4) m1 (fun i hi => by omega))
  clear m1 m2 hzz own hb4 HZ HB HCL hz3 hs4 HZ3 hs1
  go_wp2
  refine bodyPost_ret (v := .tuple #[GV.val u' R, .bool true]) (by simp [results, Try.results56, go_sem, t0, t1, t2, t3, t4]) rfl ⟨_, R, _, rfl, Or.inl ⟨by rw [HRE.out]; exact HG.out, HRE.out.symm, rfl⟩, HG.out.small, HF.out.1, HF.out.2⟩
end Go.Proofs.Ytbpdopcdhnemfaa
