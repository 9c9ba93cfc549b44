/- The law on SameGuest. -/
import Derived.Test.YtbpdopcdhnemfaaJoin6
namespace Go.Proofs.Ytbpdopcdhnemfaa
open Go.RowKit
set_option linter.unusedSimpArgs false
set_option linter.unusedVariables false
set_option maxRecDepth 10000 in
set_option maxHeartbeats 6400000 in
theorem lawSG (g0 : GV) (D0 : GD) (g1 : GV) (D1 : GD) (w : World) (hg0 : GAt (fun x => x < w.heap.size) w g0 D0) (hg1 : GAt (fun x => x < w.heap.size) w g1 D1) : Calls Try.prog 14 #[g0.val D0, g1.val D1] w fun e w' => e = .returned (.bool true) ∧ Blw w w' := by
  have HB : Hid (Blw w ((w.alloc (.cells #[.int .i64 D0.at_, .int .i64 D0.acc, .slice g0.a1 D0.nc g0.c1, .slice g0.a2 D0.nt g0.c2, .bool D0.d] 94)).alloc (.cells #[.int .i64 D1.at_, .int .i64 D1.acc, .slice g1.a1 D1.nc g1.c1, .slice g1.a2 D1.nt g1.c2, .bool D1.d] 94))) := (((Blw.refl _).alloc _).alloc _)
  have HG0 : Hid (St (fun x => x < w.heap.size + 2) (ArgG w.heap.size w.heap.size g0 D0) ((w.alloc (.cells #[.int .i64 D0.at_, .int .i64 D0.acc, .slice g0.a1 D0.nc g0.c1, .slice g0.a2 D0.nt g0.c2, .bool D0.d] 94)).alloc (.cells #[.int .i64 D1.at_, .int .i64 D1.acc, .slice g1.a1 D1.nc g1.c1, .slice g1.a2 D1.nt g1.c2, .bool D1.d] 94))) := ArgG.st ⟨hg0.blw HB.out, (row5 w (.int .i64 D0.at_) (.int .i64 D0.acc) (.slice g0.a1 D0.nc g0.c1) (.slice g0.a2 D0.nt g0.c2) (.bool D0.d) 94).blw (((Blw.refl _).alloc _))⟩ (by omega) (by omega) (by (try simp only [World.size_alloc]); omega)
  clear hg0
  have HG1 : Hid (St (fun x => x < w.heap.size + 2) (ArgG w.heap.size (w.heap.size + 1) g1 D1) ((w.alloc (.cells #[.int .i64 D0.at_, .int .i64 D0.acc, .slice g0.a1 D0.nc g0.c1, .slice g0.a2 D0.nt g0.c2, .bool D0.d] 94)).alloc (.cells #[.int .i64 D1.at_, .int .i64 D1.acc, .slice g1.a1 D1.nc g1.c1, .slice g1.a2 D1.nt g1.c2, .bool D1.d] 94))) := ArgG.st ⟨hg1.blw HB.out, by have hq := row5 (w.alloc (.cells #[.int .i64 D0.at_, .int .i64 D0.acc, .slice g0.a1 D0.nc g0.c1, .slice g0.a2 D0.nt g0.c2, .bool D0.d] 94)) (.int .i64 D1.at_) (.int .i64 D1.acc) (.slice g1.a1 D1.nc g1.c1) (.slice g1.a2 D1.nt g1.c2) (.bool D1.d) 94; simpa only [World.size_alloc] using hq⟩ (by omega) (by omega) (by (try simp only [World.size_alloc]); omega)
  clear hg1
  go_enter Try.func14, Try.ntmps14
  obtain ⟨p00, p01, p02, p03, p04⟩ := get5 HG0.out.out.box
  go_wp2_with fail
  clear p00 p01 p02 p03 p04
  generalize (w.alloc (.cells #[.int .i64 D0.at_, .int .i64 D0.acc, .slice g0.a1 D0.nc g0.c1, .slice g0.a2 D0.nt g0.c2, .bool D0.d] 94)).alloc (.cells #[.int .i64 D1.at_, .int .i64 D1.acc, .slice g1.a1 D1.nc g1.c1, .slice g1.a2 D1.nt g1.c2, .bool D1.d] 94) = w1 at *
  refine (szGuest_any g0 D0 _ 1048576 _ (by omega) (by omega) HG0.out.out.at_).mono ?_
  rintro e w2 ⟨s0, rfl, hr, hb⟩
  replace HG0 : Hid (St (fun x => x < w.heap.size + 2) (ArgG w.heap.size w.heap.size g0 D0) w2) := HG0.out.blw hb
  replace HG1 : Hid (St (fun x => x < w.heap.size + 2) (ArgG w.heap.size (w.heap.size + 1) g1 D1) w2) := HG1.out.blw hb
  replace HB : Hid (Blw w w2) := HB.out.trans hb
  clear hb
  rcases hr with rfl | ⟨u0, u1⟩
  · go_wp2
    go_ret
    exact ⟨rfl, HB.out⟩
  have hr0 : ¬ s0 < 0 := by omega
  have SM0 : Hid (D0.small) := by show D0.small; unfold GD.small; omega
  have hsl0 : s0 ≤ 1048576 := by omega
  clear u1
  obtain ⟨p00, p01, p02, p03, p04⟩ := get5 HG1.out.out.box
  go_wp2_with fail
  clear p00 p01 p02 p03 p04
  refine (szGuest_any g1 D1 _ s0 _ (by omega) (by omega) HG1.out.out.at_).mono ?_
  rintro e w3 ⟨s1, rfl, hr, hb⟩
  clear hr0
  replace HG0 : Hid (St (fun x => x < w.heap.size + 2) (ArgG w.heap.size w.heap.size g0 D0) w3) := HG0.out.blw hb
  replace HG1 : Hid (St (fun x => x < w.heap.size + 2) (ArgG w.heap.size (w.heap.size + 1) g1 D1) w3) := HG1.out.blw hb
  replace HB : Hid (Blw w w3) := HB.out.trans hb
  clear hb
  rcases hr with rfl | ⟨u0, u1⟩
  · go_wp2
    go_ret
    exact ⟨rfl, HB.out⟩
  have hr0 : ¬ s1 < 0 := by omega
  have SM1 : Hid (D1.small) := by show D1.small; unfold GD.small; omega
  have hsl1 : s1 ≤ 1048576 := by omega
  clear u1
  have HD : Hid True := trivial
  go_upto_region 8 with fail
  go_cut [6, 7] from 6 to 29 (fun c0 c1 wx => DrBB w3 (sgOut D0 D1) c0 c1 wx)
  case first =>
    have HBW : Hid (Blw w3 w3.drew) := (Blw.refl _).drew
    refine wp_region_noPanic ?_
    refine wp_region_held_drew (S := fun w' => w'.cell? ⟨w.heap.size, 0, none⟩ = some (.int .i64 D0.at_) ∧ w'.cell? ⟨w.heap.size, 1, none⟩ = some (.int .i64 D0.acc) ∧ w'.cell? ⟨w.heap.size, 2, none⟩ = some (.slice g0.a1 D0.nc g0.c1) ∧ w'.cell? ⟨w.heap.size, 3, none⟩ = some (.slice g0.a2 D0.nt g0.c2) ∧ w'.cell? ⟨w.heap.size, 4, none⟩ = some (.bool D0.d) ∧ w'.cell? ⟨w.heap.size + 1, 0, none⟩ = some (.int .i64 D1.at_) ∧ w'.cell? ⟨w.heap.size + 1, 1, none⟩ = some (.int .i64 D1.acc) ∧ w'.cell? ⟨w.heap.size + 1, 2, none⟩ = some (.slice g1.a1 D1.nc g1.c1) ∧ w'.cell? ⟨w.heap.size + 1, 3, none⟩ = some (.slice g1.a2 D1.nt g1.c2) ∧ w'.cell? ⟨w.heap.size + 1, 4, none⟩ = some (.bool D1.d)) (by kernel_rfl) ⟨(get5 (HG0.out.blw HBW.out).out.box).1, (get5 (HG0.out.blw HBW.out).out.box).2.1, (get5 (HG0.out.blw HBW.out).out.box).2.2.1, (get5 (HG0.out.blw HBW.out).out.box).2.2.2.1, (get5 (HG0.out.blw HBW.out).out.box).2.2.2.2, (get5 (HG1.out.blw HBW.out).out.box).1, (get5 (HG1.out.blw HBW.out).out.box).2.1, (get5 (HG1.out.blw HBW.out).out.box).2.2.1, (get5 (HG1.out.blw HBW.out).out.box).2.2.2.1, (get5 (HG1.out.blw HBW.out).out.box).2.2.2.2⟩ (fun hB => ?_)
    clear hB
    refine wpAnyH_take (i := 0) (oi := { dst := some 23, op := Op.load 94 (Operand.tmp 2), type := 94, pos := _, after := #[], guard := none }) (v := (GV.val g0 D0)) rfl (by kernel_rfl) (by kernel_rfl) (by kernel_rfl) (fun _ _ _ h => h) (Or.inl ⟨by rfl, fun w' hS => by (try dsimp only at hS); go_simp⟩) ⟨(get5 (HG0.out.blw HBW.out).out.box).1, (get5 (HG0.out.blw HBW.out).out.box).2.1, (get5 (HG0.out.blw HBW.out).out.box).2.2.1, (get5 (HG0.out.blw HBW.out).out.box).2.2.2.1, (get5 (HG0.out.blw HBW.out).out.box).2.2.2.2, (get5 (HG1.out.blw HBW.out).out.box).1, (get5 (HG1.out.blw HBW.out).out.box).2.1, (get5 (HG1.out.blw HBW.out).out.box).2.2.1, (get5 (HG1.out.blw HBW.out).out.box).2.2.2.1, (get5 (HG1.out.blw HBW.out).out.box).2.2.2.2⟩ ?_
    simp only [Act.put, List.setIfInBounds_toArray, List.set_cons_zero, List.set_cons_succ]
    refine wpAnyH_take (i := 2) (oi := { dst := some 25, op := Op.load 94 (Operand.tmp 3), type := 94, pos := _, after := #[], guard := none }) (v := (GV.val g1 D1)) rfl (by kernel_rfl) (by kernel_rfl) (by kernel_rfl) (fun _ _ _ h => h) (Or.inl ⟨by rfl, fun w' hS => by (try dsimp only at hS); go_simp⟩) ⟨(get5 (HG0.out.blw HBW.out).out.box).1, (get5 (HG0.out.blw HBW.out).out.box).2.1, (get5 (HG0.out.blw HBW.out).out.box).2.2.1, (get5 (HG0.out.blw HBW.out).out.box).2.2.2.1, (get5 (HG0.out.blw HBW.out).out.box).2.2.2.2, (get5 (HG1.out.blw HBW.out).out.box).1, (get5 (HG1.out.blw HBW.out).out.box).2.1, (get5 (HG1.out.blw HBW.out).out.box).2.2.1, (get5 (HG1.out.blw HBW.out).out.box).2.2.2.1, (get5 (HG1.out.blw HBW.out).out.box).2.2.2.2⟩ ?_
    simp only [Act.put, List.setIfInBounds_toArray, List.set_cons_zero, List.set_cons_succ]
    refine wpAnyH_ready (rs := [1]) (by kernel_rfl) (by simp) ?_
    refine AllReadyH.cons (o := { dst := some 24, op := Op.call { callee := Callee.value (Operand.func 72), args := #[Operand.tmp 23], argTypes := #[94] }, type := 61, pos := _, after := #[{ on := 0, ground := Ground.data }], guard := none }) rfl (fun K hK => ?_) AllReadyH.nil
    go_simp
    refine (toGuest_any g0 D0 _ _ SM0.out (HG0.out.blw HBW.out).out.at_).mono ?_
    rintro e x1 ⟨y0, rfl, own, hb⟩
    have HN_ : Hid (GAt (fun x => x < x1.heap.size) x1 y0 D0) := own.at.mono (fun x hx => hx.2)
    clear own
    replace HBW : Hid (Blw w3 x1) := HBW.out.trans hb
    have HC0 := HN_
    clear HN_ hb
    refine hK.out _ _ ⟨(get5 (HG0.out.blw HBW.out).out.box).1, (get5 (HG0.out.blw HBW.out).out.box).2.1, (get5 (HG0.out.blw HBW.out).out.box).2.2.1, (get5 (HG0.out.blw HBW.out).out.box).2.2.2.1, (get5 (HG0.out.blw HBW.out).out.box).2.2.2.2, (get5 (HG1.out.blw HBW.out).out.box).1, (get5 (HG1.out.blw HBW.out).out.box).2.1, (get5 (HG1.out.blw HBW.out).out.box).2.2.1, (get5 (HG1.out.blw HBW.out).out.box).2.2.2.1, (get5 (HG1.out.blw HBW.out).out.box).2.2.2.2⟩ (fun hB => ?_)
    clear hK K hB
    try simp only [Act.put, List.setIfInBounds_toArray, List.set_cons_zero, List.set_cons_succ]
    refine wpAnyH_ready (rs := [3]) (by kernel_rfl) (by simp) ?_
    refine AllReadyH.cons (o := { dst := some 26, op := Op.call { callee := Callee.value (Operand.func 72), args := #[Operand.tmp 25], argTypes := #[94] }, type := 61, pos := _, after := #[{ on := 2, ground := Ground.data }, { on := 1, ground := Ground.chain }], guard := none }) rfl (fun K hK => ?_) AllReadyH.nil
    go_simp
    refine (toGuest_any g1 D1 _ _ SM1.out (HG1.out.blw HBW.out).out.at_).mono ?_
    rintro e x2 ⟨y1, rfl, own, hb⟩
    have HN_ : Hid (GAt (fun x => x < x2.heap.size) x2 y1 D1) := own.at.mono (fun x hx => hx.2)
    clear own
    replace HBW : Hid (Blw w3 x2) := HBW.out.trans hb
    replace HC0 : Hid (GAt (fun x => x < x2.heap.size) x2 y0 D0) := (HC0.out.blw hb).mono (fun x hx => Nat.lt_of_lt_of_le hx hb.size)
    have HC1 := HN_
    clear HN_ hb
    refine hK.out _ _ ⟨(get5 (HG0.out.blw HBW.out).out.box).1, (get5 (HG0.out.blw HBW.out).out.box).2.1, (get5 (HG0.out.blw HBW.out).out.box).2.2.1, (get5 (HG0.out.blw HBW.out).out.box).2.2.2.1, (get5 (HG0.out.blw HBW.out).out.box).2.2.2.2, (get5 (HG1.out.blw HBW.out).out.box).1, (get5 (HG1.out.blw HBW.out).out.box).2.1, (get5 (HG1.out.blw HBW.out).out.box).2.2.1, (get5 (HG1.out.blw HBW.out).out.box).2.2.2.1, (get5 (HG1.out.blw HBW.out).out.box).2.2.2.2⟩ (fun hB => ?_)
    clear hK K hB
    try simp only [Act.put, List.setIfInBounds_toArray, List.set_cons_zero, List.set_cons_succ]
    refine wpAnyH_ready (rs := [4]) (by kernel_rfl) (by simp) ?_
    refine AllReadyH.cons (o := { dst := some 27, op := Op.call { callee := Callee.value (Operand.func 48), args := #[Operand.tmp 24, Operand.tmp 26], argTypes := #[61, 61] }, type := 47, pos := _, after := #[{ on := 1, ground := Ground.data }, { on := 3, ground := Ground.data }, { on := 3, ground := Ground.chain }], guard := none }) rfl (fun K hK => ?_) AllReadyH.nil
    go_simp
    refine (specSame_any y0 y1 D0 D1 _ _ _ HC0.out HC1.out).mono ?_
    rintro e x3 ⟨xa, ba, rfl, ho, hb⟩
    replace HBW : Hid (Blw w3 x3) := HBW.out.trans hb
    replace HC0 : Hid (GAt (fun x => x < x3.heap.size) x3 y0 D0) := (HC0.out.blw hb).mono (fun x hx => Nat.lt_of_lt_of_le hx hb.size)
    replace HC1 : Hid (GAt (fun x => x < x3.heap.size) x3 y1 D1) := (HC1.out.blw hb).mono (fun x hx => Nat.lt_of_lt_of_le hx hb.size)
    have HOS : Hid (sgOut D0 D1 xa ba) := ho
    have HAU : Hid (x3.heap.size ≤ x3.heap.size) := Nat.le_refl _
    clear ho hb
    refine hK.out _ _ ⟨(get5 (HG0.out.blw HBW.out).out.box).1, (get5 (HG0.out.blw HBW.out).out.box).2.1, (get5 (HG0.out.blw HBW.out).out.box).2.2.1, (get5 (HG0.out.blw HBW.out).out.box).2.2.2.1, (get5 (HG0.out.blw HBW.out).out.box).2.2.2.2, (get5 (HG1.out.blw HBW.out).out.box).1, (get5 (HG1.out.blw HBW.out).out.box).2.1, (get5 (HG1.out.blw HBW.out).out.box).2.2.1, (get5 (HG1.out.blw HBW.out).out.box).2.2.2.1, (get5 (HG1.out.blw HBW.out).out.box).2.2.2.2⟩ (fun hB => ?_)
    clear hK K hB
    try simp only [Act.put, List.setIfInBounds_toArray, List.set_cons_zero, List.set_cons_succ]
    refine wpAnyH_take (i := 5) (oi := { dst := some 22, op := Op.move (Operand.tmp 27), type := 47, pos := _, after := #[{ on := 4, ground := Ground.data }], guard := none }) (v := (.tuple #[.bool xa, .bool ba])) rfl (by kernel_rfl) (by kernel_rfl) (by kernel_rfl) (fun _ _ _ h => h) (Or.inl ⟨by rfl, fun w' hS => by (try dsimp only at hS); go_simp⟩) ⟨(get5 (HG0.out.blw HBW.out).out.box).1, (get5 (HG0.out.blw HBW.out).out.box).2.1, (get5 (HG0.out.blw HBW.out).out.box).2.2.1, (get5 (HG0.out.blw HBW.out).out.box).2.2.2.1, (get5 (HG0.out.blw HBW.out).out.box).2.2.2.2, (get5 (HG1.out.blw HBW.out).out.box).1, (get5 (HG1.out.blw HBW.out).out.box).2.1, (get5 (HG1.out.blw HBW.out).out.box).2.2.1, (get5 (HG1.out.blw HBW.out).out.box).2.2.2.1, (get5 (HG1.out.blw HBW.out).out.box).2.2.2.2⟩ ?_
    simp only [Act.put, List.setIfInBounds_toArray, List.set_cons_zero, List.set_cons_succ]
    refine wpAnyH_take (i := 6) (oi := { dst := some 28, op := Op.extract (Operand.tmp 22) 0, type := 4, pos := _, after := #[{ on := 5, ground := Ground.data }], guard := none }) (v := (.bool xa)) rfl (by kernel_rfl) (by kernel_rfl) (by kernel_rfl) (fun _ _ _ h => h) (Or.inl ⟨by rfl, fun w' hS => by (try dsimp only at hS); go_simp⟩) ⟨(get5 (HG0.out.blw HBW.out).out.box).1, (get5 (HG0.out.blw HBW.out).out.box).2.1, (get5 (HG0.out.blw HBW.out).out.box).2.2.1, (get5 (HG0.out.blw HBW.out).out.box).2.2.2.1, (get5 (HG0.out.blw HBW.out).out.box).2.2.2.2, (get5 (HG1.out.blw HBW.out).out.box).1, (get5 (HG1.out.blw HBW.out).out.box).2.1, (get5 (HG1.out.blw HBW.out).out.box).2.2.1, (get5 (HG1.out.blw HBW.out).out.box).2.2.2.1, (get5 (HG1.out.blw HBW.out).out.box).2.2.2.2⟩ ?_
    simp only [Act.put, List.setIfInBounds_toArray, List.set_cons_zero, List.set_cons_succ]
    refine wpAnyH_take (i := 7) (oi := { dst := some 29, op := Op.extract (Operand.tmp 22) 1, type := 4, pos := _, after := #[{ on := 5, ground := Ground.data }, { on := 8, ground := Ground.gcOnly Departure.lateStores }], guard := none }) (v := (.bool ba)) rfl (by kernel_rfl) (by kernel_rfl) (by kernel_rfl) (fun _ _ _ h => h) (Or.inl ⟨by rfl, fun w' hS => by (try dsimp only at hS); go_simp⟩) ⟨(get5 (HG0.out.blw HBW.out).out.box).1, (get5 (HG0.out.blw HBW.out).out.box).2.1, (get5 (HG0.out.blw HBW.out).out.box).2.2.1, (get5 (HG0.out.blw HBW.out).out.box).2.2.2.1, (get5 (HG0.out.blw HBW.out).out.box).2.2.2.2, (get5 (HG1.out.blw HBW.out).out.box).1, (get5 (HG1.out.blw HBW.out).out.box).2.1, (get5 (HG1.out.blw HBW.out).out.box).2.2.1, (get5 (HG1.out.blw HBW.out).out.box).2.2.2.1, (get5 (HG1.out.blw HBW.out).out.box).2.2.2.2⟩ ?_
    simp only [Act.put, List.setIfInBounds_toArray, List.set_cons_zero, List.set_cons_succ]
    refine wpAnyH_take (i := 8) (oi := { dst := some 6, op := Op.assign (Operand.tmp 28), type := 4, pos := _, after := #[{ on := 6, ground := Ground.data }, { on := 4, ground := Ground.chain }, { on := 0, ground := Ground.phase }, { on := 1, ground := Ground.phase }, { on := 2, ground := Ground.phase }, { on := 3, ground := Ground.phase }, { on := 4, ground := Ground.phase }, { on := 5, ground := Ground.phase }, { on := 6, ground := Ground.phase }, { on := 7, ground := Ground.textOnly Departure.lateStores }], guard := none }) (v := (.bool xa)) rfl (by kernel_rfl) (by kernel_rfl) (by kernel_rfl) (fun _ _ _ h => h) (Or.inl ⟨by rfl, fun w' hS => by (try dsimp only at hS); go_simp⟩) ⟨(get5 (HG0.out.blw HBW.out).out.box).1, (get5 (HG0.out.blw HBW.out).out.box).2.1, (get5 (HG0.out.blw HBW.out).out.box).2.2.1, (get5 (HG0.out.blw HBW.out).out.box).2.2.2.1, (get5 (HG0.out.blw HBW.out).out.box).2.2.2.2, (get5 (HG1.out.blw HBW.out).out.box).1, (get5 (HG1.out.blw HBW.out).out.box).2.1, (get5 (HG1.out.blw HBW.out).out.box).2.2.1, (get5 (HG1.out.blw HBW.out).out.box).2.2.2.1, (get5 (HG1.out.blw HBW.out).out.box).2.2.2.2⟩ ?_
    simp only [Act.put, List.setIfInBounds_toArray, List.set_cons_zero, List.set_cons_succ]
    refine wpAnyH_take (i := 9) (oi := { dst := some 7, op := Op.assign (Operand.tmp 29), type := 4, pos := _, after := #[{ on := 7, ground := Ground.data }, { on := 8, ground := Ground.chain }, { on := 0, ground := Ground.phase }, { on := 1, ground := Ground.phase }, { on := 2, ground := Ground.phase }, { on := 3, ground := Ground.phase }, { on := 4, ground := Ground.phase }, { on := 5, ground := Ground.phase }, { on := 6, ground := Ground.phase }, { on := 7, ground := Ground.phase }, { on := 8, ground := Ground.phase }], guard := none }) (v := (.bool ba)) rfl (by kernel_rfl) (by kernel_rfl) (by kernel_rfl) (fun _ _ _ h => h) (Or.inl ⟨by rfl, fun w' hS => by (try dsimp only at hS); go_simp⟩) ⟨(get5 (HG0.out.blw HBW.out).out.box).1, (get5 (HG0.out.blw HBW.out).out.box).2.1, (get5 (HG0.out.blw HBW.out).out.box).2.2.1, (get5 (HG0.out.blw HBW.out).out.box).2.2.2.1, (get5 (HG0.out.blw HBW.out).out.box).2.2.2.2, (get5 (HG1.out.blw HBW.out).out.box).1, (get5 (HG1.out.blw HBW.out).out.box).2.1, (get5 (HG1.out.blw HBW.out).out.box).2.2.1, (get5 (HG1.out.blw HBW.out).out.box).2.2.2.1, (get5 (HG1.out.blw HBW.out).out.box).2.2.2.2⟩ ?_
    simp only [Act.put, List.setIfInBounds_toArray, List.set_cons_zero, List.set_cons_succ]
    refine wpAnyH_done (by kernel_rfl) ?_ _
    refine NoPanic.normal ?_
    go_wp2_with fail
    go_meet
    exact ⟨xa, ba, rfl, rfl, HOS.out, HBW.out⟩
  case rest =>
    obtain ⟨x3, b3, rfl, rfl, ho, hb⟩ := hcut
    generalize wc = w4 at *
    have hz := hb.size
    have HN0 : Hid (w.heap.size + 2 ≤ w4.heap.size) := by have h1 := HG0.out.1 (w.heap.size + 1) (by omega); show _ ≤ _; omega
    replace HG0 : Hid (St (fun x => x < w.heap.size + 2) (ArgG w.heap.size w.heap.size g0 D0) w4) := HG0.out.blw hb
    replace HG1 : Hid (St (fun x => x < w.heap.size + 2) (ArgG w.heap.size (w.heap.size + 1) g1 D1) w4) := HG1.out.blw hb
    replace HB : Hid (Blw w w4) := HB.out.trans hb
    have HO3 : Hid (sgOut D0 D1 x3 b3) := ho
    clear hb hz ho
    obtain ⟨p00, p01, p02, p03, p04⟩ := get5 HG0.out.out.box
    go_wp2_with fail
    clear p00 p01 p02 p03 p04
    refine (toGuest_any g0 D0 _ _ SM0.out HG0.out.out.at_).mono ?_
    rintro e w5 ⟨v40, rfl, own, hb⟩
    try clear hr0
    have hz := hb.size
    have hA : Blw w5 (w5.alloc (.cells #[.int .i64 D0.at_, .int .i64 D0.acc, .slice v40.a1 D0.nc v40.c1, .slice v40.a2 D0.nt v40.c2, .bool D0.d] 61)) := (Blw.refl _).alloc _
    have HN1 : Hid (w4.heap.size ≤ w4.heap.size ∧ w4.heap.size ≤ w5.heap.size) := ⟨by have o0 := HN0.out; omega, hz⟩
    have h4G0 : BBG (fun x => w4.heap.size ≤ x ∧ x < w5.heap.size + 1) w5.heap.size v40 D0 D0 (w5.alloc (.cells #[.int .i64 D0.at_, .int .i64 D0.acc, .slice v40.a1 D0.nc v40.c1, .slice v40.a2 D0.nt v40.c2, .bool D0.d] 61)) := ⟨(own.blw hA).mono (fun x hx => by have ho := HN1.out; exact ⟨⟨by omega, by omega⟩, by omega⟩), row5 w5 _ _ _ _ _ 61⟩
    replace HG0 : Hid (St (fun x => x < w.heap.size + 2) (ArgG w.heap.size w.heap.size g0 D0) (w5.alloc (.cells #[.int .i64 D0.at_, .int .i64 D0.acc, .slice v40.a1 D0.nc v40.c1, .slice v40.a2 D0.nt v40.c2, .bool D0.d] 61))) := HG0.out.blw (hb.trans hA)
    replace HG1 : Hid (St (fun x => x < w.heap.size + 2) (ArgG w.heap.size (w.heap.size + 1) g1 D1) (w5.alloc (.cells #[.int .i64 D0.at_, .int .i64 D0.acc, .slice v40.a1 D0.nc v40.c1, .slice v40.a2 D0.nt v40.c2, .bool D0.d] 61))) := HG1.out.blw (hb.trans hA)
    replace HB : Hid (Blw w (w5.alloc (.cells #[.int .i64 D0.at_, .int .i64 D0.acc, .slice v40.a1 D0.nc v40.c1, .slice v40.a2 D0.nt v40.c2, .bool D0.d] 61))) := HB.out.trans (hb.trans hA)
    have H4G0 : Hid (St (fun x => w4.heap.size ≤ x ∧ x < w5.heap.size + 1) (BBG (fun x => w4.heap.size ≤ x ∧ x < w5.heap.size + 1) w5.heap.size v40 D0 D0) (w5.alloc (.cells #[.int .i64 D0.at_, .int .i64 D0.acc, .slice v40.a1 D0.nc v40.c1, .slice v40.a2 D0.nt v40.c2, .bool D0.d] 61))) := BBG.st h4G0 (by have ho := HN1.out; exact ⟨by omega, by omega⟩) (fun x hx => by simp only [World.size_alloc]; omega)
    clear hb hA own hz h4G0
    obtain ⟨p00, p01, p02, p03, p04⟩ := get5 HG1.out.out.box
    go_wp2_with fail
    clear p00 p01 p02 p03 p04
    have HN2 : Hid (w5.heap.size + 1 ≤ (w5.alloc (.cells #[.int .i64 D0.at_, .int .i64 D0.acc, .slice v40.a1 D0.nc v40.c1, .slice v40.a2 D0.nt v40.c2, .bool D0.d] 61)).heap.size) := by show _ ≤ _; simp only [World.size_alloc]; have o0 := HN0.out; have o1 := HN1.out; omega
    generalize w5.alloc (.cells #[.int .i64 D0.at_, .int .i64 D0.acc, .slice v40.a1 D0.nc v40.c1, .slice v40.a2 D0.nt v40.c2, .bool D0.d] 61) = w6 at *
    refine (toGuest_any g1 D1 _ _ SM1.out HG1.out.out.at_).mono ?_
    rintro e w7 ⟨v41, rfl, own, hb⟩
    have hz := hb.size
    have hA : Blw w7 (w7.alloc (.cells #[.int .i64 D1.at_, .int .i64 D1.acc, .slice v41.a1 D1.nc v41.c1, .slice v41.a2 D1.nt v41.c2, .bool D1.d] 61)) := (Blw.refl _).alloc _
    have HN3 : Hid (w5.heap.size + 1 ≤ w6.heap.size ∧ w6.heap.size ≤ w7.heap.size) := ⟨by have o0 := HN0.out; have o1 := HN1.out; have o2 := HN2.out; omega, hz⟩
    have h4G1 : BBG (fun x => w5.heap.size + 1 ≤ x ∧ x < w7.heap.size + 1) w7.heap.size v41 D1 D1 (w7.alloc (.cells #[.int .i64 D1.at_, .int .i64 D1.acc, .slice v41.a1 D1.nc v41.c1, .slice v41.a2 D1.nt v41.c2, .bool D1.d] 61)) := ⟨(own.blw hA).mono (fun x hx => by have ho := HN3.out; exact ⟨⟨by omega, by omega⟩, by omega⟩), row5 w7 _ _ _ _ _ 61⟩
    replace HG0 : Hid (St (fun x => x < w.heap.size + 2) (ArgG w.heap.size w.heap.size g0 D0) (w7.alloc (.cells #[.int .i64 D1.at_, .int .i64 D1.acc, .slice v41.a1 D1.nc v41.c1, .slice v41.a2 D1.nt v41.c2, .bool D1.d] 61))) := HG0.out.blw (hb.trans hA)
    replace HG1 : Hid (St (fun x => x < w.heap.size + 2) (ArgG w.heap.size (w.heap.size + 1) g1 D1) (w7.alloc (.cells #[.int .i64 D1.at_, .int .i64 D1.acc, .slice v41.a1 D1.nc v41.c1, .slice v41.a2 D1.nt v41.c2, .bool D1.d] 61))) := HG1.out.blw (hb.trans hA)
    replace H4G0 : Hid (St (fun x => w4.heap.size ≤ x ∧ x < w5.heap.size + 1) (BBG (fun x => w4.heap.size ≤ x ∧ x < w5.heap.size + 1) w5.heap.size v40 D0 D0) (w7.alloc (.cells #[.int .i64 D1.at_, .int .i64 D1.acc, .slice v41.a1 D1.nc v41.c1, .slice v41.a2 D1.nt v41.c2, .bool D1.d] 61))) := H4G0.out.blw (hb.trans hA)
    replace HB : Hid (Blw w (w7.alloc (.cells #[.int .i64 D1.at_, .int .i64 D1.acc, .slice v41.a1 D1.nc v41.c1, .slice v41.a2 D1.nt v41.c2, .bool D1.d] 61))) := HB.out.trans (hb.trans hA)
    have H4G1 : Hid (St (fun x => w5.heap.size + 1 ≤ x ∧ x < w7.heap.size + 1) (BBG (fun x => w5.heap.size + 1 ≤ x ∧ x < w7.heap.size + 1) w7.heap.size v41 D1 D1) (w7.alloc (.cells #[.int .i64 D1.at_, .int .i64 D1.acc, .slice v41.a1 D1.nc v41.c1, .slice v41.a2 D1.nt v41.c2, .bool D1.d] 61))) := BBG.st h4G1 (by have ho := HN3.out; exact ⟨by omega, by omega⟩) (fun x hx => by simp only [World.size_alloc]; omega)
    clear hb hA own hz h4G1
    obtain ⟨p00, p01, p02, p03, p04⟩ := get5 H4G0.out.out.box
    obtain ⟨p10, p11, p12, p13, p14⟩ := get5 H4G1.out.out.box
    go_wp2_with fail
    clear p00 p01 p02 p03 p04 p10 p11 p12 p13 p14
    have HN4 : Hid (w7.heap.size + 1 ≤ (w7.alloc (.cells #[.int .i64 D1.at_, .int .i64 D1.acc, .slice v41.a1 D1.nc v41.c1, .slice v41.a2 D1.nt v41.c2, .bool D1.d] 61)).heap.size) := by show _ ≤ _; simp only [World.size_alloc]; have o0 := HN0.out; have o1 := HN1.out; have o2 := HN2.out; have o3 := HN3.out; omega
    generalize w7.alloc (.cells #[.int .i64 D1.at_, .int .i64 D1.acc, .slice v41.a1 D1.nc v41.c1, .slice v41.a2 D1.nt v41.c2, .bool D1.d] 61) = w8 at *
    refine (implSame_any v40 v41 D0 D1 _ _ _ H4G0.out.out.own.at H4G1.out.out.own.at (fun x hx => by have := H4G0.out.1 x hx.1; omega) (fun x hx => by have := H4G1.out.1 x hx.1; omega)).mono ?_
    rintro e w9 ⟨x5, b5, rfl, ho, hb⟩
    have hz := hb.size
    obtain ⟨eR, eb⟩ := sgOut_same ho HO3.out
    subst eR eb
    replace HG0 : Hid (St (fun x => x < w.heap.size + 2) (ArgG w.heap.size w.heap.size g0 D0) w9) := HG0.out.blw hb
    replace HG1 : Hid (St (fun x => x < w.heap.size + 2) (ArgG w.heap.size (w.heap.size + 1) g1 D1) w9) := HG1.out.blw hb
    replace H4G0 : Hid (St (fun x => w4.heap.size ≤ x ∧ x < w5.heap.size + 1) (BBG (fun x => w4.heap.size ≤ x ∧ x < w5.heap.size + 1) w5.heap.size v40 D0 D0) w9) := H4G0.out.blw hb
    replace H4G1 : Hid (St (fun x => w5.heap.size + 1 ≤ x ∧ x < w7.heap.size + 1) (BBG (fun x => w5.heap.size + 1 ≤ x ∧ x < w7.heap.size + 1) w7.heap.size v41 D1 D1) w9) := H4G1.out.blw hb
    replace HB : Hid (Blw w w9) := HB.out.trans hb
    clear hb hz ho
    have hnx : (x5 != x5) = false := by simp
    have hne : (b5 != b5) = false := by simp
    go_upto_region 14 with fail
    go_cut [52] from 48 to 52 (fun c wx => c = .bool false ∧ Blw w9 wx)
    case first =>
      have A0 : ∀ w', Blw w9 w' → w'.cell? ⟨w.heap.size, 0, none⟩ = some (.int .i64 D0.at_) := fun w' hh => (get5 (HG0.out.blw hh).out.box).1
      have A1 : ∀ w', Blw w9 w' → w'.cell? ⟨w.heap.size, 1, none⟩ = some (.int .i64 D0.acc) := fun w' hh => (get5 (HG0.out.blw hh).out.box).2.1
      have A2 : ∀ w', Blw w9 w' → w'.cell? ⟨w.heap.size, 2, none⟩ = some (.slice g0.a1 D0.nc g0.c1) := fun w' hh => (get5 (HG0.out.blw hh).out.box).2.2.1
      have A3 : ∀ w', Blw w9 w' → w'.cell? ⟨w.heap.size, 3, none⟩ = some (.slice g0.a2 D0.nt g0.c2) := fun w' hh => (get5 (HG0.out.blw hh).out.box).2.2.2.1
      have A4 : ∀ w', Blw w9 w' → w'.cell? ⟨w.heap.size, 4, none⟩ = some (.bool D0.d) := fun w' hh => (get5 (HG0.out.blw hh).out.box).2.2.2.2
      have B0 : ∀ w', Blw w9 w' → w'.cell? ⟨w5.heap.size, 0, none⟩ = some (.int .i64 D0.at_) := fun w' hh => (get5 (H4G0.out.blw hh).out.box).1
      have B1 : ∀ w', Blw w9 w' → w'.cell? ⟨w5.heap.size, 1, none⟩ = some (.int .i64 D0.acc) := fun w' hh => (get5 (H4G0.out.blw hh).out.box).2.1
      have B2 : ∀ w', Blw w9 w' → w'.cell? ⟨w5.heap.size, 2, none⟩ = some (.slice v40.a1 D0.nc v40.c1) := fun w' hh => (get5 (H4G0.out.blw hh).out.box).2.2.1
      have B3 : ∀ w', Blw w9 w' → w'.cell? ⟨w5.heap.size, 3, none⟩ = some (.slice v40.a2 D0.nt v40.c2) := fun w' hh => (get5 (H4G0.out.blw hh).out.box).2.2.2.1
      have B4 : ∀ w', Blw w9 w' → w'.cell? ⟨w5.heap.size, 4, none⟩ = some (.bool D0.d) := fun w' hh => (get5 (H4G0.out.blw hh).out.box).2.2.2.2
      go_region_held3 (fun w' => Blw w9 w') ((first | exact (Blw.refl _).drew | assumption | exact Blw.trans (by assumption) (by assumption))) (first
        | (go_at_call 72; refine (toGuest_any g0 D0 _ _ SM0.out (HG0.out.blw (by assumption)).out.at_).mono ?_; rintro e w70 ⟨v6, rfl, o6, hb7⟩)
        | (go_at_call 73; refine (eqGuest_same v40 v6 D0 _ (H4G0.out.blw (by assumption)).out.own.at o6.at).mono ?_; rintro e w80 ⟨rfl, hb8⟩))
      all_goals go_wp2_with fail
      all_goals go_meet
      all_goals exact ⟨rfl, by assumption⟩
    case rest =>
      obtain ⟨rfl, hb⟩ := hcut
      replace HG0 : Hid (St (fun x => x < w.heap.size + 2) (ArgG w.heap.size w.heap.size g0 D0) wc) := HG0.out.blw hb
      replace HG1 : Hid (St (fun x => x < w.heap.size + 2) (ArgG w.heap.size (w.heap.size + 1) g1 D1) wc) := HG1.out.blw hb
      replace H4G0 : Hid (St (fun x => w4.heap.size ≤ x ∧ x < w5.heap.size + 1) (BBG (fun x => w4.heap.size ≤ x ∧ x < w5.heap.size + 1) w5.heap.size v40 D0 D0) wc) := H4G0.out.blw hb
      replace H4G1 : Hid (St (fun x => w5.heap.size + 1 ≤ x ∧ x < w7.heap.size + 1) (BBG (fun x => w5.heap.size + 1 ≤ x ∧ x < w7.heap.size + 1) w7.heap.size v41 D1 D1) wc) := H4G1.out.blw hb
      replace HB : Hid (Blw w wc) := HB.out.trans hb
      clear hb
      generalize wc = w10 at *
      go_upto_region 16 with fail
      go_cut [57] from 53 to 57 (fun c wx => c = .bool false ∧ Blw w10 wx)
      case first =>
        have A0 : ∀ w', Blw w10 w' → w'.cell? ⟨(w.heap.size + 1), 0, none⟩ = some (.int .i64 D1.at_) := fun w' hh => (get5 (HG1.out.blw hh).out.box).1
        have A1 : ∀ w', Blw w10 w' → w'.cell? ⟨(w.heap.size + 1), 1, none⟩ = some (.int .i64 D1.acc) := fun w' hh => (get5 (HG1.out.blw hh).out.box).2.1
        have A2 : ∀ w', Blw w10 w' → w'.cell? ⟨(w.heap.size + 1), 2, none⟩ = some (.slice g1.a1 D1.nc g1.c1) := fun w' hh => (get5 (HG1.out.blw hh).out.box).2.2.1
        have A3 : ∀ w', Blw w10 w' → w'.cell? ⟨(w.heap.size + 1), 3, none⟩ = some (.slice g1.a2 D1.nt g1.c2) := fun w' hh => (get5 (HG1.out.blw hh).out.box).2.2.2.1
        have A4 : ∀ w', Blw w10 w' → w'.cell? ⟨(w.heap.size + 1), 4, none⟩ = some (.bool D1.d) := fun w' hh => (get5 (HG1.out.blw hh).out.box).2.2.2.2
        have B0 : ∀ w', Blw w10 w' → w'.cell? ⟨w7.heap.size, 0, none⟩ = some (.int .i64 D1.at_) := fun w' hh => (get5 (H4G1.out.blw hh).out.box).1
        have B1 : ∀ w', Blw w10 w' → w'.cell? ⟨w7.heap.size, 1, none⟩ = some (.int .i64 D1.acc) := fun w' hh => (get5 (H4G1.out.blw hh).out.box).2.1
        have B2 : ∀ w', Blw w10 w' → w'.cell? ⟨w7.heap.size, 2, none⟩ = some (.slice v41.a1 D1.nc v41.c1) := fun w' hh => (get5 (H4G1.out.blw hh).out.box).2.2.1
        have B3 : ∀ w', Blw w10 w' → w'.cell? ⟨w7.heap.size, 3, none⟩ = some (.slice v41.a2 D1.nt v41.c2) := fun w' hh => (get5 (H4G1.out.blw hh).out.box).2.2.2.1
        have B4 : ∀ w', Blw w10 w' → w'.cell? ⟨w7.heap.size, 4, none⟩ = some (.bool D1.d) := fun w' hh => (get5 (H4G1.out.blw hh).out.box).2.2.2.2
        go_region_held3 (fun w' => Blw w10 w') ((first | exact (Blw.refl _).drew | assumption | exact Blw.trans (by assumption) (by assumption))) (first
          | (go_at_call 72; refine (toGuest_any g1 D1 _ _ SM1.out (HG1.out.blw (by assumption)).out.at_).mono ?_; rintro e w70 ⟨v6, rfl, o6, hb7⟩)
          | (go_at_call 73; refine (eqGuest_same v41 v6 D1 _ (H4G1.out.blw (by assumption)).out.own.at o6.at).mono ?_; rintro e w80 ⟨rfl, hb8⟩))
        all_goals go_wp2_with fail
        all_goals go_meet
        all_goals exact ⟨rfl, by assumption⟩
      case rest =>
        obtain ⟨rfl, hb⟩ := hcut
        replace HG0 : Hid (St (fun x => x < w.heap.size + 2) (ArgG w.heap.size w.heap.size g0 D0) wc) := HG0.out.blw hb
        replace HG1 : Hid (St (fun x => x < w.heap.size + 2) (ArgG w.heap.size (w.heap.size + 1) g1 D1) wc) := HG1.out.blw hb
        replace H4G0 : Hid (St (fun x => w4.heap.size ≤ x ∧ x < w5.heap.size + 1) (BBG (fun x => w4.heap.size ≤ x ∧ x < w5.heap.size + 1) w5.heap.size v40 D0 D0) wc) := H4G0.out.blw hb
        replace H4G1 : Hid (St (fun x => w5.heap.size + 1 ≤ x ∧ x < w7.heap.size + 1) (BBG (fun x => w5.heap.size + 1 ≤ x ∧ x < w7.heap.size + 1) w7.heap.size v41 D1 D1) wc) := H4G1.out.blw hb
        replace HB : Hid (Blw w wc) := HB.out.trans hb
        clear hb
        generalize wc = w11 at *
        go_wp2
        go_ret
        exact ⟨rfl, HB.out⟩
end Go.Proofs.Ytbpdopcdhnemfaa
