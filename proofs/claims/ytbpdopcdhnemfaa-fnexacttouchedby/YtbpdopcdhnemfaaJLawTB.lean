/- The law on TouchedBy. -/
import Derived.Test.YtbpdopcdhnemfaaJoin11
namespace Go.Proofs.Ytbpdopcdhnemfaa
open Go.RowKit
set_option linter.unusedSimpArgs false
set_option linter.unusedVariables false
set_option maxRecDepth 10000 in
set_option maxHeartbeats 6400000 in
theorem lawTB (ap : Option Addr) (np cp : Nat) (F : Nat → Nat → Int) (g0 : GV) (D0 : GD) (k : Int) (w : World) (hp : KAt 3 (fun x => x < w.heap.size) w ap np F) (hg0 : GAt (fun x => x < w.heap.size) w g0 D0) : Calls Try.prog 13 #[.slice ap np cp, g0.val D0, .int .i64 k] w fun e w' => e = .returned (.bool true) ∧ Blw w w' := by
  have HB : Hid (Blw w (w.alloc (.cells #[.int .i64 D0.at_, .int .i64 D0.acc, .slice g0.a1 D0.nc g0.c1, .slice g0.a2 D0.nt g0.c2, .bool D0.d] 94))) := ((Blw.refl _).alloc _)
  have hnp := hp.1
  have HP : Hid (St (fun x => x < w.heap.size) (fun W => KAt 3 (fun x => x < w.heap.size) W ap np F) (w.alloc (.cells #[.int .i64 D0.at_, .int .i64 D0.acc, .slice g0.a1 D0.nc g0.c1, .slice g0.a2 D0.nt g0.c2, .bool D0.d] 94))) := KAt.st (hp.blw HB.out) (fun x hx => Nat.lt_of_lt_of_le hx HB.out.size)
  clear hp
  have HG0 : Hid (St (fun x => x < w.heap.size + 1) (ArgG w.heap.size w.heap.size g0 D0) (w.alloc (.cells #[.int .i64 D0.at_, .int .i64 D0.acc, .slice g0.a1 D0.nc g0.c1, .slice g0.a2 D0.nt g0.c2, .bool D0.d] 94))) := ArgG.st ⟨hg0.blw HB.out, row5 w (.int .i64 D0.at_) (.int .i64 D0.acc) (.slice g0.a1 D0.nc g0.c1) (.slice g0.a2 D0.nt g0.c2) (.bool D0.d) 94⟩ (by omega) (by omega) (by (try simp only [World.size_alloc]); omega)
  clear hg0
  go_enter Try.func13, Try.ntmps13
  go_wp2_with fail
  generalize w.alloc (.cells #[.int .i64 D0.at_, .int .i64 D0.acc, .slice g0.a1 D0.nc g0.c1, .slice g0.a2 D0.nt g0.c2, .bool D0.d] 94) = w1 at *
  refine (szInsS_any ap cp np 1048576 _ hnp (by omega) (by omega)).mono ?_
  rintro e w2 ⟨r1, rfl, hr, hb⟩
  replace HP : Hid (St (fun x => x < w.heap.size) (fun W => KAt 3 (fun x => x < w.heap.size) W ap np F) w2) := HP.out.blw hb
  replace HG0 : Hid (St (fun x => x < w.heap.size + 1) (ArgG w.heap.size w.heap.size g0 D0) w2) := HG0.out.blw hb
  replace HB : Hid (Blw w w2) := HB.out.trans hb
  clear hb
  rcases hr with rfl | ⟨q0, q1⟩
  · go_wp2
    go_ret
    exact ⟨rfl, HB.out⟩
  have hr0 : ¬ r1 < 0 := by omega
  have hnp2 : np ≤ 1048576 := by omega
  obtain ⟨p00, p01, p02, p03, p04⟩ := get5 HG0.out.out.box
  go_wp2_with fail
  clear p00 p01 p02 p03 p04
  refine (szGuest_any g0 D0 _ r1 _ (by omega) (by omega) HG0.out.out.at_).mono ?_
  rintro e w3 ⟨s0, rfl, hr, hb⟩
  clear hr0
  replace HP : Hid (St (fun x => x < w.heap.size) (fun W => KAt 3 (fun x => x < w.heap.size) W ap np F) w3) := HP.out.blw hb
  replace HG0 : Hid (St (fun x => x < w.heap.size + 1) (ArgG w.heap.size w.heap.size g0 D0) w3) := HG0.out.blw hb
  replace HB : Hid (Blw w w3) := HB.out.trans hb
  clear hb
  rcases hr with rfl | ⟨u0, u1⟩
  · go_wp2
    go_ret
    exact ⟨rfl, HB.out⟩
  have hr0 : ¬ s0 < 0 := by omega
  have SM0 : Hid (D0.small) := by show D0.small; unfold GD.small; omega
  have hsl0 : s0 ≤ 1048576 := by omega
  clear u1
  have HD : Hid True := trivial
  go_upto_region 8 with fail
  go_cut [8, 9] from 8 to 37 (fun c0 c1 wx => DrI w3 (tbOut np F D0 k) c0 c1 wx)
  case first =>
    have HBW : Hid (Blw w3 w3.drew) := (Blw.refl _).drew
    refine wp_region_noPanic ?_
    refine wp_region_held_drew (S := fun w' => w'.cell? ⟨w.heap.size, 0, none⟩ = some (.int .i64 D0.at_) ∧ w'.cell? ⟨w.heap.size, 1, none⟩ = some (.int .i64 D0.acc) ∧ w'.cell? ⟨w.heap.size, 2, none⟩ = some (.slice g0.a1 D0.nc g0.c1) ∧ w'.cell? ⟨w.heap.size, 3, none⟩ = some (.slice g0.a2 D0.nt g0.c2) ∧ w'.cell? ⟨w.heap.size, 4, none⟩ = some (.bool D0.d)) (by kernel_rfl) ⟨(get5 (HG0.out.blw HBW.out).out.box).1, (get5 (HG0.out.blw HBW.out).out.box).2.1, (get5 (HG0.out.blw HBW.out).out.box).2.2.1, (get5 (HG0.out.blw HBW.out).out.box).2.2.2.1, (get5 (HG0.out.blw HBW.out).out.box).2.2.2.2⟩ (fun hB => ?_)
    clear hB
    generalize w3.drew = wd at *
    refine wpAnyH_take (i := 0) (oi := { dst := some 30, op := Op.move (Operand.tmp 0), type := 89, pos := _, after := #[], guard := none }) (v := (.slice ap np cp)) rfl (by kernel_rfl) (by kernel_rfl) (by kernel_rfl) (fun _ _ _ h => h) (Or.inl ⟨by rfl, fun w' hS => by (try dsimp only at hS); go_simp⟩) ⟨(get5 (HG0.out.blw HBW.out).out.box).1, (get5 (HG0.out.blw HBW.out).out.box).2.1, (get5 (HG0.out.blw HBW.out).out.box).2.2.1, (get5 (HG0.out.blw HBW.out).out.box).2.2.2.1, (get5 (HG0.out.blw HBW.out).out.box).2.2.2.2⟩ ?_
    simp only [Act.put, List.setIfInBounds_toArray, List.set_cons_zero, List.set_cons_succ]
    refine wpAnyH_take (i := 2) (oi := { dst := some 32, op := Op.load 94 (Operand.tmp 4), type := 94, pos := _, after := #[], guard := none }) (v := (GV.val g0 D0)) rfl (by kernel_rfl) (by kernel_rfl) (by kernel_rfl) (fun _ _ _ h => h) (Or.inl ⟨by rfl, fun w' hS => by (try dsimp only at hS); go_simp⟩) ⟨(get5 (HG0.out.blw HBW.out).out.box).1, (get5 (HG0.out.blw HBW.out).out.box).2.1, (get5 (HG0.out.blw HBW.out).out.box).2.2.1, (get5 (HG0.out.blw HBW.out).out.box).2.2.2.1, (get5 (HG0.out.blw HBW.out).out.box).2.2.2.2⟩ ?_
    simp only [Act.put, List.setIfInBounds_toArray, List.set_cons_zero, List.set_cons_succ]
    refine wpAnyH_take (i := 4) (oi := { dst := some 34, op := Op.move (Operand.tmp 2), type := 3, pos := _, after := #[], guard := none }) (v := (.int .i64 k)) rfl (by kernel_rfl) (by kernel_rfl) (by kernel_rfl) (fun _ _ _ h => h) (Or.inl ⟨by rfl, fun w' hS => by (try dsimp only at hS); go_simp⟩) ⟨(get5 (HG0.out.blw HBW.out).out.box).1, (get5 (HG0.out.blw HBW.out).out.box).2.1, (get5 (HG0.out.blw HBW.out).out.box).2.2.1, (get5 (HG0.out.blw HBW.out).out.box).2.2.2.1, (get5 (HG0.out.blw HBW.out).out.box).2.2.2.2⟩ ?_
    simp only [Act.put, List.setIfInBounds_toArray, List.set_cons_zero, List.set_cons_succ]
    refine wpAnyH_ready (rs := [1]) (by kernel_rfl) (by simp) ?_
    refine AllReadyH.cons (o := { dst := some 31, op := Op.call { callee := Callee.value (Operand.func 69), args := #[Operand.tmp 30], argTypes := #[89] }, type := 59, pos := _, after := #[{ on := 0, ground := Ground.data }], guard := none }) rfl (fun K hK => ?_) AllReadyH.nil
    go_simp
    refine (toInsS_any ap cp np F _ _ hnp2 (HP.out.blw HBW.out).out).mono ?_
    rintro e x1 ⟨rfl, row, hb⟩
    have hlt := row.lt
    have HN_ : Hid (KAt 3 (fun x => x < x1.heap.size) x1 (some ⟨wd.heap.size, 0, none⟩) np F) := (kown3 row (by omega) (X := fun x => x < x1.heap.size) hlt).at
    clear row hlt
    replace HBW : Hid (Blw w3 x1) := HBW.out.trans hb
    have HC0 := HN_
    clear HN_ hb
    refine hK.out _ _ ⟨(get5 (HG0.out.blw HBW.out).out.box).1, (get5 (HG0.out.blw HBW.out).out.box).2.1, (get5 (HG0.out.blw HBW.out).out.box).2.2.1, (get5 (HG0.out.blw HBW.out).out.box).2.2.2.1, (get5 (HG0.out.blw HBW.out).out.box).2.2.2.2⟩ (fun hB => ?_)
    clear hK K hB
    try simp only [Act.put, List.setIfInBounds_toArray, List.set_cons_zero, List.set_cons_succ]
    refine wpAnyH_ready (rs := [3]) (by kernel_rfl) (by simp) ?_
    refine AllReadyH.cons (o := { dst := some 33, op := Op.call { callee := Callee.value (Operand.func 72), args := #[Operand.tmp 32], argTypes := #[94] }, type := 61, pos := _, after := #[{ on := 2, ground := Ground.data }, { on := 1, ground := Ground.chain }], guard := none }) rfl (fun K hK => ?_) AllReadyH.nil
    go_simp
    refine (toGuest_any g0 D0 _ _ SM0.out (HG0.out.blw HBW.out).out.at_).mono ?_
    rintro e x2 ⟨y1, rfl, own, hb⟩
    have HN_ : Hid (GAt (fun x => x < x2.heap.size) x2 y1 D0) := own.at.mono (fun x hx => hx.2)
    clear own
    replace HBW : Hid (Blw w3 x2) := HBW.out.trans hb
    replace HC0 : Hid (KAt 3 (fun x => x < x2.heap.size) x2 (some ⟨wd.heap.size, 0, none⟩) np F) := (HC0.out.blw hb).mono (fun x hx => Nat.lt_of_lt_of_le hx hb.size)
    have HC1 := HN_
    clear HN_ hb
    refine hK.out _ _ ⟨(get5 (HG0.out.blw HBW.out).out.box).1, (get5 (HG0.out.blw HBW.out).out.box).2.1, (get5 (HG0.out.blw HBW.out).out.box).2.2.1, (get5 (HG0.out.blw HBW.out).out.box).2.2.2.1, (get5 (HG0.out.blw HBW.out).out.box).2.2.2.2⟩ (fun hB => ?_)
    clear hK K hB
    try simp only [Act.put, List.setIfInBounds_toArray, List.set_cons_zero, List.set_cons_succ]
    refine wpAnyH_ready (rs := [5]) (by kernel_rfl) (by simp) ?_
    refine AllReadyH.cons (o := { dst := some 35, op := Op.call { callee := Callee.value (Operand.func 41), args := #[Operand.tmp 31, Operand.tmp 33, Operand.tmp 34], argTypes := #[59, 61, 3] }, type := 35, pos := _, after := #[{ on := 1, ground := Ground.data }, { on := 3, ground := Ground.data }, { on := 4, ground := Ground.data }, { on := 3, ground := Ground.chain }], guard := none }) rfl (fun K hK => ?_) AllReadyH.nil
    go_simp
    refine (specTouched_any _ _ np F y1 D0 k _ _ _ HC0.out HC1.out).mono ?_
    rintro e x3 ⟨aa, na, ca, fa, ba, rfl, ho, hs, own, hb⟩
    replace HBW : Hid (Blw w3 x3) := HBW.out.trans hb
    replace HC0 : Hid (KAt 3 (fun x => x < x3.heap.size) x3 (some ⟨wd.heap.size, 0, none⟩) np F) := (HC0.out.blw hb).mono (fun x hx => Nat.lt_of_lt_of_le hx hb.size)
    replace HC1 : Hid (GAt (fun x => x < x3.heap.size) x3 y1 D0) := (HC1.out.blw hb).mono (fun x hx => Nat.lt_of_lt_of_le hx hb.size)
    have HAN : Hid (IntsAt (fun x => x2.heap.size ≤ x ∧ x < x3.heap.size) x3 aa na fa) := own.at
    have HOS : Hid (tbOut np F D0 k na fa ba ∧ na ≤ 1048576) := ⟨ho, hs⟩
    have HAU : Hid (x3.heap.size ≤ x3.heap.size) := Nat.le_refl _
    clear ho hb hs own
    refine hK.out _ _ ⟨(get5 (HG0.out.blw HBW.out).out.box).1, (get5 (HG0.out.blw HBW.out).out.box).2.1, (get5 (HG0.out.blw HBW.out).out.box).2.2.1, (get5 (HG0.out.blw HBW.out).out.box).2.2.2.1, (get5 (HG0.out.blw HBW.out).out.box).2.2.2.2⟩ (fun hB => ?_)
    clear hK K hB
    try simp only [Act.put, List.setIfInBounds_toArray, List.set_cons_zero, List.set_cons_succ]
    refine wpAnyH_take (i := 6) (oi := { dst := some 29, op := Op.move (Operand.tmp 35), type := 35, pos := _, after := #[{ on := 5, ground := Ground.data }], guard := none }) (v := (.tuple #[.slice aa na ca, .bool ba])) rfl (by kernel_rfl) (by kernel_rfl) (by kernel_rfl) (fun _ _ _ h => h) (Or.inl ⟨by rfl, fun w' hS => by (try dsimp only at hS); go_simp⟩) ⟨(get5 (HG0.out.blw HBW.out).out.box).1, (get5 (HG0.out.blw HBW.out).out.box).2.1, (get5 (HG0.out.blw HBW.out).out.box).2.2.1, (get5 (HG0.out.blw HBW.out).out.box).2.2.2.1, (get5 (HG0.out.blw HBW.out).out.box).2.2.2.2⟩ ?_
    simp only [Act.put, List.setIfInBounds_toArray, List.set_cons_zero, List.set_cons_succ]
    refine wpAnyH_take (i := 7) (oi := { dst := some 36, op := Op.extract (Operand.tmp 29) 0, type := 26, pos := _, after := #[{ on := 6, ground := Ground.data }], guard := none }) (v := (.slice aa na ca)) rfl (by kernel_rfl) (by kernel_rfl) (by kernel_rfl) (fun _ _ _ h => h) (Or.inl ⟨by rfl, fun w' hS => by (try dsimp only at hS); go_simp⟩) ⟨(get5 (HG0.out.blw HBW.out).out.box).1, (get5 (HG0.out.blw HBW.out).out.box).2.1, (get5 (HG0.out.blw HBW.out).out.box).2.2.1, (get5 (HG0.out.blw HBW.out).out.box).2.2.2.1, (get5 (HG0.out.blw HBW.out).out.box).2.2.2.2⟩ ?_
    simp only [Act.put, List.setIfInBounds_toArray, List.set_cons_zero, List.set_cons_succ]
    refine wpAnyH_take (i := 8) (oi := { dst := some 37, op := Op.extract (Operand.tmp 29) 1, type := 4, pos := _, after := #[{ on := 6, ground := Ground.data }, { on := 9, ground := Ground.gcOnly Departure.lateStores }], guard := none }) (v := (.bool ba)) rfl (by kernel_rfl) (by kernel_rfl) (by kernel_rfl) (fun _ _ _ h => h) (Or.inl ⟨by rfl, fun w' hS => by (try dsimp only at hS); go_simp⟩) ⟨(get5 (HG0.out.blw HBW.out).out.box).1, (get5 (HG0.out.blw HBW.out).out.box).2.1, (get5 (HG0.out.blw HBW.out).out.box).2.2.1, (get5 (HG0.out.blw HBW.out).out.box).2.2.2.1, (get5 (HG0.out.blw HBW.out).out.box).2.2.2.2⟩ ?_
    simp only [Act.put, List.setIfInBounds_toArray, List.set_cons_zero, List.set_cons_succ]
    refine wpAnyH_take (i := 9) (oi := { dst := some 8, op := Op.assign (Operand.tmp 36), type := 26, pos := _, after := #[{ on := 7, ground := Ground.data }, { on := 5, ground := Ground.chain }, { on := 0, ground := Ground.phase }, { on := 1, ground := Ground.phase }, { on := 2, ground := Ground.phase }, { on := 3, ground := Ground.phase }, { on := 4, ground := Ground.phase }, { on := 5, ground := Ground.phase }, { on := 6, ground := Ground.phase }, { on := 7, ground := Ground.phase }, { on := 8, ground := Ground.textOnly Departure.lateStores }], guard := none }) (v := (.slice aa na ca)) rfl (by kernel_rfl) (by kernel_rfl) (by kernel_rfl) (fun _ _ _ h => h) (Or.inl ⟨by rfl, fun w' hS => by (try dsimp only at hS); go_simp⟩) ⟨(get5 (HG0.out.blw HBW.out).out.box).1, (get5 (HG0.out.blw HBW.out).out.box).2.1, (get5 (HG0.out.blw HBW.out).out.box).2.2.1, (get5 (HG0.out.blw HBW.out).out.box).2.2.2.1, (get5 (HG0.out.blw HBW.out).out.box).2.2.2.2⟩ ?_
    simp only [Act.put, List.setIfInBounds_toArray, List.set_cons_zero, List.set_cons_succ]
    refine wpAnyH_take (i := 10) (oi := { dst := some 9, op := Op.assign (Operand.tmp 37), type := 4, pos := _, after := #[{ on := 8, ground := Ground.data }, { on := 9, ground := Ground.chain }, { on := 0, ground := Ground.phase }, { on := 1, ground := Ground.phase }, { on := 2, ground := Ground.phase }, { on := 3, ground := Ground.phase }, { on := 4, ground := Ground.phase }, { on := 5, ground := Ground.phase }, { on := 6, ground := Ground.phase }, { on := 7, ground := Ground.phase }, { on := 8, ground := Ground.phase }, { on := 9, ground := Ground.phase }], guard := none }) (v := (.bool ba)) rfl (by kernel_rfl) (by kernel_rfl) (by kernel_rfl) (fun _ _ _ h => h) (Or.inl ⟨by rfl, fun w' hS => by (try dsimp only at hS); go_simp⟩) ⟨(get5 (HG0.out.blw HBW.out).out.box).1, (get5 (HG0.out.blw HBW.out).out.box).2.1, (get5 (HG0.out.blw HBW.out).out.box).2.2.1, (get5 (HG0.out.blw HBW.out).out.box).2.2.2.1, (get5 (HG0.out.blw HBW.out).out.box).2.2.2.2⟩ ?_
    simp only [Act.put, List.setIfInBounds_toArray, List.set_cons_zero, List.set_cons_succ]
    refine wpAnyH_done (by kernel_rfl) ?_ _
    refine NoPanic.normal ?_
    go_wp2_with fail
    go_meet
    exact ⟨aa, na, ca, fa, ba, rfl, rfl, HOS.out.1, HOS.out.2, HAN.out.mono (fun x hx => Nat.lt_of_lt_of_le hx.2 HAU.out), HBW.out⟩
  case rest =>
    obtain ⟨a3, n3, c3, f3, b3, rfl, rfl, ho, hs, hat, hb⟩ := hcut
    generalize wc = w4 at *
    have hz := hb.size
    have HN0 : Hid (w.heap.size + 1 ≤ w4.heap.size) := by have h1 := HG0.out.1 (w.heap.size + 0) (by omega); show _ ≤ _; omega
    replace HP : Hid (St (fun x => x < w.heap.size) (fun W => KAt 3 (fun x => x < w.heap.size) W ap np F) w4) := HP.out.blw hb
    replace HG0 : Hid (St (fun x => x < w.heap.size + 1) (ArgG w.heap.size w.heap.size g0 D0) w4) := HG0.out.blw hb
    replace HB : Hid (Blw w w4) := HB.out.trans hb
    have HO3 : Hid (tbOut np F D0 k n3 f3 b3) := ho
    have hn3 : n3 ≤ 1048576 := hs
    have H3 : Hid (St (fun x => x < w4.heap.size) (fun W => IntsAt (fun x => x < w4.heap.size) W a3 n3 f3) w4) := IntsAt.st9 hat (fun x hx => hx)
    clear hb hat hz ho hs
    go_wp2_with fail
    refine (toInsS_any ap cp np F _ _ hnp2 HP.out.out).mono ?_
    rintro e w5 ⟨rfl, row, hb⟩
    try clear hr0
    have hlt := row.lt
    have hz := hb.size
    have HN1 : Hid (w4.heap.size ≤ w4.heap.size ∧ w4.heap.size < w5.heap.size) := ⟨by have o0 := HN0.out; omega, hlt⟩
    have h4P : KOwn 3 (fun x => w4.heap.size ≤ x ∧ x < w5.heap.size) w5 (some ⟨w4.heap.size, 0, none⟩) np F := kown3 row (by omega) HN1.out
    replace HP : Hid (St (fun x => x < w.heap.size) (fun W => KAt 3 (fun x => x < w.heap.size) W ap np F) w5) := HP.out.blw hb
    replace HG0 : Hid (St (fun x => x < w.heap.size + 1) (ArgG w.heap.size w.heap.size g0 D0) w5) := HG0.out.blw hb
    replace H3 : Hid (St (fun x => x < w4.heap.size) (fun W => IntsAt (fun x => x < w4.heap.size) W a3 n3 f3) w5) := H3.out.blw hb
    replace HB : Hid (Blw w w5) := HB.out.trans hb
    have H4P : Hid (St (fun x => w4.heap.size ≤ x ∧ x < w5.heap.size) (fun W => KOwn 3 (fun x => w4.heap.size ≤ x ∧ x < w5.heap.size) W (some ⟨w4.heap.size, 0, none⟩) np F) w5) := KOwn.st h4P (fun x hx => hx.2)
    clear hb row hz hlt h4P
    obtain ⟨p00, p01, p02, p03, p04⟩ := get5 HG0.out.out.box
    go_wp2_with fail
    clear p00 p01 p02 p03 p04
    refine (toGuest_any g0 D0 _ _ SM0.out HG0.out.out.at_).mono ?_
    rintro e w6 ⟨v40, rfl, own, hb⟩
    have hz := hb.size
    have hA : Blw w6 (w6.alloc (.cells #[.int .i64 D0.at_, .int .i64 D0.acc, .slice v40.a1 D0.nc v40.c1, .slice v40.a2 D0.nt v40.c2, .bool D0.d] 61)) := (Blw.refl _).alloc _
    have HN2 : Hid (w5.heap.size ≤ w5.heap.size ∧ w5.heap.size ≤ w6.heap.size) := ⟨by have o0 := HN0.out; have o1 := HN1.out; omega, hz⟩
    have h4G0 : BBG (fun x => w5.heap.size ≤ x ∧ x < w6.heap.size + 1) w6.heap.size v40 D0 D0 (w6.alloc (.cells #[.int .i64 D0.at_, .int .i64 D0.acc, .slice v40.a1 D0.nc v40.c1, .slice v40.a2 D0.nt v40.c2, .bool D0.d] 61)) := ⟨(own.blw hA).mono (fun x hx => by have ho := HN2.out; exact ⟨⟨by omega, by omega⟩, by omega⟩), row5 w6 _ _ _ _ _ 61⟩
    replace HP : Hid (St (fun x => x < w.heap.size) (fun W => KAt 3 (fun x => x < w.heap.size) W ap np F) (w6.alloc (.cells #[.int .i64 D0.at_, .int .i64 D0.acc, .slice v40.a1 D0.nc v40.c1, .slice v40.a2 D0.nt v40.c2, .bool D0.d] 61))) := HP.out.blw (hb.trans hA)
    replace HG0 : Hid (St (fun x => x < w.heap.size + 1) (ArgG w.heap.size w.heap.size g0 D0) (w6.alloc (.cells #[.int .i64 D0.at_, .int .i64 D0.acc, .slice v40.a1 D0.nc v40.c1, .slice v40.a2 D0.nt v40.c2, .bool D0.d] 61))) := HG0.out.blw (hb.trans hA)
    replace H3 : Hid (St (fun x => x < w4.heap.size) (fun W => IntsAt (fun x => x < w4.heap.size) W a3 n3 f3) (w6.alloc (.cells #[.int .i64 D0.at_, .int .i64 D0.acc, .slice v40.a1 D0.nc v40.c1, .slice v40.a2 D0.nt v40.c2, .bool D0.d] 61))) := H3.out.blw (hb.trans hA)
    replace H4P : Hid (St (fun x => w4.heap.size ≤ x ∧ x < w5.heap.size) (fun W => KOwn 3 (fun x => w4.heap.size ≤ x ∧ x < w5.heap.size) W (some ⟨w4.heap.size, 0, none⟩) np F) (w6.alloc (.cells #[.int .i64 D0.at_, .int .i64 D0.acc, .slice v40.a1 D0.nc v40.c1, .slice v40.a2 D0.nt v40.c2, .bool D0.d] 61))) := H4P.out.blw (hb.trans hA)
    replace HB : Hid (Blw w (w6.alloc (.cells #[.int .i64 D0.at_, .int .i64 D0.acc, .slice v40.a1 D0.nc v40.c1, .slice v40.a2 D0.nt v40.c2, .bool D0.d] 61))) := HB.out.trans (hb.trans hA)
    have H4G0 : Hid (St (fun x => w5.heap.size ≤ x ∧ x < w6.heap.size + 1) (BBG (fun x => w5.heap.size ≤ x ∧ x < w6.heap.size + 1) w6.heap.size v40 D0 D0) (w6.alloc (.cells #[.int .i64 D0.at_, .int .i64 D0.acc, .slice v40.a1 D0.nc v40.c1, .slice v40.a2 D0.nt v40.c2, .bool D0.d] 61))) := BBG.st h4G0 (by have ho := HN2.out; exact ⟨by omega, by omega⟩) (fun x hx => by simp only [World.size_alloc]; omega)
    clear hb hA own hz h4G0
    obtain ⟨p00, p01, p02, p03, p04⟩ := get5 H4G0.out.out.box
    go_wp2_with fail
    clear p00 p01 p02 p03 p04
    have HN3 : Hid (w6.heap.size + 1 ≤ (w6.alloc (.cells #[.int .i64 D0.at_, .int .i64 D0.acc, .slice v40.a1 D0.nc v40.c1, .slice v40.a2 D0.nt v40.c2, .bool D0.d] 61)).heap.size) := by show _ ≤ _; simp only [World.size_alloc]; have o0 := HN0.out; have o1 := HN1.out; have o2 := HN2.out; omega
    generalize w6.alloc (.cells #[.int .i64 D0.at_, .int .i64 D0.acc, .slice v40.a1 D0.nc v40.c1, .slice v40.a2 D0.nt v40.c2, .bool D0.d] 61) = w7 at *
    refine (implTouched_any (some ⟨w4.heap.size, 0, none⟩) np np F v40 D0 k _ _ _ (H4P.out.out.at) H4G0.out.out.own.at (fun x hx => by have := H4G0.out.1 x hx.1; omega)).mono ?_
    rintro e w8 ⟨a5, n5, c5, f5, b5, rfl, ho, hs, own, hb⟩
    have hz := hb.size
    obtain ⟨⟨eR, ef⟩, eb⟩ := tbOut_same ho HO3.out
    subst eR eb
    have HN4 : Hid (w6.heap.size + 1 ≤ w7.heap.size ∧ w7.heap.size ≤ w8.heap.size) := by have o0 := HN0.out; have o1 := HN1.out; have o2 := HN2.out; have o3 := HN3.out; exact ⟨by omega, by omega⟩
    have h5 : IntsOwn (fun x => w6.heap.size + 1 ≤ x ∧ x < w8.heap.size) w8 a5 n5 f3 := (own.congr' ef).mono' (fun x hx => by have ho := HN4.out; omega)
    replace HP : Hid (St (fun x => x < w.heap.size) (fun W => KAt 3 (fun x => x < w.heap.size) W ap np F) w8) := HP.out.blw hb
    replace HG0 : Hid (St (fun x => x < w.heap.size + 1) (ArgG w.heap.size w.heap.size g0 D0) w8) := HG0.out.blw hb
    replace H3 : Hid (St (fun x => x < w4.heap.size) (fun W => IntsAt (fun x => x < w4.heap.size) W a3 n5 f3) w8) := H3.out.blw hb
    replace H4P : Hid (St (fun x => w4.heap.size ≤ x ∧ x < w5.heap.size) (fun W => KOwn 3 (fun x => w4.heap.size ≤ x ∧ x < w5.heap.size) W (some ⟨w4.heap.size, 0, none⟩) np F) w8) := H4P.out.blw hb
    replace H4G0 : Hid (St (fun x => w5.heap.size ≤ x ∧ x < w6.heap.size + 1) (BBG (fun x => w5.heap.size ≤ x ∧ x < w6.heap.size + 1) w6.heap.size v40 D0 D0) w8) := H4G0.out.blw hb
    replace HB : Hid (Blw w w8) := HB.out.trans hb
    have H5 : Hid (St (fun x => w6.heap.size + 1 ≤ x ∧ x < w8.heap.size) (fun W => IntsOwn (fun x => w6.heap.size + 1 ≤ x ∧ x < w8.heap.size) W a5 n5 f3) w8) := IntsOwn.st9 h5 (fun x hx => hx.2)
    clear hb own hz ho ef hs h5
    have hne : (b5 != b5) = false := by simp
    go_wp2_with fail
    refine (eqIntS_blw _ _ _ _ n5 f3 _ H5.out.out.at H3.out.out).mono ?_
    rintro e w9 ⟨rfl, hb⟩
    replace HP : Hid (St (fun x => x < w.heap.size) (fun W => KAt 3 (fun x => x < w.heap.size) W ap np F) w9) := HP.out.blw hb
    replace HG0 : Hid (St (fun x => x < w.heap.size + 1) (ArgG w.heap.size w.heap.size g0 D0) w9) := HG0.out.blw hb
    replace H3 : Hid (St (fun x => x < w4.heap.size) (fun W => IntsAt (fun x => x < w4.heap.size) W a3 n5 f3) w9) := H3.out.blw hb
    replace H4P : Hid (St (fun x => w4.heap.size ≤ x ∧ x < w5.heap.size) (fun W => KOwn 3 (fun x => w4.heap.size ≤ x ∧ x < w5.heap.size) W (some ⟨w4.heap.size, 0, none⟩) np F) w9) := H4P.out.blw hb
    replace H4G0 : Hid (St (fun x => w5.heap.size ≤ x ∧ x < w6.heap.size + 1) (BBG (fun x => w5.heap.size ≤ x ∧ x < w6.heap.size + 1) w6.heap.size v40 D0 D0) w9) := H4G0.out.blw hb
    replace H5 : Hid (St (fun x => w6.heap.size + 1 ≤ x ∧ x < w8.heap.size) (fun W => IntsOwn (fun x => w6.heap.size + 1 ≤ x ∧ x < w8.heap.size) W a5 n5 f3) w9) := H5.out.blw hb
    replace HB : Hid (Blw w w9) := HB.out.trans hb
    clear hb
    go_wp2_with fail
    refine (toInsS_any ap cp np F _ _ hnp2 HP.out.out).mono ?_
    rintro e w10 ⟨rfl, row, hb⟩
    have hlt := row.lt
    have C6 : Hid (KAt 3 (fun x => x < w10.heap.size) w10 (some ⟨w9.heap.size, 0, none⟩) np F) := (kown3 row (by omega) (X := fun x => x < w10.heap.size) hlt).at
    replace HP : Hid (St (fun x => x < w.heap.size) (fun W => KAt 3 (fun x => x < w.heap.size) W ap np F) w10) := HP.out.blw hb
    replace HG0 : Hid (St (fun x => x < w.heap.size + 1) (ArgG w.heap.size w.heap.size g0 D0) w10) := HG0.out.blw hb
    replace H3 : Hid (St (fun x => x < w4.heap.size) (fun W => IntsAt (fun x => x < w4.heap.size) W a3 n5 f3) w10) := H3.out.blw hb
    replace H4P : Hid (St (fun x => w4.heap.size ≤ x ∧ x < w5.heap.size) (fun W => KOwn 3 (fun x => w4.heap.size ≤ x ∧ x < w5.heap.size) W (some ⟨w4.heap.size, 0, none⟩) np F) w10) := H4P.out.blw hb
    replace H4G0 : Hid (St (fun x => w5.heap.size ≤ x ∧ x < w6.heap.size + 1) (BBG (fun x => w5.heap.size ≤ x ∧ x < w6.heap.size + 1) w6.heap.size v40 D0 D0) w10) := H4G0.out.blw hb
    replace H5 : Hid (St (fun x => w6.heap.size + 1 ≤ x ∧ x < w8.heap.size) (fun W => IntsOwn (fun x => w6.heap.size + 1 ≤ x ∧ x < w8.heap.size) W a5 n5 f3) w10) := H5.out.blw hb
    replace HB : Hid (Blw w w10) := HB.out.trans hb
    clear hb row hlt
    go_wp2_with fail
    refine (eqInsS_same _ _ _ _ np F _ (H4P.out.out.at) C6.out).mono ?_
    rintro e w11 ⟨rfl, hb⟩
    replace HP : Hid (St (fun x => x < w.heap.size) (fun W => KAt 3 (fun x => x < w.heap.size) W ap np F) w11) := HP.out.blw hb
    replace HG0 : Hid (St (fun x => x < w.heap.size + 1) (ArgG w.heap.size w.heap.size g0 D0) w11) := HG0.out.blw hb
    replace H3 : Hid (St (fun x => x < w4.heap.size) (fun W => IntsAt (fun x => x < w4.heap.size) W a3 n5 f3) w11) := H3.out.blw hb
    replace H4P : Hid (St (fun x => w4.heap.size ≤ x ∧ x < w5.heap.size) (fun W => KOwn 3 (fun x => w4.heap.size ≤ x ∧ x < w5.heap.size) W (some ⟨w4.heap.size, 0, none⟩) np F) w11) := H4P.out.blw hb
    replace H4G0 : Hid (St (fun x => w5.heap.size ≤ x ∧ x < w6.heap.size + 1) (BBG (fun x => w5.heap.size ≤ x ∧ x < w6.heap.size + 1) w6.heap.size v40 D0 D0) w11) := H4G0.out.blw hb
    replace H5 : Hid (St (fun x => w6.heap.size + 1 ≤ x ∧ x < w8.heap.size) (fun W => IntsOwn (fun x => w6.heap.size + 1 ≤ x ∧ x < w8.heap.size) W a5 n5 f3) w11) := H5.out.blw hb
    replace HB : Hid (Blw w w11) := HB.out.trans hb
    clear hb C6
    go_upto_region 16 with fail
    go_cut [67] from 63 to 67 (fun c wx => c = .bool false ∧ Blw w11 wx)
    case first =>
      have A0 : ∀ w', Blw w11 w' → w'.cell? ⟨w.heap.size, 0, none⟩ = some (.int .i64 D0.at_) := fun w' hh => (get5 (HG0.out.blw hh).out.box).1
      have A1 : ∀ w', Blw w11 w' → w'.cell? ⟨w.heap.size, 1, none⟩ = some (.int .i64 D0.acc) := fun w' hh => (get5 (HG0.out.blw hh).out.box).2.1
      have A2 : ∀ w', Blw w11 w' → w'.cell? ⟨w.heap.size, 2, none⟩ = some (.slice g0.a1 D0.nc g0.c1) := fun w' hh => (get5 (HG0.out.blw hh).out.box).2.2.1
      have A3 : ∀ w', Blw w11 w' → w'.cell? ⟨w.heap.size, 3, none⟩ = some (.slice g0.a2 D0.nt g0.c2) := fun w' hh => (get5 (HG0.out.blw hh).out.box).2.2.2.1
      have A4 : ∀ w', Blw w11 w' → w'.cell? ⟨w.heap.size, 4, none⟩ = some (.bool D0.d) := fun w' hh => (get5 (HG0.out.blw hh).out.box).2.2.2.2
      have B0 : ∀ w', Blw w11 w' → w'.cell? ⟨w6.heap.size, 0, none⟩ = some (.int .i64 D0.at_) := fun w' hh => (get5 (H4G0.out.blw hh).out.box).1
      have B1 : ∀ w', Blw w11 w' → w'.cell? ⟨w6.heap.size, 1, none⟩ = some (.int .i64 D0.acc) := fun w' hh => (get5 (H4G0.out.blw hh).out.box).2.1
      have B2 : ∀ w', Blw w11 w' → w'.cell? ⟨w6.heap.size, 2, none⟩ = some (.slice v40.a1 D0.nc v40.c1) := fun w' hh => (get5 (H4G0.out.blw hh).out.box).2.2.1
      have B3 : ∀ w', Blw w11 w' → w'.cell? ⟨w6.heap.size, 3, none⟩ = some (.slice v40.a2 D0.nt v40.c2) := fun w' hh => (get5 (H4G0.out.blw hh).out.box).2.2.2.1
      have B4 : ∀ w', Blw w11 w' → w'.cell? ⟨w6.heap.size, 4, none⟩ = some (.bool D0.d) := fun w' hh => (get5 (H4G0.out.blw hh).out.box).2.2.2.2
      go_region_held3 (fun w' => Blw w11 w') ((first | exact (Blw.refl _).drew | assumption | exact Blw.trans (by assumption) (by assumption))) (first
        | (go_at_call 72; refine (toGuest_any g0 D0 _ _ SM0.out (HG0.out.blw (by assumption)).out.at_).mono ?_; rintro e w70 ⟨v6, rfl, o6, hb7⟩)
        | (go_at_call 73; refine (eqGuest_same v40 v6 D0 _ (H4G0.out.blw (by assumption)).out.own.at o6.at).mono ?_; rintro e w80 ⟨rfl, hb8⟩))
      all_goals go_wp2_with fail
      all_goals go_meet
      all_goals exact ⟨rfl, by assumption⟩
    case rest =>
      obtain ⟨rfl, hb⟩ := hcut
      replace HP : Hid (St (fun x => x < w.heap.size) (fun W => KAt 3 (fun x => x < w.heap.size) W ap np F) wc) := HP.out.blw hb
      replace HG0 : Hid (St (fun x => x < w.heap.size + 1) (ArgG w.heap.size w.heap.size g0 D0) wc) := HG0.out.blw hb
      replace H3 : Hid (St (fun x => x < w4.heap.size) (fun W => IntsAt (fun x => x < w4.heap.size) W a3 n5 f3) wc) := H3.out.blw hb
      replace H4P : Hid (St (fun x => w4.heap.size ≤ x ∧ x < w5.heap.size) (fun W => KOwn 3 (fun x => w4.heap.size ≤ x ∧ x < w5.heap.size) W (some ⟨w4.heap.size, 0, none⟩) np F) wc) := H4P.out.blw hb
      replace H4G0 : Hid (St (fun x => w5.heap.size ≤ x ∧ x < w6.heap.size + 1) (BBG (fun x => w5.heap.size ≤ x ∧ x < w6.heap.size + 1) w6.heap.size v40 D0 D0) wc) := H4G0.out.blw hb
      replace H5 : Hid (St (fun x => w6.heap.size + 1 ≤ x ∧ x < w8.heap.size) (fun W => IntsOwn (fun x => w6.heap.size + 1 ≤ x ∧ x < w8.heap.size) W a5 n5 f3) wc) := H5.out.blw hb
      replace HB : Hid (Blw w wc) := HB.out.trans hb
      clear hb
      generalize wc = w12 at *
      go_wp2_with fail
      refine (markInsS_any _ np np F _ (1) _ (by omega) (by omega) H4P.out.out).mono ?_
      rintro e w13 ⟨rfl, own, hm⟩
      have s4 := hm.size
      replace HP : Hid (St (fun x => x < w.heap.size) (fun W => KAt 3 (fun x => x < w.heap.size) W ap np F) w13) := HP.out.mod hm (fun x hx hz => by have o0 := HN0.out; have o1 := HN1.out; have o2 := HN2.out; have o3 := HN3.out; have o4 := HN4.out; have hz' : w4.heap.size ≤ x ∧ x < w5.heap.size := hz; have hx' : x < w.heap.size := hx; omega)
      replace HG0 : Hid (St (fun x => x < w.heap.size + 1) (ArgG w.heap.size w.heap.size g0 D0) w13) := HG0.out.mod hm (fun x hx hz => by have o0 := HN0.out; have o1 := HN1.out; have o2 := HN2.out; have o3 := HN3.out; have o4 := HN4.out; have hz' : w4.heap.size ≤ x ∧ x < w5.heap.size := hz; have hx' : x < w.heap.size + 1 := hx; omega)
      replace H3 : Hid (St (fun x => x < w4.heap.size) (fun W => IntsAt (fun x => x < w4.heap.size) W a3 n5 f3) w13) := H3.out.mod hm (fun x hx hz => by have o0 := HN0.out; have o1 := HN1.out; have o2 := HN2.out; have o3 := HN3.out; have o4 := HN4.out; have hz' : w4.heap.size ≤ x ∧ x < w5.heap.size := hz; have hx' : x < w4.heap.size := hx; omega)
      replace H4G0 : Hid (St (fun x => w5.heap.size ≤ x ∧ x < w6.heap.size + 1) (BBG (fun x => w5.heap.size ≤ x ∧ x < w6.heap.size + 1) w6.heap.size v40 D0 D0) w13) := H4G0.out.mod hm (fun x hx hz => by have o0 := HN0.out; have o1 := HN1.out; have o2 := HN2.out; have o3 := HN3.out; have o4 := HN4.out; have hz' : w4.heap.size ≤ x ∧ x < w5.heap.size := hz; have hx' : w5.heap.size ≤ x ∧ x < w6.heap.size + 1 := hx; omega)
      replace H5 : Hid (St (fun x => w6.heap.size + 1 ≤ x ∧ x < w8.heap.size) (fun W => IntsOwn (fun x => w6.heap.size + 1 ≤ x ∧ x < w8.heap.size) W a5 n5 f3) w13) := H5.out.mod hm (fun x hx hz => by have o0 := HN0.out; have o1 := HN1.out; have o2 := HN2.out; have o3 := HN3.out; have o4 := HN4.out; have hz' : w4.heap.size ≤ x ∧ x < w5.heap.size := hz; have hx' : w6.heap.size + 1 ≤ x ∧ x < w8.heap.size := hx; omega)
      replace HB : Hid (Blw w w13) := Mod.blw HB.out hm (fun x hz => by have o0 := HN0.out; have o1 := HN1.out; have o2 := HN2.out; have o3 := HN3.out; have o4 := HN4.out; have hz' : w4.heap.size ≤ x ∧ x < w5.heap.size := hz; omega)
      replace H4P : Hid (St (fun x => w4.heap.size ≤ x ∧ x < w5.heap.size) (fun W => KOwn 3 (fun x => w4.heap.size ≤ x ∧ x < w5.heap.size) W (some ⟨w4.heap.size, 0, none⟩) np (mkK 3 (1))) w13) := KOwn.st own (fun x hx => Nat.lt_of_lt_of_le (H4P.out.1 x hx) s4)
      clear own hm s4
      have htM0 : D0.total ≤ 1048576 := SM0.out
      obtain ⟨p00, p01, p02, p03, p04⟩ := get5 H4G0.out.out.box
      go_wp2_with fail
      clear p00 p01 p02 p03 p04
      refine (markGuest_any v40 D0 _ (1 + 3 * (np : Int)) _ SM0.out (by omega) (by omega) (fun x hx => H4G0.out.1 x hx.1) H4G0.out.out.own).mono ?_
      rintro e w14 ⟨rfl, own, hm⟩
      have bx4 := H4G0.out.out.box.mod hm (fun hh => hh.2 rfl)
      have s4 := hm.size
      replace HP : Hid (St (fun x => x < w.heap.size) (fun W => KAt 3 (fun x => x < w.heap.size) W ap np F) w14) := HP.out.mod hm (fun x hx hz => by have o0 := HN0.out; have o1 := HN1.out; have o2 := HN2.out; have o3 := HN3.out; have o4 := HN4.out; have hz' : w5.heap.size ≤ x ∧ x < w6.heap.size + 1 := hz.1; have hx' : x < w.heap.size := hx; omega)
      replace HG0 : Hid (St (fun x => x < w.heap.size + 1) (ArgG w.heap.size w.heap.size g0 D0) w14) := HG0.out.mod hm (fun x hx hz => by have o0 := HN0.out; have o1 := HN1.out; have o2 := HN2.out; have o3 := HN3.out; have o4 := HN4.out; have hz' : w5.heap.size ≤ x ∧ x < w6.heap.size + 1 := hz.1; have hx' : x < w.heap.size + 1 := hx; omega)
      replace H3 : Hid (St (fun x => x < w4.heap.size) (fun W => IntsAt (fun x => x < w4.heap.size) W a3 n5 f3) w14) := H3.out.mod hm (fun x hx hz => by have o0 := HN0.out; have o1 := HN1.out; have o2 := HN2.out; have o3 := HN3.out; have o4 := HN4.out; have hz' : w5.heap.size ≤ x ∧ x < w6.heap.size + 1 := hz.1; have hx' : x < w4.heap.size := hx; omega)
      replace H4P : Hid (St (fun x => w4.heap.size ≤ x ∧ x < w5.heap.size) (fun W => KOwn 3 (fun x => w4.heap.size ≤ x ∧ x < w5.heap.size) W (some ⟨w4.heap.size, 0, none⟩) np (mkK 3 (1))) w14) := H4P.out.mod hm (fun x hx hz => by have o0 := HN0.out; have o1 := HN1.out; have o2 := HN2.out; have o3 := HN3.out; have o4 := HN4.out; have hz' : w5.heap.size ≤ x ∧ x < w6.heap.size + 1 := hz.1; have hx' : w4.heap.size ≤ x ∧ x < w5.heap.size := hx; omega)
      replace H5 : Hid (St (fun x => w6.heap.size + 1 ≤ x ∧ x < w8.heap.size) (fun W => IntsOwn (fun x => w6.heap.size + 1 ≤ x ∧ x < w8.heap.size) W a5 n5 f3) w14) := H5.out.mod hm (fun x hx hz => by have o0 := HN0.out; have o1 := HN1.out; have o2 := HN2.out; have o3 := HN3.out; have o4 := HN4.out; have hz' : w5.heap.size ≤ x ∧ x < w6.heap.size + 1 := hz.1; have hx' : w6.heap.size + 1 ≤ x ∧ x < w8.heap.size := hx; omega)
      replace HB : Hid (Blw w w14) := Mod.blw HB.out hm (fun x hz => by have o0 := HN0.out; have o1 := HN1.out; have o2 := HN2.out; have o3 := HN3.out; have o4 := HN4.out; have hz' : w5.heap.size ≤ x ∧ x < w6.heap.size + 1 := hz.1; omega)
      replace H4G0 : Hid (St (fun x => w5.heap.size ≤ x ∧ x < w6.heap.size + 1) (BBG (fun x => w5.heap.size ≤ x ∧ x < w6.heap.size + 1) w6.heap.size v40 D0 (D0.marked (1 + 3 * (np : Int)))) w14) := BBG.st ⟨own, bx4⟩ (by have o0 := HN0.out; have o1 := HN1.out; have o2 := HN2.out; have o3 := HN3.out; have o4 := HN4.out; exact (by omega : w5.heap.size ≤ w6.heap.size ∧ w6.heap.size < w6.heap.size + 1)) (fun x hx => Nat.lt_of_lt_of_le (H4G0.out.1 x hx) s4)
      clear own hm bx4 s4
      have k1 : ¬ (1 + 3 * (np : Int) + (D0.total : Int) < 0) := by omega
      go_wp2_with fail
      refine (eqIntS_blw _ _ _ _ n5 f3 _ H5.out.out.at H3.out.out).mono ?_
      rintro e w15 ⟨rfl, hb⟩
      replace HP : Hid (St (fun x => x < w.heap.size) (fun W => KAt 3 (fun x => x < w.heap.size) W ap np F) w15) := HP.out.blw hb
      replace HG0 : Hid (St (fun x => x < w.heap.size + 1) (ArgG w.heap.size w.heap.size g0 D0) w15) := HG0.out.blw hb
      replace H3 : Hid (St (fun x => x < w4.heap.size) (fun W => IntsAt (fun x => x < w4.heap.size) W a3 n5 f3) w15) := H3.out.blw hb
      replace H4P : Hid (St (fun x => w4.heap.size ≤ x ∧ x < w5.heap.size) (fun W => KOwn 3 (fun x => w4.heap.size ≤ x ∧ x < w5.heap.size) W (some ⟨w4.heap.size, 0, none⟩) np (mkK 3 (1))) w15) := H4P.out.blw hb
      replace H4G0 : Hid (St (fun x => w5.heap.size ≤ x ∧ x < w6.heap.size + 1) (BBG (fun x => w5.heap.size ≤ x ∧ x < w6.heap.size + 1) w6.heap.size v40 D0 (D0.marked (1 + 3 * (np : Int)))) w15) := H4G0.out.blw hb
      replace H5 : Hid (St (fun x => w6.heap.size + 1 ≤ x ∧ x < w8.heap.size) (fun W => IntsOwn (fun x => w6.heap.size + 1 ≤ x ∧ x < w8.heap.size) W a5 n5 f3) w15) := H5.out.blw hb
      replace HB : Hid (Blw w w15) := HB.out.trans hb
      clear hb
      clear k1
      go_wp2_with fail
      refine (markIntS_any a5 c5 n5 f3 _ 1 _ (by omega) (by omega) H5.out.out).mono ?_
      rintro e w16 ⟨rfl, own, hm⟩
      have s4 := hm.size
      replace HP : Hid (St (fun x => x < w.heap.size) (fun W => KAt 3 (fun x => x < w.heap.size) W ap np F) w16) := HP.out.mod hm (fun x hx hz => by have o0 := HN0.out; have o1 := HN1.out; have o2 := HN2.out; have o3 := HN3.out; have o4 := HN4.out; have hz' : w6.heap.size + 1 ≤ x ∧ x < w8.heap.size := hz.1; have hx' : x < w.heap.size := hx; omega)
      replace HG0 : Hid (St (fun x => x < w.heap.size + 1) (ArgG w.heap.size w.heap.size g0 D0) w16) := HG0.out.mod hm (fun x hx hz => by have o0 := HN0.out; have o1 := HN1.out; have o2 := HN2.out; have o3 := HN3.out; have o4 := HN4.out; have hz' : w6.heap.size + 1 ≤ x ∧ x < w8.heap.size := hz.1; have hx' : x < w.heap.size + 1 := hx; omega)
      replace H3 : Hid (St (fun x => x < w4.heap.size) (fun W => IntsAt (fun x => x < w4.heap.size) W a3 n5 f3) w16) := H3.out.mod hm (fun x hx hz => by have o0 := HN0.out; have o1 := HN1.out; have o2 := HN2.out; have o3 := HN3.out; have o4 := HN4.out; have hz' : w6.heap.size + 1 ≤ x ∧ x < w8.heap.size := hz.1; have hx' : x < w4.heap.size := hx; omega)
      replace H4P : Hid (St (fun x => w4.heap.size ≤ x ∧ x < w5.heap.size) (fun W => KOwn 3 (fun x => w4.heap.size ≤ x ∧ x < w5.heap.size) W (some ⟨w4.heap.size, 0, none⟩) np (mkK 3 (1))) w16) := H4P.out.mod hm (fun x hx hz => by have o0 := HN0.out; have o1 := HN1.out; have o2 := HN2.out; have o3 := HN3.out; have o4 := HN4.out; have hz' : w6.heap.size + 1 ≤ x ∧ x < w8.heap.size := hz.1; have hx' : w4.heap.size ≤ x ∧ x < w5.heap.size := hx; omega)
      replace H4G0 : Hid (St (fun x => w5.heap.size ≤ x ∧ x < w6.heap.size + 1) (BBG (fun x => w5.heap.size ≤ x ∧ x < w6.heap.size + 1) w6.heap.size v40 D0 (D0.marked (1 + 3 * (np : Int)))) w16) := H4G0.out.mod hm (fun x hx hz => by have o0 := HN0.out; have o1 := HN1.out; have o2 := HN2.out; have o3 := HN3.out; have o4 := HN4.out; have hz' : w6.heap.size + 1 ≤ x ∧ x < w8.heap.size := hz.1; have hx' : w5.heap.size ≤ x ∧ x < w6.heap.size + 1 := hx; omega)
      replace HB : Hid (Blw w w16) := Mod.blw HB.out hm (fun x hz => by have o0 := HN0.out; have o1 := HN1.out; have o2 := HN2.out; have o3 := HN3.out; have o4 := HN4.out; have hz' : w6.heap.size + 1 ≤ x ∧ x < w8.heap.size := hz.1; omega)
      replace H5 : Hid (St (fun x => w6.heap.size + 1 ≤ x ∧ x < w8.heap.size) (fun W => IntsOwn (fun x => w6.heap.size + 1 ≤ x ∧ x < w8.heap.size) W a5 n5 (fun i => 1 + (i : Int))) w16) := IntsOwn.st9 own (fun x hx => Nat.lt_of_lt_of_le (H5.out.1 x hx) s4)
      clear own hm s4
      have k1 : ¬ (1 + (n5 : Int) < 0) := by omega
      have k2 : ((1 + (n5 : Int)) != (1 + (n5 : Int))) = false := by simp
      go_wp2_with fail
      refine (heldIntS_any a5 c5 n5 _ 1 _ (by omega) (by omega) H5.out.out.at).mono ?_
      rintro e w17 ⟨rfl, hb⟩
      replace HP : Hid (St (fun x => x < w.heap.size) (fun W => KAt 3 (fun x => x < w.heap.size) W ap np F) w17) := HP.out.blw hb
      replace HG0 : Hid (St (fun x => x < w.heap.size + 1) (ArgG w.heap.size w.heap.size g0 D0) w17) := HG0.out.blw hb
      replace H3 : Hid (St (fun x => x < w4.heap.size) (fun W => IntsAt (fun x => x < w4.heap.size) W a3 n5 f3) w17) := H3.out.blw hb
      replace H4P : Hid (St (fun x => w4.heap.size ≤ x ∧ x < w5.heap.size) (fun W => KOwn 3 (fun x => w4.heap.size ≤ x ∧ x < w5.heap.size) W (some ⟨w4.heap.size, 0, none⟩) np (mkK 3 (1))) w17) := H4P.out.blw hb
      replace H4G0 : Hid (St (fun x => w5.heap.size ≤ x ∧ x < w6.heap.size + 1) (BBG (fun x => w5.heap.size ≤ x ∧ x < w6.heap.size + 1) w6.heap.size v40 D0 (D0.marked (1 + 3 * (np : Int)))) w17) := H4G0.out.blw hb
      replace H5 : Hid (St (fun x => w6.heap.size + 1 ≤ x ∧ x < w8.heap.size) (fun W => IntsOwn (fun x => w6.heap.size + 1 ≤ x ∧ x < w8.heap.size) W a5 n5 (fun i => 1 + (i : Int))) w17) := H5.out.blw hb
      replace HB : Hid (Blw w w17) := HB.out.trans hb
      clear hb
      go_upto_region 31 with fail
      go_cut [17, 18] from 17 to 106 (fun c0 c1 wx => DrI w17 (tbOut np F D0 k) c0 c1 wx)
      case first =>
        have HBW : Hid (Blw w17 w17.drew) := (Blw.refl _).drew
        refine wp_region_noPanic ?_
        refine wp_region_held_drew (S := fun w' => w'.cell? ⟨w.heap.size, 0, none⟩ = some (.int .i64 D0.at_) ∧ w'.cell? ⟨w.heap.size, 1, none⟩ = some (.int .i64 D0.acc) ∧ w'.cell? ⟨w.heap.size, 2, none⟩ = some (.slice g0.a1 D0.nc g0.c1) ∧ w'.cell? ⟨w.heap.size, 3, none⟩ = some (.slice g0.a2 D0.nt g0.c2) ∧ w'.cell? ⟨w.heap.size, 4, none⟩ = some (.bool D0.d)) (by kernel_rfl) ⟨(get5 (HG0.out.blw HBW.out).out.box).1, (get5 (HG0.out.blw HBW.out).out.box).2.1, (get5 (HG0.out.blw HBW.out).out.box).2.2.1, (get5 (HG0.out.blw HBW.out).out.box).2.2.2.1, (get5 (HG0.out.blw HBW.out).out.box).2.2.2.2⟩ (fun hB => ?_)
        clear hB
        generalize w17.drew = wd at *
        refine wpAnyH_take (i := 0) (oi := { dst := some 99, op := Op.move (Operand.tmp 0), type := 89, pos := _, after := #[], guard := none }) (v := (.slice ap np cp)) rfl (by kernel_rfl) (by kernel_rfl) (by kernel_rfl) (fun _ _ _ h => h) (Or.inl ⟨by rfl, fun w' hS => by (try dsimp only at hS); go_simp⟩) ⟨(get5 (HG0.out.blw HBW.out).out.box).1, (get5 (HG0.out.blw HBW.out).out.box).2.1, (get5 (HG0.out.blw HBW.out).out.box).2.2.1, (get5 (HG0.out.blw HBW.out).out.box).2.2.2.1, (get5 (HG0.out.blw HBW.out).out.box).2.2.2.2⟩ ?_
        simp only [Act.put, List.setIfInBounds_toArray, List.set_cons_zero, List.set_cons_succ]
        refine wpAnyH_take (i := 2) (oi := { dst := some 101, op := Op.load 94 (Operand.tmp 4), type := 94, pos := _, after := #[], guard := none }) (v := (GV.val g0 D0)) rfl (by kernel_rfl) (by kernel_rfl) (by kernel_rfl) (fun _ _ _ h => h) (Or.inl ⟨by rfl, fun w' hS => by (try dsimp only at hS); go_simp⟩) ⟨(get5 (HG0.out.blw HBW.out).out.box).1, (get5 (HG0.out.blw HBW.out).out.box).2.1, (get5 (HG0.out.blw HBW.out).out.box).2.2.1, (get5 (HG0.out.blw HBW.out).out.box).2.2.2.1, (get5 (HG0.out.blw HBW.out).out.box).2.2.2.2⟩ ?_
        simp only [Act.put, List.setIfInBounds_toArray, List.set_cons_zero, List.set_cons_succ]
        refine wpAnyH_take (i := 4) (oi := { dst := some 103, op := Op.move (Operand.tmp 2), type := 3, pos := _, after := #[], guard := none }) (v := (.int .i64 k)) rfl (by kernel_rfl) (by kernel_rfl) (by kernel_rfl) (fun _ _ _ h => h) (Or.inl ⟨by rfl, fun w' hS => by (try dsimp only at hS); go_simp⟩) ⟨(get5 (HG0.out.blw HBW.out).out.box).1, (get5 (HG0.out.blw HBW.out).out.box).2.1, (get5 (HG0.out.blw HBW.out).out.box).2.2.1, (get5 (HG0.out.blw HBW.out).out.box).2.2.2.1, (get5 (HG0.out.blw HBW.out).out.box).2.2.2.2⟩ ?_
        simp only [Act.put, List.setIfInBounds_toArray, List.set_cons_zero, List.set_cons_succ]
        refine wpAnyH_ready (rs := [1]) (by kernel_rfl) (by simp) ?_
        refine AllReadyH.cons (o := { dst := some 100, op := Op.call { callee := Callee.value (Operand.func 69), args := #[Operand.tmp 99], argTypes := #[89] }, type := 59, pos := _, after := #[{ on := 0, ground := Ground.data }], guard := none }) rfl (fun K hK => ?_) AllReadyH.nil
        go_simp
        refine (toInsS_any ap cp np F _ _ hnp2 (HP.out.blw HBW.out).out).mono ?_
        rintro e x1 ⟨rfl, row, hb⟩
        have hlt := row.lt
        have HN_ : Hid (KAt 3 (fun x => x < x1.heap.size) x1 (some ⟨wd.heap.size, 0, none⟩) np F) := (kown3 row (by omega) (X := fun x => x < x1.heap.size) hlt).at
        clear row hlt
        replace HBW : Hid (Blw w17 x1) := HBW.out.trans hb
        have HC0 := HN_
        clear HN_ hb
        refine hK.out _ _ ⟨(get5 (HG0.out.blw HBW.out).out.box).1, (get5 (HG0.out.blw HBW.out).out.box).2.1, (get5 (HG0.out.blw HBW.out).out.box).2.2.1, (get5 (HG0.out.blw HBW.out).out.box).2.2.2.1, (get5 (HG0.out.blw HBW.out).out.box).2.2.2.2⟩ (fun hB => ?_)
        clear hK K hB
        try simp only [Act.put, List.setIfInBounds_toArray, List.set_cons_zero, List.set_cons_succ]
        refine wpAnyH_ready (rs := [3]) (by kernel_rfl) (by simp) ?_
        refine AllReadyH.cons (o := { dst := some 102, op := Op.call { callee := Callee.value (Operand.func 72), args := #[Operand.tmp 101], argTypes := #[94] }, type := 61, pos := _, after := #[{ on := 2, ground := Ground.data }, { on := 1, ground := Ground.chain }], guard := none }) rfl (fun K hK => ?_) AllReadyH.nil
        go_simp
        refine (toGuest_any g0 D0 _ _ SM0.out (HG0.out.blw HBW.out).out.at_).mono ?_
        rintro e x2 ⟨y1, rfl, own, hb⟩
        have HN_ : Hid (GAt (fun x => x < x2.heap.size) x2 y1 D0) := own.at.mono (fun x hx => hx.2)
        clear own
        replace HBW : Hid (Blw w17 x2) := HBW.out.trans hb
        replace HC0 : Hid (KAt 3 (fun x => x < x2.heap.size) x2 (some ⟨wd.heap.size, 0, none⟩) np F) := (HC0.out.blw hb).mono (fun x hx => Nat.lt_of_lt_of_le hx hb.size)
        have HC1 := HN_
        clear HN_ hb
        refine hK.out _ _ ⟨(get5 (HG0.out.blw HBW.out).out.box).1, (get5 (HG0.out.blw HBW.out).out.box).2.1, (get5 (HG0.out.blw HBW.out).out.box).2.2.1, (get5 (HG0.out.blw HBW.out).out.box).2.2.2.1, (get5 (HG0.out.blw HBW.out).out.box).2.2.2.2⟩ (fun hB => ?_)
        clear hK K hB
        try simp only [Act.put, List.setIfInBounds_toArray, List.set_cons_zero, List.set_cons_succ]
        refine wpAnyH_ready (rs := [5]) (by kernel_rfl) (by simp) ?_
        refine AllReadyH.cons (o := { dst := some 104, op := Op.call { callee := Callee.value (Operand.func 40), args := #[Operand.tmp 100, Operand.tmp 102, Operand.tmp 103], argTypes := #[59, 61, 3] }, type := 35, pos := _, after := #[{ on := 1, ground := Ground.data }, { on := 3, ground := Ground.data }, { on := 4, ground := Ground.data }, { on := 3, ground := Ground.chain }], guard := none }) rfl (fun K hK => ?_) AllReadyH.nil
        go_simp
        refine (implTouched_any _ _ np F y1 D0 k _ _ _ HC0.out HC1.out (fun x hx => hx)).mono ?_
        rintro e x3 ⟨aa, na, ca, fa, ba, rfl, ho, hs, own, hb⟩
        replace HBW : Hid (Blw w17 x3) := HBW.out.trans hb
        replace HC0 : Hid (KAt 3 (fun x => x < x3.heap.size) x3 (some ⟨wd.heap.size, 0, none⟩) np F) := (HC0.out.blw hb).mono (fun x hx => Nat.lt_of_lt_of_le hx hb.size)
        replace HC1 : Hid (GAt (fun x => x < x3.heap.size) x3 y1 D0) := (HC1.out.blw hb).mono (fun x hx => Nat.lt_of_lt_of_le hx hb.size)
        have HAN : Hid (IntsAt (fun x => x2.heap.size ≤ x ∧ x < x3.heap.size) x3 aa na fa) := own.at
        have HOS : Hid (tbOut np F D0 k na fa ba ∧ na ≤ 1048576) := ⟨ho, hs⟩
        have HAU : Hid (x3.heap.size ≤ x3.heap.size) := Nat.le_refl _
        clear ho hb hs own
        refine hK.out _ _ ⟨(get5 (HG0.out.blw HBW.out).out.box).1, (get5 (HG0.out.blw HBW.out).out.box).2.1, (get5 (HG0.out.blw HBW.out).out.box).2.2.1, (get5 (HG0.out.blw HBW.out).out.box).2.2.2.1, (get5 (HG0.out.blw HBW.out).out.box).2.2.2.2⟩ (fun hB => ?_)
        clear hK K hB
        try simp only [Act.put, List.setIfInBounds_toArray, List.set_cons_zero, List.set_cons_succ]
        refine wpAnyH_take (i := 6) (oi := { dst := some 98, op := Op.move (Operand.tmp 104), type := 35, pos := _, after := #[{ on := 5, ground := Ground.data }], guard := none }) (v := (.tuple #[.slice aa na ca, .bool ba])) rfl (by kernel_rfl) (by kernel_rfl) (by kernel_rfl) (fun _ _ _ h => h) (Or.inl ⟨by rfl, fun w' hS => by (try dsimp only at hS); go_simp⟩) ⟨(get5 (HG0.out.blw HBW.out).out.box).1, (get5 (HG0.out.blw HBW.out).out.box).2.1, (get5 (HG0.out.blw HBW.out).out.box).2.2.1, (get5 (HG0.out.blw HBW.out).out.box).2.2.2.1, (get5 (HG0.out.blw HBW.out).out.box).2.2.2.2⟩ ?_
        simp only [Act.put, List.setIfInBounds_toArray, List.set_cons_zero, List.set_cons_succ]
        refine wpAnyH_take (i := 7) (oi := { dst := some 105, op := Op.extract (Operand.tmp 98) 0, type := 26, pos := _, after := #[{ on := 6, ground := Ground.data }], guard := none }) (v := (.slice aa na ca)) rfl (by kernel_rfl) (by kernel_rfl) (by kernel_rfl) (fun _ _ _ h => h) (Or.inl ⟨by rfl, fun w' hS => by (try dsimp only at hS); go_simp⟩) ⟨(get5 (HG0.out.blw HBW.out).out.box).1, (get5 (HG0.out.blw HBW.out).out.box).2.1, (get5 (HG0.out.blw HBW.out).out.box).2.2.1, (get5 (HG0.out.blw HBW.out).out.box).2.2.2.1, (get5 (HG0.out.blw HBW.out).out.box).2.2.2.2⟩ ?_
        simp only [Act.put, List.setIfInBounds_toArray, List.set_cons_zero, List.set_cons_succ]
        refine wpAnyH_take (i := 8) (oi := { dst := some 106, op := Op.extract (Operand.tmp 98) 1, type := 4, pos := _, after := #[{ on := 6, ground := Ground.data }, { on := 9, ground := Ground.gcOnly Departure.lateStores }], guard := none }) (v := (.bool ba)) rfl (by kernel_rfl) (by kernel_rfl) (by kernel_rfl) (fun _ _ _ h => h) (Or.inl ⟨by rfl, fun w' hS => by (try dsimp only at hS); go_simp⟩) ⟨(get5 (HG0.out.blw HBW.out).out.box).1, (get5 (HG0.out.blw HBW.out).out.box).2.1, (get5 (HG0.out.blw HBW.out).out.box).2.2.1, (get5 (HG0.out.blw HBW.out).out.box).2.2.2.1, (get5 (HG0.out.blw HBW.out).out.box).2.2.2.2⟩ ?_
        simp only [Act.put, List.setIfInBounds_toArray, List.set_cons_zero, List.set_cons_succ]
        refine wpAnyH_take (i := 9) (oi := { dst := some 17, op := Op.assign (Operand.tmp 105), type := 26, pos := _, after := #[{ on := 7, ground := Ground.data }, { on := 5, ground := Ground.chain }, { on := 0, ground := Ground.phase }, { on := 1, ground := Ground.phase }, { on := 2, ground := Ground.phase }, { on := 3, ground := Ground.phase }, { on := 4, ground := Ground.phase }, { on := 5, ground := Ground.phase }, { on := 6, ground := Ground.phase }, { on := 7, ground := Ground.phase }, { on := 8, ground := Ground.textOnly Departure.lateStores }], guard := none }) (v := (.slice aa na ca)) rfl (by kernel_rfl) (by kernel_rfl) (by kernel_rfl) (fun _ _ _ h => h) (Or.inl ⟨by rfl, fun w' hS => by (try dsimp only at hS); go_simp⟩) ⟨(get5 (HG0.out.blw HBW.out).out.box).1, (get5 (HG0.out.blw HBW.out).out.box).2.1, (get5 (HG0.out.blw HBW.out).out.box).2.2.1, (get5 (HG0.out.blw HBW.out).out.box).2.2.2.1, (get5 (HG0.out.blw HBW.out).out.box).2.2.2.2⟩ ?_
        simp only [Act.put, List.setIfInBounds_toArray, List.set_cons_zero, List.set_cons_succ]
        refine wpAnyH_take (i := 10) (oi := { dst := some 18, op := Op.assign (Operand.tmp 106), type := 4, pos := _, after := #[{ on := 8, ground := Ground.data }, { on := 9, ground := Ground.chain }, { on := 0, ground := Ground.phase }, { on := 1, ground := Ground.phase }, { on := 2, ground := Ground.phase }, { on := 3, ground := Ground.phase }, { on := 4, ground := Ground.phase }, { on := 5, ground := Ground.phase }, { on := 6, ground := Ground.phase }, { on := 7, ground := Ground.phase }, { on := 8, ground := Ground.phase }, { on := 9, ground := Ground.phase }], guard := none }) (v := (.bool ba)) rfl (by kernel_rfl) (by kernel_rfl) (by kernel_rfl) (fun _ _ _ h => h) (Or.inl ⟨by rfl, fun w' hS => by (try dsimp only at hS); go_simp⟩) ⟨(get5 (HG0.out.blw HBW.out).out.box).1, (get5 (HG0.out.blw HBW.out).out.box).2.1, (get5 (HG0.out.blw HBW.out).out.box).2.2.1, (get5 (HG0.out.blw HBW.out).out.box).2.2.2.1, (get5 (HG0.out.blw HBW.out).out.box).2.2.2.2⟩ ?_
        simp only [Act.put, List.setIfInBounds_toArray, List.set_cons_zero, List.set_cons_succ]
        refine wpAnyH_done (by kernel_rfl) ?_ _
        refine NoPanic.normal ?_
        go_wp2_with fail
        go_meet
        exact ⟨aa, na, ca, fa, ba, rfl, rfl, HOS.out.1, HOS.out.2, HAN.out.mono (fun x hx => Nat.lt_of_lt_of_le hx.2 HAU.out), HBW.out⟩
      case rest =>
        obtain ⟨a8, n8, c8, f8, b8, rfl, rfl, ho, hs, hat, hb⟩ := hcut
        generalize wc = w18 at *
        obtain ⟨⟨eR, ef⟩, eb⟩ := tbOut_same ho HO3.out
        subst eR eb
        have H8 : Hid (IntsAt (fun x => x < w18.heap.size) w18 a8 n8 f3) := hat.congr ef
        replace HP : Hid (St (fun x => x < w.heap.size) (fun W => KAt 3 (fun x => x < w.heap.size) W ap np F) w18) := HP.out.blw hb
        replace HG0 : Hid (St (fun x => x < w.heap.size + 1) (ArgG w.heap.size w.heap.size g0 D0) w18) := HG0.out.blw hb
        replace H3 : Hid (St (fun x => x < w4.heap.size) (fun W => IntsAt (fun x => x < w4.heap.size) W a3 n8 f3) w18) := H3.out.blw hb
        replace H4P : Hid (St (fun x => w4.heap.size ≤ x ∧ x < w5.heap.size) (fun W => KOwn 3 (fun x => w4.heap.size ≤ x ∧ x < w5.heap.size) W (some ⟨w4.heap.size, 0, none⟩) np (mkK 3 (1))) w18) := H4P.out.blw hb
        replace H4G0 : Hid (St (fun x => w5.heap.size ≤ x ∧ x < w6.heap.size + 1) (BBG (fun x => w5.heap.size ≤ x ∧ x < w6.heap.size + 1) w6.heap.size v40 D0 (D0.marked (1 + 3 * (np : Int)))) w18) := H4G0.out.blw hb
        replace H5 : Hid (St (fun x => w6.heap.size + 1 ≤ x ∧ x < w8.heap.size) (fun W => IntsOwn (fun x => w6.heap.size + 1 ≤ x ∧ x < w8.heap.size) W a5 n8 (fun i => 1 + (i : Int))) w18) := H5.out.blw hb
        replace HB : Hid (Blw w w18) := HB.out.trans hb
        clear hb hat ho ef hs
        go_wp2_with fail
        refine (eqIntS_blw _ _ _ _ n8 f3 _ H8.out H3.out.out).mono ?_
        rintro e w19 ⟨rfl, hb⟩
        replace HP : Hid (St (fun x => x < w.heap.size) (fun W => KAt 3 (fun x => x < w.heap.size) W ap np F) w19) := HP.out.blw hb
        replace HG0 : Hid (St (fun x => x < w.heap.size + 1) (ArgG w.heap.size w.heap.size g0 D0) w19) := HG0.out.blw hb
        replace H3 : Hid (St (fun x => x < w4.heap.size) (fun W => IntsAt (fun x => x < w4.heap.size) W a3 n8 f3) w19) := H3.out.blw hb
        replace H4P : Hid (St (fun x => w4.heap.size ≤ x ∧ x < w5.heap.size) (fun W => KOwn 3 (fun x => w4.heap.size ≤ x ∧ x < w5.heap.size) W (some ⟨w4.heap.size, 0, none⟩) np (mkK 3 (1))) w19) := H4P.out.blw hb
        replace H4G0 : Hid (St (fun x => w5.heap.size ≤ x ∧ x < w6.heap.size + 1) (BBG (fun x => w5.heap.size ≤ x ∧ x < w6.heap.size + 1) w6.heap.size v40 D0 (D0.marked (1 + 3 * (np : Int)))) w19) := H4G0.out.blw hb
        replace H5 : Hid (St (fun x => w6.heap.size + 1 ≤ x ∧ x < w8.heap.size) (fun W => IntsOwn (fun x => w6.heap.size + 1 ≤ x ∧ x < w8.heap.size) W a5 n8 (fun i => 1 + (i : Int))) w19) := H5.out.blw hb
        replace HB : Hid (Blw w w19) := HB.out.trans hb
        clear hb H8
        go_wp2_with fail
        refine (heldIntS_any a5 c5 n8 _ 1 _ (by omega) (by omega) H5.out.out.at).mono ?_
        rintro e w20 ⟨rfl, hb⟩
        replace HP : Hid (St (fun x => x < w.heap.size) (fun W => KAt 3 (fun x => x < w.heap.size) W ap np F) w20) := HP.out.blw hb
        replace HG0 : Hid (St (fun x => x < w.heap.size + 1) (ArgG w.heap.size w.heap.size g0 D0) w20) := HG0.out.blw hb
        replace H3 : Hid (St (fun x => x < w4.heap.size) (fun W => IntsAt (fun x => x < w4.heap.size) W a3 n8 f3) w20) := H3.out.blw hb
        replace H4P : Hid (St (fun x => w4.heap.size ≤ x ∧ x < w5.heap.size) (fun W => KOwn 3 (fun x => w4.heap.size ≤ x ∧ x < w5.heap.size) W (some ⟨w4.heap.size, 0, none⟩) np (mkK 3 (1))) w20) := H4P.out.blw hb
        replace H4G0 : Hid (St (fun x => w5.heap.size ≤ x ∧ x < w6.heap.size + 1) (BBG (fun x => w5.heap.size ≤ x ∧ x < w6.heap.size + 1) w6.heap.size v40 D0 (D0.marked (1 + 3 * (np : Int)))) w20) := H4G0.out.blw hb
        replace H5 : Hid (St (fun x => w6.heap.size + 1 ≤ x ∧ x < w8.heap.size) (fun W => IntsOwn (fun x => w6.heap.size + 1 ≤ x ∧ x < w8.heap.size) W a5 n8 (fun i => 1 + (i : Int))) w20) := H5.out.blw hb
        replace HB : Hid (Blw w w20) := HB.out.trans hb
        clear hb
        go_wp2
        go_ret
        exact ⟨rfl, HB.out⟩
end Go.Proofs.Ytbpdopcdhnemfaa
