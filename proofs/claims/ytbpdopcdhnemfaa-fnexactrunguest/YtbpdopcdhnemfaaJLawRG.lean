/- The law on RunGuest. -/
import Derived.Test.YtbpdopcdhnemfaaJoin11
namespace Go.Proofs.Ytbpdopcdhnemfaa
open Go.RowKit
set_option linter.unusedSimpArgs false
set_option linter.unusedVariables false
set_option maxRecDepth 10000 in
set_option maxHeartbeats 6400000 in
theorem lawRG (ap : Option Addr) (np cp : Nat) (F : Nat → Nat → Int) (g0 : GV) (D0 : GD) (k : Int) (w : World) (hp : KAt 3 (fun x => x < w.heap.size) w ap np F) (hg0 : GAt (fun x => x < w.heap.size) w g0 D0) : Calls Try.prog 12 #[.slice ap np cp, g0.val D0, .int .i64 k] w fun e w' => e = .returned (.bool true) ∧ Blw w w' := by
  have HB : Hid (Blw w (w.alloc (.cells #[.int .i64 D0.at_, .int .i64 D0.acc, .slice g0.a1 D0.nc g0.c1, .slice g0.a2 D0.nt g0.c2, .bool D0.d] 94))) := ((Blw.refl _).alloc _)
  have hnp := hp.1
  have HP : Hid (St (fun x => x < w.heap.size) (fun W => KAt 3 (fun x => x < w.heap.size) W ap np F) (w.alloc (.cells #[.int .i64 D0.at_, .int .i64 D0.acc, .slice g0.a1 D0.nc g0.c1, .slice g0.a2 D0.nt g0.c2, .bool D0.d] 94))) := KAt.st (hp.blw HB.out) (fun x hx => Nat.lt_of_lt_of_le hx HB.out.size)
  clear hp
  have HG0 : Hid (St (fun x => x < w.heap.size + 1) (ArgG w.heap.size w.heap.size g0 D0) (w.alloc (.cells #[.int .i64 D0.at_, .int .i64 D0.acc, .slice g0.a1 D0.nc g0.c1, .slice g0.a2 D0.nt g0.c2, .bool D0.d] 94))) := ArgG.st ⟨hg0.blw HB.out, row5 w (.int .i64 D0.at_) (.int .i64 D0.acc) (.slice g0.a1 D0.nc g0.c1) (.slice g0.a2 D0.nt g0.c2) (.bool D0.d) 94⟩ (by omega) (by omega) (by (try simp only [World.size_alloc]); omega)
  clear hg0
  go_enter Try.func12, Try.ntmps12
  go_wp2_with fail
  generalize w.alloc (.cells #[.int .i64 D0.at_, .int .i64 D0.acc, .slice g0.a1 D0.nc g0.c1, .slice g0.a2 D0.nt g0.c2, .bool D0.d] 94) = w1 at *
  refine (szInsS_any ap cp np 1048576 _ hnp (by omega) (by omega)).mono ?_
  rintro e w2 ⟨r1, rfl, hr, hb⟩
  replace HP : Hid (St (fun x => x < w.heap.size) (fun W => KAt 3 (fun x => x < w.heap.size) W ap np F) w2) := HP.out.blw hb
  replace HG0 : Hid (St (fun x => x < w.heap.size + 1) (ArgG w.heap.size w.heap.size g0 D0) w2) := HG0.out.blw hb
  replace HB : Hid (Blw w w2) := HB.out.trans hb
  clear hb
  rcases hr with rfl | ⟨q0, q1⟩
  · go_wp2
    go_ret
    exact ⟨rfl, HB.out⟩
  have hr0 : ¬ r1 < 0 := by omega
  have hnp2 : np ≤ 1048576 := by omega
  obtain ⟨p00, p01, p02, p03, p04⟩ := get5 HG0.out.out.box
  go_wp2_with fail
  clear p00 p01 p02 p03 p04
  refine (szGuest_any g0 D0 _ r1 _ (by omega) (by omega) HG0.out.out.at_).mono ?_
  rintro e w3 ⟨s0, rfl, hr, hb⟩
  clear hr0
  replace HP : Hid (St (fun x => x < w.heap.size) (fun W => KAt 3 (fun x => x < w.heap.size) W ap np F) w3) := HP.out.blw hb
  replace HG0 : Hid (St (fun x => x < w.heap.size + 1) (ArgG w.heap.size w.heap.size g0 D0) w3) := HG0.out.blw hb
  replace HB : Hid (Blw w w3) := HB.out.trans hb
  clear hb
  rcases hr with rfl | ⟨u0, u1⟩
  · go_wp2
    go_ret
    exact ⟨rfl, HB.out⟩
  have hr0 : ¬ s0 < 0 := by omega
  have SM0 : Hid (D0.small) := by show D0.small; unfold GD.small; omega
  have hsl0 : s0 ≤ 1048576 := by omega
  clear u1
  have HD : Hid True := trivial
  go_upto_region 8 with fail
  go_cut [8, 9, 10] from 8 to 41 (fun c0 c1 c2 wx => DrGn w3 (rgOut np F D0 k) c0 c1 c2 wx)
  case first =>
    have HBW : Hid (Blw w3 w3.drew) := (Blw.refl _).drew
    refine wp_region_noPanic ?_
    refine wp_region_held_drew (S := fun w' => w'.cell? ⟨w.heap.size, 0, none⟩ = some (.int .i64 D0.at_) ∧ w'.cell? ⟨w.heap.size, 1, none⟩ = some (.int .i64 D0.acc) ∧ w'.cell? ⟨w.heap.size, 2, none⟩ = some (.slice g0.a1 D0.nc g0.c1) ∧ w'.cell? ⟨w.heap.size, 3, none⟩ = some (.slice g0.a2 D0.nt g0.c2) ∧ w'.cell? ⟨w.heap.size, 4, none⟩ = some (.bool D0.d)) (by kernel_rfl) ⟨(get5 (HG0.out.blw HBW.out).out.box).1, (get5 (HG0.out.blw HBW.out).out.box).2.1, (get5 (HG0.out.blw HBW.out).out.box).2.2.1, (get5 (HG0.out.blw HBW.out).out.box).2.2.2.1, (get5 (HG0.out.blw HBW.out).out.box).2.2.2.2⟩ (fun hB => ?_)
    clear hB
    generalize w3.drew = wd at *
    refine wpAnyH_take (i := 0) (oi := { dst := some 33, op := Op.move (Operand.tmp 0), type := 89, pos := _, after := #[], guard := none }) (v := (.slice ap np cp)) rfl (by kernel_rfl) (by kernel_rfl) (by kernel_rfl) (fun _ _ _ h => h) (Or.inl ⟨by rfl, fun w' hS => by (try dsimp only at hS); go_simp⟩) ⟨(get5 (HG0.out.blw HBW.out).out.box).1, (get5 (HG0.out.blw HBW.out).out.box).2.1, (get5 (HG0.out.blw HBW.out).out.box).2.2.1, (get5 (HG0.out.blw HBW.out).out.box).2.2.2.1, (get5 (HG0.out.blw HBW.out).out.box).2.2.2.2⟩ ?_
    simp only [Act.put, List.setIfInBounds_toArray, List.set_cons_zero, List.set_cons_succ]
    refine wpAnyH_take (i := 2) (oi := { dst := some 35, op := Op.load 94 (Operand.tmp 4), type := 94, pos := _, after := #[], guard := none }) (v := (GV.val g0 D0)) rfl (by kernel_rfl) (by kernel_rfl) (by kernel_rfl) (fun _ _ _ h => h) (Or.inl ⟨by rfl, fun w' hS => by (try dsimp only at hS); go_simp⟩) ⟨(get5 (HG0.out.blw HBW.out).out.box).1, (get5 (HG0.out.blw HBW.out).out.box).2.1, (get5 (HG0.out.blw HBW.out).out.box).2.2.1, (get5 (HG0.out.blw HBW.out).out.box).2.2.2.1, (get5 (HG0.out.blw HBW.out).out.box).2.2.2.2⟩ ?_
    simp only [Act.put, List.setIfInBounds_toArray, List.set_cons_zero, List.set_cons_succ]
    refine wpAnyH_take (i := 4) (oi := { dst := some 37, op := Op.move (Operand.tmp 2), type := 3, pos := _, after := #[], guard := none }) (v := (.int .i64 k)) rfl (by kernel_rfl) (by kernel_rfl) (by kernel_rfl) (fun _ _ _ h => h) (Or.inl ⟨by rfl, fun w' hS => by (try dsimp only at hS); go_simp⟩) ⟨(get5 (HG0.out.blw HBW.out).out.box).1, (get5 (HG0.out.blw HBW.out).out.box).2.1, (get5 (HG0.out.blw HBW.out).out.box).2.2.1, (get5 (HG0.out.blw HBW.out).out.box).2.2.2.1, (get5 (HG0.out.blw HBW.out).out.box).2.2.2.2⟩ ?_
    simp only [Act.put, List.setIfInBounds_toArray, List.set_cons_zero, List.set_cons_succ]
    refine wpAnyH_ready (rs := [1, 10]) (by kernel_rfl) (by simp) ?_
    refine AllReadyH.cons (o := { dst := some 34, op := Op.call { callee := Callee.value (Operand.func 69), args := #[Operand.tmp 33], argTypes := #[89] }, type := 59, pos := _, after := #[{ on := 0, ground := Ground.data }], guard := none }) rfl (fun K hK => ?_) (AllReadyH.cons (o := { dst := some 8, op := Op.alloc 61, type := 0, pos := _, after := #[], guard := none }) rfl (fun K hK => ?_) AllReadyH.nil)
    · go_simp
      refine (toInsS_any ap cp np F _ _ hnp2 (HP.out.blw HBW.out).out).mono ?_
      rintro e x1 ⟨rfl, row, hb⟩
      have hlt := row.lt
      have HN_ : Hid (KAt 3 (fun x => x < x1.heap.size) x1 (some ⟨wd.heap.size, 0, none⟩) np F) := (kown3 row (by omega) (X := fun x => x < x1.heap.size) hlt).at
      clear row hlt
      replace HBW : Hid (Blw w3 x1) := HBW.out.trans hb
      have HC0 := HN_
      clear HN_ hb
      refine hK.out _ _ ⟨(get5 (HG0.out.blw HBW.out).out.box).1, (get5 (HG0.out.blw HBW.out).out.box).2.1, (get5 (HG0.out.blw HBW.out).out.box).2.2.1, (get5 (HG0.out.blw HBW.out).out.box).2.2.2.1, (get5 (HG0.out.blw HBW.out).out.box).2.2.2.2⟩ (fun hB => ?_)
      clear hK K hB
      try simp only [Act.put, List.setIfInBounds_toArray, List.set_cons_zero, List.set_cons_succ]
      refine wpAnyH_ready (rs := [3, 10]) (by kernel_rfl) (by simp) ?_
      refine AllReadyH.cons (o := { dst := some 36, op := Op.call { callee := Callee.value (Operand.func 72), args := #[Operand.tmp 35], argTypes := #[94] }, type := 61, pos := _, after := #[{ on := 2, ground := Ground.data }, { on := 1, ground := Ground.chain }], guard := none }) rfl (fun K hK => ?_) (AllReadyH.cons (o := { dst := some 8, op := Op.alloc 61, type := 0, pos := _, after := #[], guard := none }) rfl (fun K hK => ?_) AllReadyH.nil)
      · go_simp
        refine (toGuest_any g0 D0 _ _ SM0.out (HG0.out.blw HBW.out).out.at_).mono ?_
        rintro e x2 ⟨y1, rfl, own, hb⟩
        have HN_ : Hid (GAt (fun x => x < x2.heap.size) x2 y1 D0) := own.at.mono (fun x hx => hx.2)
        clear own
        replace HBW : Hid (Blw w3 x2) := HBW.out.trans hb
        replace HC0 : Hid (KAt 3 (fun x => x < x2.heap.size) x2 (some ⟨wd.heap.size, 0, none⟩) np F) := (HC0.out.blw hb).mono (fun x hx => Nat.lt_of_lt_of_le hx hb.size)
        have HC1 := HN_
        clear HN_ hb
        refine hK.out _ _ ⟨(get5 (HG0.out.blw HBW.out).out.box).1, (get5 (HG0.out.blw HBW.out).out.box).2.1, (get5 (HG0.out.blw HBW.out).out.box).2.2.1, (get5 (HG0.out.blw HBW.out).out.box).2.2.2.1, (get5 (HG0.out.blw HBW.out).out.box).2.2.2.2⟩ (fun hB => ?_)
        clear hK K hB
        try simp only [Act.put, List.setIfInBounds_toArray, List.set_cons_zero, List.set_cons_succ]
        refine wpAnyH_ready (rs := [5, 10]) (by kernel_rfl) (by simp) ?_
        refine AllReadyH.cons (o := { dst := some 38, op := Op.call { callee := Callee.value (Operand.func 39), args := #[Operand.tmp 34, Operand.tmp 36, Operand.tmp 37], argTypes := #[59, 61, 3] }, type := 64, pos := _, after := #[{ on := 1, ground := Ground.data }, { on := 3, ground := Ground.data }, { on := 4, ground := Ground.data }, { on := 3, ground := Ground.chain }], guard := none }) rfl (fun K hK => ?_) (AllReadyH.cons (o := { dst := some 8, op := Op.alloc 61, type := 0, pos := _, after := #[], guard := none }) rfl (fun K hK => ?_) AllReadyH.nil)
        · go_simp
          refine (specRun_any _ _ np F y1 D0 k _ _ _ HC0.out HC1.out).mono ?_
          rintro e x3 ⟨va, Ra, xa, ba, rfl, ho, hs, own, hb⟩
          replace HBW : Hid (Blw w3 x3) := HBW.out.trans hb
          replace HC0 : Hid (KAt 3 (fun x => x < x3.heap.size) x3 (some ⟨wd.heap.size, 0, none⟩) np F) := (HC0.out.blw hb).mono (fun x hx => Nat.lt_of_lt_of_le hx hb.size)
          replace HC1 : Hid (GAt (fun x => x < x3.heap.size) x3 y1 D0) := (HC1.out.blw hb).mono (fun x hx => Nat.lt_of_lt_of_le hx hb.size)
          have HAN : Hid (GAt (fun x => x2.heap.size ≤ x ∧ x < x3.heap.size) x3 va Ra) := own.at
          have HOS : Hid (rgOut np F D0 k Ra xa ba ∧ Ra.small) := ⟨ho, hs⟩
          have HAU : Hid (x3.heap.size ≤ x3.heap.size) := Nat.le_refl _
          clear ho hb hs own
          refine hK.out _ _ ⟨(get5 (HG0.out.blw HBW.out).out.box).1, (get5 (HG0.out.blw HBW.out).out.box).2.1, (get5 (HG0.out.blw HBW.out).out.box).2.2.1, (get5 (HG0.out.blw HBW.out).out.box).2.2.2.1, (get5 (HG0.out.blw HBW.out).out.box).2.2.2.2⟩ (fun hB => ?_)
          clear hK K hB
          try simp only [Act.put, List.setIfInBounds_toArray, List.set_cons_zero, List.set_cons_succ]
          refine wpAnyH_take (i := 6) (oi := { dst := some 32, op := Op.move (Operand.tmp 38), type := 64, pos := _, after := #[{ on := 5, ground := Ground.data }], guard := none }) (v := (.tuple #[GV.val va Ra, .int .i64 xa, .bool ba])) rfl (by kernel_rfl) (by kernel_rfl) (by kernel_rfl) (fun _ _ _ h => h) (Or.inl ⟨by rfl, fun w' hS => by (try dsimp only at hS); go_simp⟩) ⟨(get5 (HG0.out.blw HBW.out).out.box).1, (get5 (HG0.out.blw HBW.out).out.box).2.1, (get5 (HG0.out.blw HBW.out).out.box).2.2.1, (get5 (HG0.out.blw HBW.out).out.box).2.2.2.1, (get5 (HG0.out.blw HBW.out).out.box).2.2.2.2⟩ ?_
          simp only [Act.put, List.setIfInBounds_toArray, List.set_cons_zero, List.set_cons_succ]
          refine wpAnyH_take (i := 7) (oi := { dst := some 39, op := Op.extract (Operand.tmp 32) 0, type := 61, pos := _, after := #[{ on := 6, ground := Ground.data }], guard := none }) (v := (GV.val va Ra)) rfl (by kernel_rfl) (by kernel_rfl) (by kernel_rfl) (fun _ _ _ h => h) (Or.inl ⟨by rfl, fun w' hS => by (try dsimp only at hS); go_simp⟩) ⟨(get5 (HG0.out.blw HBW.out).out.box).1, (get5 (HG0.out.blw HBW.out).out.box).2.1, (get5 (HG0.out.blw HBW.out).out.box).2.2.1, (get5 (HG0.out.blw HBW.out).out.box).2.2.2.1, (get5 (HG0.out.blw HBW.out).out.box).2.2.2.2⟩ ?_
          simp only [Act.put, List.setIfInBounds_toArray, List.set_cons_zero, List.set_cons_succ]
          refine wpAnyH_take (i := 8) (oi := { dst := some 40, op := Op.extract (Operand.tmp 32) 1, type := 3, pos := _, after := #[{ on := 6, ground := Ground.data }, { on := 11, ground := Ground.gcOnly Departure.lateStores }], guard := none }) (v := (.int .i64 xa)) rfl (by kernel_rfl) (by kernel_rfl) (by kernel_rfl) (fun _ _ _ h => h) (Or.inl ⟨by rfl, fun w' hS => by (try dsimp only at hS); go_simp⟩) ⟨(get5 (HG0.out.blw HBW.out).out.box).1, (get5 (HG0.out.blw HBW.out).out.box).2.1, (get5 (HG0.out.blw HBW.out).out.box).2.2.1, (get5 (HG0.out.blw HBW.out).out.box).2.2.2.1, (get5 (HG0.out.blw HBW.out).out.box).2.2.2.2⟩ ?_
          simp only [Act.put, List.setIfInBounds_toArray, List.set_cons_zero, List.set_cons_succ]
          refine wpAnyH_take (i := 9) (oi := { dst := some 41, op := Op.extract (Operand.tmp 32) 2, type := 4, pos := _, after := #[{ on := 6, ground := Ground.data }, { on := 12, ground := Ground.gcOnly Departure.lateStores }], guard := none }) (v := (.bool ba)) rfl (by kernel_rfl) (by kernel_rfl) (by kernel_rfl) (fun _ _ _ h => h) (Or.inl ⟨by rfl, fun w' hS => by (try dsimp only at hS); go_simp⟩) ⟨(get5 (HG0.out.blw HBW.out).out.box).1, (get5 (HG0.out.blw HBW.out).out.box).2.1, (get5 (HG0.out.blw HBW.out).out.box).2.2.1, (get5 (HG0.out.blw HBW.out).out.box).2.2.2.1, (get5 (HG0.out.blw HBW.out).out.box).2.2.2.2⟩ ?_
          simp only [Act.put, List.setIfInBounds_toArray, List.set_cons_zero, List.set_cons_succ]
          refine wpAnyH_ready (rs := [10]) (by kernel_rfl) (by simp) ?_
          refine AllReadyH.cons (o := { dst := some 8, op := Op.alloc 61, type := 0, pos := _, after := #[], guard := none }) rfl (fun K hK => ?_) AllReadyH.nil
          go_simp
          have hb : Blw x3 (x3.alloc (.cells #[.int .i64 0, .int .i64 0, .slice none 0 0, .slice none 0 0, .bool false] 61)) := (Blw.refl _).alloc _
          have HZB : Hid (Row (x3.alloc (.cells #[.int .i64 0, .int .i64 0, .slice none 0 0, .slice none 0 0, .bool false] 61)) x3.heap.size 5 (fun i => if i = 0 then .int .i64 0 else if i = 1 then .int .i64 0 else if i = 2 then .slice none 0 0 else if i = 3 then .slice none 0 0 else .bool false)) := row5 x3 (.int .i64 0) (.int .i64 0) (.slice none 0 0) (.slice none 0 0) (.bool false) 61
          have HZ1 : Hid (x3.heap.size < (x3.alloc (.cells #[.int .i64 0, .int .i64 0, .slice none 0 0, .slice none 0 0, .bool false] 61)).heap.size) := by show _ < _; simp
          have HZL : Hid (w3.heap.size ≤ x3.heap.size) := HBW.out.size
          have HNZ : Hid (∀ x, (fun x => x2.heap.size ≤ x ∧ x < x3.heap.size) x → x ≠ x3.heap.size) := fun x hx he => by have h9 := HAU.out; have h8 := hx.2; rw [he] at h8; omega
          generalize x3.alloc (.cells #[.int .i64 0, .int .i64 0, .slice none 0 0, .slice none 0 0, .bool false] 61) = x4 at *
          replace HBW : Hid (Blw w3 x4) := HBW.out.trans hb
          replace HC0 : Hid (KAt 3 (fun x => x < x4.heap.size) x4 (some ⟨wd.heap.size, 0, none⟩) np F) := (HC0.out.blw hb).mono (fun x hx => Nat.lt_of_lt_of_le hx hb.size)
          replace HC1 : Hid (GAt (fun x => x < x4.heap.size) x4 y1 D0) := (HC1.out.blw hb).mono (fun x hx => Nat.lt_of_lt_of_le hx hb.size)
          replace HAN : Hid (GAt (fun x => x2.heap.size ≤ x ∧ x < x3.heap.size) x4 va Ra) := HAN.out.blw hb
          replace HAU : Hid (x3.heap.size ≤ x4.heap.size) := Nat.le_trans HAU.out hb.size
          clear hb
          refine hK.out _ _ ⟨(get5 (HG0.out.blw HBW.out).out.box).1, (get5 (HG0.out.blw HBW.out).out.box).2.1, (get5 (HG0.out.blw HBW.out).out.box).2.2.1, (get5 (HG0.out.blw HBW.out).out.box).2.2.2.1, (get5 (HG0.out.blw HBW.out).out.box).2.2.2.2⟩ (fun hB => ?_)
          clear hK K hB
          try simp only [Act.put, List.setIfInBounds_toArray, List.set_cons_zero, List.set_cons_succ]
          refine wpAnyH_ready (rs := [11]) (by kernel_rfl) (by simp) ?_
          refine AllReadyH.cons (o := { dst := none, op := Op.store 61 (Operand.tmp 8) (Operand.tmp 39), type := 0, pos := _, after := #[{ on := 10, ground := Ground.data }, { on := 7, ground := Ground.data }, { on := 5, ground := Ground.chain }, { on := 0, ground := Ground.phase }, { on := 1, ground := Ground.phase }, { on := 2, ground := Ground.phase }, { on := 3, ground := Ground.phase }, { on := 4, ground := Ground.phase }, { on := 5, ground := Ground.phase }, { on := 6, ground := Ground.phase }, { on := 7, ground := Ground.phase }, { on := 8, ground := Ground.textOnly Departure.lateStores }, { on := 9, ground := Ground.textOnly Departure.lateStores }, { on := 10, ground := Ground.phase }], guard := none }) rfl (fun K hK => ?_) AllReadyH.nil
          obtain ⟨t0, t1, t2, t3, t4⟩ := get5 HZB.out
          have f0 := HZB.out.frozen 0
          have f1 := HZB.out.frozen 1
          have f2 := HZB.out.frozen 2
          have f3 := HZB.out.frozen 3
          have f4 := HZB.out.frozen 4
          have m1 := set5_modG x4 x3.heap.size (.int .i64 Ra.at_) (.int .i64 Ra.acc) (.slice va.a1 Ra.nc va.c1) (.slice va.a2 Ra.nt va.c2) (.bool Ra.d) (X := fun x => x = x3.heap.size) rfl
          have m2 := m1.size
          have HFA : Hid (GAt (fun x => x < (((((x4.setCell ⟨x3.heap.size, 0, none⟩ (.int .i64 Ra.at_)).setCell ⟨x3.heap.size, 1, none⟩ (.int .i64 Ra.acc)).setCell ⟨x3.heap.size, 2, none⟩ (.slice va.a1 Ra.nc va.c1)).setCell ⟨x3.heap.size, 3, none⟩ (.slice va.a2 Ra.nt va.c2)).setCell ⟨x3.heap.size, 4, none⟩ (.bool Ra.d)).heap.size) (((((x4.setCell ⟨x3.heap.size, 0, none⟩ (.int .i64 Ra.at_)).setCell ⟨x3.heap.size, 1, none⟩ (.int .i64 Ra.acc)).setCell ⟨x3.heap.size, 2, none⟩ (.slice va.a1 Ra.nc va.c1)).setCell ⟨x3.heap.size, 3, none⟩ (.slice va.a2 Ra.nt va.c2)).setCell ⟨x3.heap.size, 4, none⟩ (.bool Ra.d)) va Ra) := (HAN.out.mod m1 (fun x hx he => HNZ.out x hx he)).mono (fun x hx => Nat.lt_of_lt_of_le (Nat.lt_of_lt_of_le hx.2 HAU.out) m2)
          have HFB : Hid (Row (((((x4.setCell ⟨x3.heap.size, 0, none⟩ (.int .i64 Ra.at_)).setCell ⟨x3.heap.size, 1, none⟩ (.int .i64 Ra.acc)).setCell ⟨x3.heap.size, 2, none⟩ (.slice va.a1 Ra.nc va.c1)).setCell ⟨x3.heap.size, 3, none⟩ (.slice va.a2 Ra.nt va.c2)).setCell ⟨x3.heap.size, 4, none⟩ (.bool Ra.d)) x3.heap.size 5 (gb va Ra)) := set5_all HZB.out _ _ _ _ _
          replace HBW : Hid (Blw w3 (((((x4.setCell ⟨x3.heap.size, 0, none⟩ (.int .i64 Ra.at_)).setCell ⟨x3.heap.size, 1, none⟩ (.int .i64 Ra.acc)).setCell ⟨x3.heap.size, 2, none⟩ (.slice va.a1 Ra.nc va.c1)).setCell ⟨x3.heap.size, 3, none⟩ (.slice va.a2 Ra.nt va.c2)).setCell ⟨x3.heap.size, 4, none⟩ (.bool Ra.d))) := Mod.blw HBW.out m1 (fun i hi => by have h9 := HZL.out; omega)
          clear m1 m2
          go_simp
          refine hK.out _ _ ⟨(get5 (HG0.out.blw HBW.out).out.box).1, (get5 (HG0.out.blw HBW.out).out.box).2.1, (get5 (HG0.out.blw HBW.out).out.box).2.2.1, (get5 (HG0.out.blw HBW.out).out.box).2.2.2.1, (get5 (HG0.out.blw HBW.out).out.box).2.2.2.2⟩ (fun hB => ?_)
          clear hK K hB
          try simp only [Act.put, List.setIfInBounds_toArray, List.set_cons_zero, List.set_cons_succ]
          clear t0 t1 t2 t3 t4 f0 f1 f2 f3 f4
          refine wpAnyH_take (i := 12) (oi := { dst := some 9, op := Op.assign (Operand.tmp 40), type := 3, pos := _, after := #[{ on := 8, ground := Ground.data }, { on := 11, ground := Ground.chain }, { on := 0, ground := Ground.phase }, { on := 1, ground := Ground.phase }, { on := 2, ground := Ground.phase }, { on := 3, ground := Ground.phase }, { on := 4, ground := Ground.phase }, { on := 5, ground := Ground.phase }, { on := 6, ground := Ground.phase }, { on := 7, ground := Ground.phase }, { on := 8, ground := Ground.phase }, { on := 9, ground := Ground.textOnly Departure.lateStores }, { on := 10, ground := Ground.phase }, { on := 11, ground := Ground.phase }], guard := none }) (v := (.int .i64 xa)) rfl (by kernel_rfl) (by kernel_rfl) (by kernel_rfl) (fun _ _ _ h => h) (Or.inl ⟨by rfl, fun w' hS => by (try dsimp only at hS); go_simp⟩) ⟨(get5 (HG0.out.blw HBW.out).out.box).1, (get5 (HG0.out.blw HBW.out).out.box).2.1, (get5 (HG0.out.blw HBW.out).out.box).2.2.1, (get5 (HG0.out.blw HBW.out).out.box).2.2.2.1, (get5 (HG0.out.blw HBW.out).out.box).2.2.2.2⟩ ?_
          simp only [Act.put, List.setIfInBounds_toArray, List.set_cons_zero, List.set_cons_succ]
          refine wpAnyH_take (i := 13) (oi := { dst := some 10, op := Op.assign (Operand.tmp 41), type := 4, pos := _, after := #[{ on := 9, ground := Ground.data }, { on := 12, ground := Ground.chain }, { on := 0, ground := Ground.phase }, { on := 1, ground := Ground.phase }, { on := 2, ground := Ground.phase }, { on := 3, ground := Ground.phase }, { on := 4, ground := Ground.phase }, { on := 5, ground := Ground.phase }, { on := 6, ground := Ground.phase }, { on := 7, ground := Ground.phase }, { on := 8, ground := Ground.phase }, { on := 9, ground := Ground.phase }, { on := 10, ground := Ground.phase }, { on := 11, ground := Ground.phase }, { on := 12, ground := Ground.phase }], guard := none }) (v := (.bool ba)) rfl (by kernel_rfl) (by kernel_rfl) (by kernel_rfl) (fun _ _ _ h => h) (Or.inl ⟨by rfl, fun w' hS => by (try dsimp only at hS); go_simp⟩) ⟨(get5 (HG0.out.blw HBW.out).out.box).1, (get5 (HG0.out.blw HBW.out).out.box).2.1, (get5 (HG0.out.blw HBW.out).out.box).2.2.1, (get5 (HG0.out.blw HBW.out).out.box).2.2.2.1, (get5 (HG0.out.blw HBW.out).out.box).2.2.2.2⟩ ?_
          simp only [Act.put, List.setIfInBounds_toArray, List.set_cons_zero, List.set_cons_succ]
          refine wpAnyH_done (by kernel_rfl) ?_ _
          refine NoPanic.normal ?_
          go_wp2_with fail
          go_meet
          exact ⟨va, Ra, xa, ba, _, rfl, rfl, rfl, HOS.out.1, HOS.out.2, HFA.out, HFB.out, HBW.out⟩
        · go_simp
          have hb : Blw x2 (x2.alloc (.cells #[.int .i64 0, .int .i64 0, .slice none 0 0, .slice none 0 0, .bool false] 61)) := (Blw.refl _).alloc _
          have HZB : Hid (Row (x2.alloc (.cells #[.int .i64 0, .int .i64 0, .slice none 0 0, .slice none 0 0, .bool false] 61)) x2.heap.size 5 (fun i => if i = 0 then .int .i64 0 else if i = 1 then .int .i64 0 else if i = 2 then .slice none 0 0 else if i = 3 then .slice none 0 0 else .bool false)) := row5 x2 (.int .i64 0) (.int .i64 0) (.slice none 0 0) (.slice none 0 0) (.bool false) 61
          have HZ1 : Hid (x2.heap.size < (x2.alloc (.cells #[.int .i64 0, .int .i64 0, .slice none 0 0, .slice none 0 0, .bool false] 61)).heap.size) := by show _ < _; simp
          have HZL : Hid (w3.heap.size ≤ x2.heap.size) := HBW.out.size
          generalize x2.alloc (.cells #[.int .i64 0, .int .i64 0, .slice none 0 0, .slice none 0 0, .bool false] 61) = x3 at *
          replace HBW : Hid (Blw w3 x3) := HBW.out.trans hb
          replace HC0 : Hid (KAt 3 (fun x => x < x3.heap.size) x3 (some ⟨wd.heap.size, 0, none⟩) np F) := (HC0.out.blw hb).mono (fun x hx => Nat.lt_of_lt_of_le hx hb.size)
          replace HC1 : Hid (GAt (fun x => x < x3.heap.size) x3 y1 D0) := (HC1.out.blw hb).mono (fun x hx => Nat.lt_of_lt_of_le hx hb.size)
          clear hb
          refine hK.out _ _ ⟨(get5 (HG0.out.blw HBW.out).out.box).1, (get5 (HG0.out.blw HBW.out).out.box).2.1, (get5 (HG0.out.blw HBW.out).out.box).2.2.1, (get5 (HG0.out.blw HBW.out).out.box).2.2.2.1, (get5 (HG0.out.blw HBW.out).out.box).2.2.2.2⟩ (fun hB => ?_)
          clear hK K hB
          try simp only [Act.put, List.setIfInBounds_toArray, List.set_cons_zero, List.set_cons_succ]
          refine wpAnyH_ready (rs := [5]) (by kernel_rfl) (by simp) ?_
          refine AllReadyH.cons (o := { dst := some 38, op := Op.call { callee := Callee.value (Operand.func 39), args := #[Operand.tmp 34, Operand.tmp 36, Operand.tmp 37], argTypes := #[59, 61, 3] }, type := 64, pos := _, after := #[{ on := 1, ground := Ground.data }, { on := 3, ground := Ground.data }, { on := 4, ground := Ground.data }, { on := 3, ground := Ground.chain }], guard := none }) rfl (fun K hK => ?_) AllReadyH.nil
          go_simp
          have HZ9 : Hid (x2.heap.size < x3.heap.size) := HZ1.out
          refine (specRun_any _ _ np F y1 D0 k _ _ _ HC0.out HC1.out).mono ?_
          rintro e x4 ⟨va, Ra, xa, ba, rfl, ho, hs, own, hb⟩
          replace HBW : Hid (Blw w3 x4) := HBW.out.trans hb
          replace HC0 : Hid (KAt 3 (fun x => x < x4.heap.size) x4 (some ⟨wd.heap.size, 0, none⟩) np F) := (HC0.out.blw hb).mono (fun x hx => Nat.lt_of_lt_of_le hx hb.size)
          replace HC1 : Hid (GAt (fun x => x < x4.heap.size) x4 y1 D0) := (HC1.out.blw hb).mono (fun x hx => Nat.lt_of_lt_of_le hx hb.size)
          replace HZB : Hid (Row x4 x2.heap.size 5 (fun i => if i = 0 then .int .i64 0 else if i = 1 then .int .i64 0 else if i = 2 then .slice none 0 0 else if i = 3 then .slice none 0 0 else .bool false)) := HZB.out.blw hb
          replace HZ1 : Hid (x2.heap.size < x4.heap.size) := Nat.lt_of_lt_of_le HZ1.out hb.size
          have HAN : Hid (GAt (fun x => x3.heap.size ≤ x ∧ x < x4.heap.size) x4 va Ra) := own.at
          have HOS : Hid (rgOut np F D0 k Ra xa ba ∧ Ra.small) := ⟨ho, hs⟩
          have HAU : Hid (x4.heap.size ≤ x4.heap.size) := Nat.le_refl _
          have HNZ : Hid (∀ x, (fun x => x3.heap.size ≤ x ∧ x < x4.heap.size) x → x ≠ x2.heap.size) := fun x hx he => by have h9 := HZ9.out; have h8 := hx.1; rw [he] at h8; omega
          clear ho hb hs own
          refine hK.out _ _ ⟨(get5 (HG0.out.blw HBW.out).out.box).1, (get5 (HG0.out.blw HBW.out).out.box).2.1, (get5 (HG0.out.blw HBW.out).out.box).2.2.1, (get5 (HG0.out.blw HBW.out).out.box).2.2.2.1, (get5 (HG0.out.blw HBW.out).out.box).2.2.2.2⟩ (fun hB => ?_)
          clear hK K hB
          try simp only [Act.put, List.setIfInBounds_toArray, List.set_cons_zero, List.set_cons_succ]
          refine wpAnyH_take (i := 6) (oi := { dst := some 32, op := Op.move (Operand.tmp 38), type := 64, pos := _, after := #[{ on := 5, ground := Ground.data }], guard := none }) (v := (.tuple #[GV.val va Ra, .int .i64 xa, .bool ba])) rfl (by kernel_rfl) (by kernel_rfl) (by kernel_rfl) (fun _ _ _ h => h) (Or.inl ⟨by rfl, fun w' hS => by (try dsimp only at hS); go_simp⟩) ⟨(get5 (HG0.out.blw HBW.out).out.box).1, (get5 (HG0.out.blw HBW.out).out.box).2.1, (get5 (HG0.out.blw HBW.out).out.box).2.2.1, (get5 (HG0.out.blw HBW.out).out.box).2.2.2.1, (get5 (HG0.out.blw HBW.out).out.box).2.2.2.2⟩ ?_
          simp only [Act.put, List.setIfInBounds_toArray, List.set_cons_zero, List.set_cons_succ]
          refine wpAnyH_take (i := 7) (oi := { dst := some 39, op := Op.extract (Operand.tmp 32) 0, type := 61, pos := _, after := #[{ on := 6, ground := Ground.data }], guard := none }) (v := (GV.val va Ra)) rfl (by kernel_rfl) (by kernel_rfl) (by kernel_rfl) (fun _ _ _ h => h) (Or.inl ⟨by rfl, fun w' hS => by (try dsimp only at hS); go_simp⟩) ⟨(get5 (HG0.out.blw HBW.out).out.box).1, (get5 (HG0.out.blw HBW.out).out.box).2.1, (get5 (HG0.out.blw HBW.out).out.box).2.2.1, (get5 (HG0.out.blw HBW.out).out.box).2.2.2.1, (get5 (HG0.out.blw HBW.out).out.box).2.2.2.2⟩ ?_
          simp only [Act.put, List.setIfInBounds_toArray, List.set_cons_zero, List.set_cons_succ]
          refine wpAnyH_take (i := 8) (oi := { dst := some 40, op := Op.extract (Operand.tmp 32) 1, type := 3, pos := _, after := #[{ on := 6, ground := Ground.data }, { on := 11, ground := Ground.gcOnly Departure.lateStores }], guard := none }) (v := (.int .i64 xa)) rfl (by kernel_rfl) (by kernel_rfl) (by kernel_rfl) (fun _ _ _ h => h) (Or.inl ⟨by rfl, fun w' hS => by (try dsimp only at hS); go_simp⟩) ⟨(get5 (HG0.out.blw HBW.out).out.box).1, (get5 (HG0.out.blw HBW.out).out.box).2.1, (get5 (HG0.out.blw HBW.out).out.box).2.2.1, (get5 (HG0.out.blw HBW.out).out.box).2.2.2.1, (get5 (HG0.out.blw HBW.out).out.box).2.2.2.2⟩ ?_
          simp only [Act.put, List.setIfInBounds_toArray, List.set_cons_zero, List.set_cons_succ]
          refine wpAnyH_take (i := 9) (oi := { dst := some 41, op := Op.extract (Operand.tmp 32) 2, type := 4, pos := _, after := #[{ on := 6, ground := Ground.data }, { on := 12, ground := Ground.gcOnly Departure.lateStores }], guard := none }) (v := (.bool ba)) rfl (by kernel_rfl) (by kernel_rfl) (by kernel_rfl) (fun _ _ _ h => h) (Or.inl ⟨by rfl, fun w' hS => by (try dsimp only at hS); go_simp⟩) ⟨(get5 (HG0.out.blw HBW.out).out.box).1, (get5 (HG0.out.blw HBW.out).out.box).2.1, (get5 (HG0.out.blw HBW.out).out.box).2.2.1, (get5 (HG0.out.blw HBW.out).out.box).2.2.2.1, (get5 (HG0.out.blw HBW.out).out.box).2.2.2.2⟩ ?_
          simp only [Act.put, List.setIfInBounds_toArray, List.set_cons_zero, List.set_cons_succ]
          refine wpAnyH_ready (rs := [11]) (by kernel_rfl) (by simp) ?_
          refine AllReadyH.cons (o := { dst := none, op := Op.store 61 (Operand.tmp 8) (Operand.tmp 39), type := 0, pos := _, after := #[{ on := 10, ground := Ground.data }, { on := 7, ground := Ground.data }, { on := 5, ground := Ground.chain }, { on := 0, ground := Ground.phase }, { on := 1, ground := Ground.phase }, { on := 2, ground := Ground.phase }, { on := 3, ground := Ground.phase }, { on := 4, ground := Ground.phase }, { on := 5, ground := Ground.phase }, { on := 6, ground := Ground.phase }, { on := 7, ground := Ground.phase }, { on := 8, ground := Ground.textOnly Departure.lateStores }, { on := 9, ground := Ground.textOnly Departure.lateStores }, { on := 10, ground := Ground.phase }], guard := none }) rfl (fun K hK => ?_) AllReadyH.nil
          obtain ⟨t0, t1, t2, t3, t4⟩ := get5 HZB.out
          have f0 := HZB.out.frozen 0
          have f1 := HZB.out.frozen 1
          have f2 := HZB.out.frozen 2
          have f3 := HZB.out.frozen 3
          have f4 := HZB.out.frozen 4
          have m1 := set5_modG x4 x2.heap.size (.int .i64 Ra.at_) (.int .i64 Ra.acc) (.slice va.a1 Ra.nc va.c1) (.slice va.a2 Ra.nt va.c2) (.bool Ra.d) (X := fun x => x = x2.heap.size) rfl
          have m2 := m1.size
          have HFA : Hid (GAt (fun x => x < (((((x4.setCell ⟨x2.heap.size, 0, none⟩ (.int .i64 Ra.at_)).setCell ⟨x2.heap.size, 1, none⟩ (.int .i64 Ra.acc)).setCell ⟨x2.heap.size, 2, none⟩ (.slice va.a1 Ra.nc va.c1)).setCell ⟨x2.heap.size, 3, none⟩ (.slice va.a2 Ra.nt va.c2)).setCell ⟨x2.heap.size, 4, none⟩ (.bool Ra.d)).heap.size) (((((x4.setCell ⟨x2.heap.size, 0, none⟩ (.int .i64 Ra.at_)).setCell ⟨x2.heap.size, 1, none⟩ (.int .i64 Ra.acc)).setCell ⟨x2.heap.size, 2, none⟩ (.slice va.a1 Ra.nc va.c1)).setCell ⟨x2.heap.size, 3, none⟩ (.slice va.a2 Ra.nt va.c2)).setCell ⟨x2.heap.size, 4, none⟩ (.bool Ra.d)) va Ra) := (HAN.out.mod m1 (fun x hx he => HNZ.out x hx he)).mono (fun x hx => Nat.lt_of_lt_of_le (Nat.lt_of_lt_of_le hx.2 HAU.out) m2)
          have HFB : Hid (Row (((((x4.setCell ⟨x2.heap.size, 0, none⟩ (.int .i64 Ra.at_)).setCell ⟨x2.heap.size, 1, none⟩ (.int .i64 Ra.acc)).setCell ⟨x2.heap.size, 2, none⟩ (.slice va.a1 Ra.nc va.c1)).setCell ⟨x2.heap.size, 3, none⟩ (.slice va.a2 Ra.nt va.c2)).setCell ⟨x2.heap.size, 4, none⟩ (.bool Ra.d)) x2.heap.size 5 (gb va Ra)) := set5_all HZB.out _ _ _ _ _
          replace HBW : Hid (Blw w3 (((((x4.setCell ⟨x2.heap.size, 0, none⟩ (.int .i64 Ra.at_)).setCell ⟨x2.heap.size, 1, none⟩ (.int .i64 Ra.acc)).setCell ⟨x2.heap.size, 2, none⟩ (.slice va.a1 Ra.nc va.c1)).setCell ⟨x2.heap.size, 3, none⟩ (.slice va.a2 Ra.nt va.c2)).setCell ⟨x2.heap.size, 4, none⟩ (.bool Ra.d))) := Mod.blw HBW.out m1 (fun i hi => by have h9 := HZL.out; omega)
          clear m1 m2
          go_simp
          refine hK.out _ _ ⟨(get5 (HG0.out.blw HBW.out).out.box).1, (get5 (HG0.out.blw HBW.out).out.box).2.1, (get5 (HG0.out.blw HBW.out).out.box).2.2.1, (get5 (HG0.out.blw HBW.out).out.box).2.2.2.1, (get5 (HG0.out.blw HBW.out).out.box).2.2.2.2⟩ (fun hB => ?_)
          clear hK K hB
          try simp only [Act.put, List.setIfInBounds_toArray, List.set_cons_zero, List.set_cons_succ]
          clear t0 t1 t2 t3 t4 f0 f1 f2 f3 f4
          refine wpAnyH_take (i := 12) (oi := { dst := some 9, op := Op.assign (Operand.tmp 40), type := 3, pos := _, after := #[{ on := 8, ground := Ground.data }, { on := 11, ground := Ground.chain }, { on := 0, ground := Ground.phase }, { on := 1, ground := Ground.phase }, { on := 2, ground := Ground.phase }, { on := 3, ground := Ground.phase }, { on := 4, ground := Ground.phase }, { on := 5, ground := Ground.phase }, { on := 6, ground := Ground.phase }, { on := 7, ground := Ground.phase }, { on := 8, ground := Ground.phase }, { on := 9, ground := Ground.textOnly Departure.lateStores }, { on := 10, ground := Ground.phase }, { on := 11, ground := Ground.phase }], guard := none }) (v := (.int .i64 xa)) rfl (by kernel_rfl) (by kernel_rfl) (by kernel_rfl) (fun _ _ _ h => h) (Or.inl ⟨by rfl, fun w' hS => by (try dsimp only at hS); go_simp⟩) ⟨(get5 (HG0.out.blw HBW.out).out.box).1, (get5 (HG0.out.blw HBW.out).out.box).2.1, (get5 (HG0.out.blw HBW.out).out.box).2.2.1, (get5 (HG0.out.blw HBW.out).out.box).2.2.2.1, (get5 (HG0.out.blw HBW.out).out.box).2.2.2.2⟩ ?_
          simp only [Act.put, List.setIfInBounds_toArray, List.set_cons_zero, List.set_cons_succ]
          refine wpAnyH_take (i := 13) (oi := { dst := some 10, op := Op.assign (Operand.tmp 41), type := 4, pos := _, after := #[{ on := 9, ground := Ground.data }, { on := 12, ground := Ground.chain }, { on := 0, ground := Ground.phase }, { on := 1, ground := Ground.phase }, { on := 2, ground := Ground.phase }, { on := 3, ground := Ground.phase }, { on := 4, ground := Ground.phase }, { on := 5, ground := Ground.phase }, { on := 6, ground := Ground.phase }, { on := 7, ground := Ground.phase }, { on := 8, ground := Ground.phase }, { on := 9, ground := Ground.phase }, { on := 10, ground := Ground.phase }, { on := 11, ground := Ground.phase }, { on := 12, ground := Ground.phase }], guard := none }) (v := (.bool ba)) rfl (by kernel_rfl) (by kernel_rfl) (by kernel_rfl) (fun _ _ _ h => h) (Or.inl ⟨by rfl, fun w' hS => by (try dsimp only at hS); go_simp⟩) ⟨(get5 (HG0.out.blw HBW.out).out.box).1, (get5 (HG0.out.blw HBW.out).out.box).2.1, (get5 (HG0.out.blw HBW.out).out.box).2.2.1, (get5 (HG0.out.blw HBW.out).out.box).2.2.2.1, (get5 (HG0.out.blw HBW.out).out.box).2.2.2.2⟩ ?_
          simp only [Act.put, List.setIfInBounds_toArray, List.set_cons_zero, List.set_cons_succ]
          refine wpAnyH_done (by kernel_rfl) ?_ _
          refine NoPanic.normal ?_
          go_wp2_with fail
          go_meet
          exact ⟨va, Ra, xa, ba, _, rfl, rfl, rfl, HOS.out.1, HOS.out.2, HFA.out, HFB.out, HBW.out⟩
      · go_simp
        have hb : Blw x1 (x1.alloc (.cells #[.int .i64 0, .int .i64 0, .slice none 0 0, .slice none 0 0, .bool false] 61)) := (Blw.refl _).alloc _
        have HZB : Hid (Row (x1.alloc (.cells #[.int .i64 0, .int .i64 0, .slice none 0 0, .slice none 0 0, .bool false] 61)) x1.heap.size 5 (fun i => if i = 0 then .int .i64 0 else if i = 1 then .int .i64 0 else if i = 2 then .slice none 0 0 else if i = 3 then .slice none 0 0 else .bool false)) := row5 x1 (.int .i64 0) (.int .i64 0) (.slice none 0 0) (.slice none 0 0) (.bool false) 61
        have HZ1 : Hid (x1.heap.size < (x1.alloc (.cells #[.int .i64 0, .int .i64 0, .slice none 0 0, .slice none 0 0, .bool false] 61)).heap.size) := by show _ < _; simp
        have HZL : Hid (w3.heap.size ≤ x1.heap.size) := HBW.out.size
        generalize x1.alloc (.cells #[.int .i64 0, .int .i64 0, .slice none 0 0, .slice none 0 0, .bool false] 61) = x2 at *
        replace HBW : Hid (Blw w3 x2) := HBW.out.trans hb
        replace HC0 : Hid (KAt 3 (fun x => x < x2.heap.size) x2 (some ⟨wd.heap.size, 0, none⟩) np F) := (HC0.out.blw hb).mono (fun x hx => Nat.lt_of_lt_of_le hx hb.size)
        clear hb
        refine hK.out _ _ ⟨(get5 (HG0.out.blw HBW.out).out.box).1, (get5 (HG0.out.blw HBW.out).out.box).2.1, (get5 (HG0.out.blw HBW.out).out.box).2.2.1, (get5 (HG0.out.blw HBW.out).out.box).2.2.2.1, (get5 (HG0.out.blw HBW.out).out.box).2.2.2.2⟩ (fun hB => ?_)
        clear hK K hB
        try simp only [Act.put, List.setIfInBounds_toArray, List.set_cons_zero, List.set_cons_succ]
        refine wpAnyH_ready (rs := [3]) (by kernel_rfl) (by simp) ?_
        refine AllReadyH.cons (o := { dst := some 36, op := Op.call { callee := Callee.value (Operand.func 72), args := #[Operand.tmp 35], argTypes := #[94] }, type := 61, pos := _, after := #[{ on := 2, ground := Ground.data }, { on := 1, ground := Ground.chain }], guard := none }) rfl (fun K hK => ?_) AllReadyH.nil
        go_simp
        refine (toGuest_any g0 D0 _ _ SM0.out (HG0.out.blw HBW.out).out.at_).mono ?_
        rintro e x3 ⟨y1, rfl, own, hb⟩
        have HN_ : Hid (GAt (fun x => x < x3.heap.size) x3 y1 D0) := own.at.mono (fun x hx => hx.2)
        clear own
        replace HBW : Hid (Blw w3 x3) := HBW.out.trans hb
        replace HC0 : Hid (KAt 3 (fun x => x < x3.heap.size) x3 (some ⟨wd.heap.size, 0, none⟩) np F) := (HC0.out.blw hb).mono (fun x hx => Nat.lt_of_lt_of_le hx hb.size)
        replace HZB : Hid (Row x3 x1.heap.size 5 (fun i => if i = 0 then .int .i64 0 else if i = 1 then .int .i64 0 else if i = 2 then .slice none 0 0 else if i = 3 then .slice none 0 0 else .bool false)) := HZB.out.blw hb
        replace HZ1 : Hid (x1.heap.size < x3.heap.size) := Nat.lt_of_lt_of_le HZ1.out hb.size
        have HC1 := HN_
        clear HN_ hb
        refine hK.out _ _ ⟨(get5 (HG0.out.blw HBW.out).out.box).1, (get5 (HG0.out.blw HBW.out).out.box).2.1, (get5 (HG0.out.blw HBW.out).out.box).2.2.1, (get5 (HG0.out.blw HBW.out).out.box).2.2.2.1, (get5 (HG0.out.blw HBW.out).out.box).2.2.2.2⟩ (fun hB => ?_)
        clear hK K hB
        try simp only [Act.put, List.setIfInBounds_toArray, List.set_cons_zero, List.set_cons_succ]
        refine wpAnyH_ready (rs := [5]) (by kernel_rfl) (by simp) ?_
        refine AllReadyH.cons (o := { dst := some 38, op := Op.call { callee := Callee.value (Operand.func 39), args := #[Operand.tmp 34, Operand.tmp 36, Operand.tmp 37], argTypes := #[59, 61, 3] }, type := 64, pos := _, after := #[{ on := 1, ground := Ground.data }, { on := 3, ground := Ground.data }, { on := 4, ground := Ground.data }, { on := 3, ground := Ground.chain }], guard := none }) rfl (fun K hK => ?_) AllReadyH.nil
        go_simp
        have HZ9 : Hid (x1.heap.size < x3.heap.size) := HZ1.out
        refine (specRun_any _ _ np F y1 D0 k _ _ _ HC0.out HC1.out).mono ?_
        rintro e x4 ⟨va, Ra, xa, ba, rfl, ho, hs, own, hb⟩
        replace HBW : Hid (Blw w3 x4) := HBW.out.trans hb
        replace HC0 : Hid (KAt 3 (fun x => x < x4.heap.size) x4 (some ⟨wd.heap.size, 0, none⟩) np F) := (HC0.out.blw hb).mono (fun x hx => Nat.lt_of_lt_of_le hx hb.size)
        replace HC1 : Hid (GAt (fun x => x < x4.heap.size) x4 y1 D0) := (HC1.out.blw hb).mono (fun x hx => Nat.lt_of_lt_of_le hx hb.size)
        replace HZB : Hid (Row x4 x1.heap.size 5 (fun i => if i = 0 then .int .i64 0 else if i = 1 then .int .i64 0 else if i = 2 then .slice none 0 0 else if i = 3 then .slice none 0 0 else .bool false)) := HZB.out.blw hb
        replace HZ1 : Hid (x1.heap.size < x4.heap.size) := Nat.lt_of_lt_of_le HZ1.out hb.size
        have HAN : Hid (GAt (fun x => x3.heap.size ≤ x ∧ x < x4.heap.size) x4 va Ra) := own.at
        have HOS : Hid (rgOut np F D0 k Ra xa ba ∧ Ra.small) := ⟨ho, hs⟩
        have HAU : Hid (x4.heap.size ≤ x4.heap.size) := Nat.le_refl _
        have HNZ : Hid (∀ x, (fun x => x3.heap.size ≤ x ∧ x < x4.heap.size) x → x ≠ x1.heap.size) := fun x hx he => by have h9 := HZ9.out; have h8 := hx.1; rw [he] at h8; omega
        clear ho hb hs own
        refine hK.out _ _ ⟨(get5 (HG0.out.blw HBW.out).out.box).1, (get5 (HG0.out.blw HBW.out).out.box).2.1, (get5 (HG0.out.blw HBW.out).out.box).2.2.1, (get5 (HG0.out.blw HBW.out).out.box).2.2.2.1, (get5 (HG0.out.blw HBW.out).out.box).2.2.2.2⟩ (fun hB => ?_)
        clear hK K hB
        try simp only [Act.put, List.setIfInBounds_toArray, List.set_cons_zero, List.set_cons_succ]
        refine wpAnyH_take (i := 6) (oi := { dst := some 32, op := Op.move (Operand.tmp 38), type := 64, pos := _, after := #[{ on := 5, ground := Ground.data }], guard := none }) (v := (.tuple #[GV.val va Ra, .int .i64 xa, .bool ba])) rfl (by kernel_rfl) (by kernel_rfl) (by kernel_rfl) (fun _ _ _ h => h) (Or.inl ⟨by rfl, fun w' hS => by (try dsimp only at hS); go_simp⟩) ⟨(get5 (HG0.out.blw HBW.out).out.box).1, (get5 (HG0.out.blw HBW.out).out.box).2.1, (get5 (HG0.out.blw HBW.out).out.box).2.2.1, (get5 (HG0.out.blw HBW.out).out.box).2.2.2.1, (get5 (HG0.out.blw HBW.out).out.box).2.2.2.2⟩ ?_
        simp only [Act.put, List.setIfInBounds_toArray, List.set_cons_zero, List.set_cons_succ]
        refine wpAnyH_take (i := 7) (oi := { dst := some 39, op := Op.extract (Operand.tmp 32) 0, type := 61, pos := _, after := #[{ on := 6, ground := Ground.data }], guard := none }) (v := (GV.val va Ra)) rfl (by kernel_rfl) (by kernel_rfl) (by kernel_rfl) (fun _ _ _ h => h) (Or.inl ⟨by rfl, fun w' hS => by (try dsimp only at hS); go_simp⟩) ⟨(get5 (HG0.out.blw HBW.out).out.box).1, (get5 (HG0.out.blw HBW.out).out.box).2.1, (get5 (HG0.out.blw HBW.out).out.box).2.2.1, (get5 (HG0.out.blw HBW.out).out.box).2.2.2.1, (get5 (HG0.out.blw HBW.out).out.box).2.2.2.2⟩ ?_
        simp only [Act.put, List.setIfInBounds_toArray, List.set_cons_zero, List.set_cons_succ]
        refine wpAnyH_take (i := 8) (oi := { dst := some 40, op := Op.extract (Operand.tmp 32) 1, type := 3, pos := _, after := #[{ on := 6, ground := Ground.data }, { on := 11, ground := Ground.gcOnly Departure.lateStores }], guard := none }) (v := (.int .i64 xa)) rfl (by kernel_rfl) (by kernel_rfl) (by kernel_rfl) (fun _ _ _ h => h) (Or.inl ⟨by rfl, fun w' hS => by (try dsimp only at hS); go_simp⟩) ⟨(get5 (HG0.out.blw HBW.out).out.box).1, (get5 (HG0.out.blw HBW.out).out.box).2.1, (get5 (HG0.out.blw HBW.out).out.box).2.2.1, (get5 (HG0.out.blw HBW.out).out.box).2.2.2.1, (get5 (HG0.out.blw HBW.out).out.box).2.2.2.2⟩ ?_
        simp only [Act.put, List.setIfInBounds_toArray, List.set_cons_zero, List.set_cons_succ]
        refine wpAnyH_take (i := 9) (oi := { dst := some 41, op := Op.extract (Operand.tmp 32) 2, type := 4, pos := _, after := #[{ on := 6, ground := Ground.data }, { on := 12, ground := Ground.gcOnly Departure.lateStores }], guard := none }) (v := (.bool ba)) rfl (by kernel_rfl) (by kernel_rfl) (by kernel_rfl) (fun _ _ _ h => h) (Or.inl ⟨by rfl, fun w' hS => by (try dsimp only at hS); go_simp⟩) ⟨(get5 (HG0.out.blw HBW.out).out.box).1, (get5 (HG0.out.blw HBW.out).out.box).2.1, (get5 (HG0.out.blw HBW.out).out.box).2.2.1, (get5 (HG0.out.blw HBW.out).out.box).2.2.2.1, (get5 (HG0.out.blw HBW.out).out.box).2.2.2.2⟩ ?_
        simp only [Act.put, List.setIfInBounds_toArray, List.set_cons_zero, List.set_cons_succ]
        refine wpAnyH_ready (rs := [11]) (by kernel_rfl) (by simp) ?_
        refine AllReadyH.cons (o := { dst := none, op := Op.store 61 (Operand.tmp 8) (Operand.tmp 39), type := 0, pos := _, after := #[{ on := 10, ground := Ground.data }, { on := 7, ground := Ground.data }, { on := 5, ground := Ground.chain }, { on := 0, ground := Ground.phase }, { on := 1, ground := Ground.phase }, { on := 2, ground := Ground.phase }, { on := 3, ground := Ground.phase }, { on := 4, ground := Ground.phase }, { on := 5, ground := Ground.phase }, { on := 6, ground := Ground.phase }, { on := 7, ground := Ground.phase }, { on := 8, ground := Ground.textOnly Departure.lateStores }, { on := 9, ground := Ground.textOnly Departure.lateStores }, { on := 10, ground := Ground.phase }], guard := none }) rfl (fun K hK => ?_) AllReadyH.nil
        obtain ⟨t0, t1, t2, t3, t4⟩ := get5 HZB.out
        have f0 := HZB.out.frozen 0
        have f1 := HZB.out.frozen 1
        have f2 := HZB.out.frozen 2
        have f3 := HZB.out.frozen 3
        have f4 := HZB.out.frozen 4
        have m1 := set5_modG x4 x1.heap.size (.int .i64 Ra.at_) (.int .i64 Ra.acc) (.slice va.a1 Ra.nc va.c1) (.slice va.a2 Ra.nt va.c2) (.bool Ra.d) (X := fun x => x = x1.heap.size) rfl
        have m2 := m1.size
        have HFA : Hid (GAt (fun x => x < (((((x4.setCell ⟨x1.heap.size, 0, none⟩ (.int .i64 Ra.at_)).setCell ⟨x1.heap.size, 1, none⟩ (.int .i64 Ra.acc)).setCell ⟨x1.heap.size, 2, none⟩ (.slice va.a1 Ra.nc va.c1)).setCell ⟨x1.heap.size, 3, none⟩ (.slice va.a2 Ra.nt va.c2)).setCell ⟨x1.heap.size, 4, none⟩ (.bool Ra.d)).heap.size) (((((x4.setCell ⟨x1.heap.size, 0, none⟩ (.int .i64 Ra.at_)).setCell ⟨x1.heap.size, 1, none⟩ (.int .i64 Ra.acc)).setCell ⟨x1.heap.size, 2, none⟩ (.slice va.a1 Ra.nc va.c1)).setCell ⟨x1.heap.size, 3, none⟩ (.slice va.a2 Ra.nt va.c2)).setCell ⟨x1.heap.size, 4, none⟩ (.bool Ra.d)) va Ra) := (HAN.out.mod m1 (fun x hx he => HNZ.out x hx he)).mono (fun x hx => Nat.lt_of_lt_of_le (Nat.lt_of_lt_of_le hx.2 HAU.out) m2)
        have HFB : Hid (Row (((((x4.setCell ⟨x1.heap.size, 0, none⟩ (.int .i64 Ra.at_)).setCell ⟨x1.heap.size, 1, none⟩ (.int .i64 Ra.acc)).setCell ⟨x1.heap.size, 2, none⟩ (.slice va.a1 Ra.nc va.c1)).setCell ⟨x1.heap.size, 3, none⟩ (.slice va.a2 Ra.nt va.c2)).setCell ⟨x1.heap.size, 4, none⟩ (.bool Ra.d)) x1.heap.size 5 (gb va Ra)) := set5_all HZB.out _ _ _ _ _
        replace HBW : Hid (Blw w3 (((((x4.setCell ⟨x1.heap.size, 0, none⟩ (.int .i64 Ra.at_)).setCell ⟨x1.heap.size, 1, none⟩ (.int .i64 Ra.acc)).setCell ⟨x1.heap.size, 2, none⟩ (.slice va.a1 Ra.nc va.c1)).setCell ⟨x1.heap.size, 3, none⟩ (.slice va.a2 Ra.nt va.c2)).setCell ⟨x1.heap.size, 4, none⟩ (.bool Ra.d))) := Mod.blw HBW.out m1 (fun i hi => by have h9 := HZL.out; omega)
        clear m1 m2
        go_simp
        refine hK.out _ _ ⟨(get5 (HG0.out.blw HBW.out).out.box).1, (get5 (HG0.out.blw HBW.out).out.box).2.1, (get5 (HG0.out.blw HBW.out).out.box).2.2.1, (get5 (HG0.out.blw HBW.out).out.box).2.2.2.1, (get5 (HG0.out.blw HBW.out).out.box).2.2.2.2⟩ (fun hB => ?_)
        clear hK K hB
        try simp only [Act.put, List.setIfInBounds_toArray, List.set_cons_zero, List.set_cons_succ]
        clear t0 t1 t2 t3 t4 f0 f1 f2 f3 f4
        refine wpAnyH_take (i := 12) (oi := { dst := some 9, op := Op.assign (Operand.tmp 40), type := 3, pos := _, after := #[{ on := 8, ground := Ground.data }, { on := 11, ground := Ground.chain }, { on := 0, ground := Ground.phase }, { on := 1, ground := Ground.phase }, { on := 2, ground := Ground.phase }, { on := 3, ground := Ground.phase }, { on := 4, ground := Ground.phase }, { on := 5, ground := Ground.phase }, { on := 6, ground := Ground.phase }, { on := 7, ground := Ground.phase }, { on := 8, ground := Ground.phase }, { on := 9, ground := Ground.textOnly Departure.lateStores }, { on := 10, ground := Ground.phase }, { on := 11, ground := Ground.phase }], guard := none }) (v := (.int .i64 xa)) rfl (by kernel_rfl) (by kernel_rfl) (by kernel_rfl) (fun _ _ _ h => h) (Or.inl ⟨by rfl, fun w' hS => by (try dsimp only at hS); go_simp⟩) ⟨(get5 (HG0.out.blw HBW.out).out.box).1, (get5 (HG0.out.blw HBW.out).out.box).2.1, (get5 (HG0.out.blw HBW.out).out.box).2.2.1, (get5 (HG0.out.blw HBW.out).out.box).2.2.2.1, (get5 (HG0.out.blw HBW.out).out.box).2.2.2.2⟩ ?_
        simp only [Act.put, List.setIfInBounds_toArray, List.set_cons_zero, List.set_cons_succ]
        refine wpAnyH_take (i := 13) (oi := { dst := some 10, op := Op.assign (Operand.tmp 41), type := 4, pos := _, after := #[{ on := 9, ground := Ground.data }, { on := 12, ground := Ground.chain }, { on := 0, ground := Ground.phase }, { on := 1, ground := Ground.phase }, { on := 2, ground := Ground.phase }, { on := 3, ground := Ground.phase }, { on := 4, ground := Ground.phase }, { on := 5, ground := Ground.phase }, { on := 6, ground := Ground.phase }, { on := 7, ground := Ground.phase }, { on := 8, ground := Ground.phase }, { on := 9, ground := Ground.phase }, { on := 10, ground := Ground.phase }, { on := 11, ground := Ground.phase }, { on := 12, ground := Ground.phase }], guard := none }) (v := (.bool ba)) rfl (by kernel_rfl) (by kernel_rfl) (by kernel_rfl) (fun _ _ _ h => h) (Or.inl ⟨by rfl, fun w' hS => by (try dsimp only at hS); go_simp⟩) ⟨(get5 (HG0.out.blw HBW.out).out.box).1, (get5 (HG0.out.blw HBW.out).out.box).2.1, (get5 (HG0.out.blw HBW.out).out.box).2.2.1, (get5 (HG0.out.blw HBW.out).out.box).2.2.2.1, (get5 (HG0.out.blw HBW.out).out.box).2.2.2.2⟩ ?_
        simp only [Act.put, List.setIfInBounds_toArray, List.set_cons_zero, List.set_cons_succ]
        refine wpAnyH_done (by kernel_rfl) ?_ _
        refine NoPanic.normal ?_
        go_wp2_with fail
        go_meet
        exact ⟨va, Ra, xa, ba, _, rfl, rfl, rfl, HOS.out.1, HOS.out.2, HFA.out, HFB.out, HBW.out⟩
    · go_simp
      have hb : Blw wd (wd.alloc (.cells #[.int .i64 0, .int .i64 0, .slice none 0 0, .slice none 0 0, .bool false] 61)) := (Blw.refl _).alloc _
      have HZB : Hid (Row (wd.alloc (.cells #[.int .i64 0, .int .i64 0, .slice none 0 0, .slice none 0 0, .bool false] 61)) wd.heap.size 5 (fun i => if i = 0 then .int .i64 0 else if i = 1 then .int .i64 0 else if i = 2 then .slice none 0 0 else if i = 3 then .slice none 0 0 else .bool false)) := row5 wd (.int .i64 0) (.int .i64 0) (.slice none 0 0) (.slice none 0 0) (.bool false) 61
      have HZ1 : Hid (wd.heap.size < (wd.alloc (.cells #[.int .i64 0, .int .i64 0, .slice none 0 0, .slice none 0 0, .bool false] 61)).heap.size) := by show _ < _; simp
      have HZL : Hid (w3.heap.size ≤ wd.heap.size) := HBW.out.size
      generalize wd.alloc (.cells #[.int .i64 0, .int .i64 0, .slice none 0 0, .slice none 0 0, .bool false] 61) = x1 at *
      replace HBW : Hid (Blw w3 x1) := HBW.out.trans hb
      clear hb
      refine hK.out _ _ ⟨(get5 (HG0.out.blw HBW.out).out.box).1, (get5 (HG0.out.blw HBW.out).out.box).2.1, (get5 (HG0.out.blw HBW.out).out.box).2.2.1, (get5 (HG0.out.blw HBW.out).out.box).2.2.2.1, (get5 (HG0.out.blw HBW.out).out.box).2.2.2.2⟩ (fun hB => ?_)
      clear hK K hB
      try simp only [Act.put, List.setIfInBounds_toArray, List.set_cons_zero, List.set_cons_succ]
      refine wpAnyH_ready (rs := [1]) (by kernel_rfl) (by simp) ?_
      refine AllReadyH.cons (o := { dst := some 34, op := Op.call { callee := Callee.value (Operand.func 69), args := #[Operand.tmp 33], argTypes := #[89] }, type := 59, pos := _, after := #[{ on := 0, ground := Ground.data }], guard := none }) rfl (fun K hK => ?_) AllReadyH.nil
      go_simp
      refine (toInsS_any ap cp np F _ _ hnp2 (HP.out.blw HBW.out).out).mono ?_
      rintro e x2 ⟨rfl, row, hb⟩
      have hlt := row.lt
      have HN_ : Hid (KAt 3 (fun x => x < x2.heap.size) x2 (some ⟨x1.heap.size, 0, none⟩) np F) := (kown3 row (by omega) (X := fun x => x < x2.heap.size) hlt).at
      clear row hlt
      replace HBW : Hid (Blw w3 x2) := HBW.out.trans hb
      replace HZB : Hid (Row x2 wd.heap.size 5 (fun i => if i = 0 then .int .i64 0 else if i = 1 then .int .i64 0 else if i = 2 then .slice none 0 0 else if i = 3 then .slice none 0 0 else .bool false)) := HZB.out.blw hb
      replace HZ1 : Hid (wd.heap.size < x2.heap.size) := Nat.lt_of_lt_of_le HZ1.out hb.size
      have HC0 := HN_
      clear HN_ hb
      refine hK.out _ _ ⟨(get5 (HG0.out.blw HBW.out).out.box).1, (get5 (HG0.out.blw HBW.out).out.box).2.1, (get5 (HG0.out.blw HBW.out).out.box).2.2.1, (get5 (HG0.out.blw HBW.out).out.box).2.2.2.1, (get5 (HG0.out.blw HBW.out).out.box).2.2.2.2⟩ (fun hB => ?_)
      clear hK K hB
      try simp only [Act.put, List.setIfInBounds_toArray, List.set_cons_zero, List.set_cons_succ]
      refine wpAnyH_ready (rs := [3]) (by kernel_rfl) (by simp) ?_
      refine AllReadyH.cons (o := { dst := some 36, op := Op.call { callee := Callee.value (Operand.func 72), args := #[Operand.tmp 35], argTypes := #[94] }, type := 61, pos := _, after := #[{ on := 2, ground := Ground.data }, { on := 1, ground := Ground.chain }], guard := none }) rfl (fun K hK => ?_) AllReadyH.nil
      go_simp
      refine (toGuest_any g0 D0 _ _ SM0.out (HG0.out.blw HBW.out).out.at_).mono ?_
      rintro e x3 ⟨y1, rfl, own, hb⟩
      have HN_ : Hid (GAt (fun x => x < x3.heap.size) x3 y1 D0) := own.at.mono (fun x hx => hx.2)
      clear own
      replace HBW : Hid (Blw w3 x3) := HBW.out.trans hb
      replace HC0 : Hid (KAt 3 (fun x => x < x3.heap.size) x3 (some ⟨x1.heap.size, 0, none⟩) np F) := (HC0.out.blw hb).mono (fun x hx => Nat.lt_of_lt_of_le hx hb.size)
      replace HZB : Hid (Row x3 wd.heap.size 5 (fun i => if i = 0 then .int .i64 0 else if i = 1 then .int .i64 0 else if i = 2 then .slice none 0 0 else if i = 3 then .slice none 0 0 else .bool false)) := HZB.out.blw hb
      replace HZ1 : Hid (wd.heap.size < x3.heap.size) := Nat.lt_of_lt_of_le HZ1.out hb.size
      have HC1 := HN_
      clear HN_ hb
      refine hK.out _ _ ⟨(get5 (HG0.out.blw HBW.out).out.box).1, (get5 (HG0.out.blw HBW.out).out.box).2.1, (get5 (HG0.out.blw HBW.out).out.box).2.2.1, (get5 (HG0.out.blw HBW.out).out.box).2.2.2.1, (get5 (HG0.out.blw HBW.out).out.box).2.2.2.2⟩ (fun hB => ?_)
      clear hK K hB
      try simp only [Act.put, List.setIfInBounds_toArray, List.set_cons_zero, List.set_cons_succ]
      refine wpAnyH_ready (rs := [5]) (by kernel_rfl) (by simp) ?_
      refine AllReadyH.cons (o := { dst := some 38, op := Op.call { callee := Callee.value (Operand.func 39), args := #[Operand.tmp 34, Operand.tmp 36, Operand.tmp 37], argTypes := #[59, 61, 3] }, type := 64, pos := _, after := #[{ on := 1, ground := Ground.data }, { on := 3, ground := Ground.data }, { on := 4, ground := Ground.data }, { on := 3, ground := Ground.chain }], guard := none }) rfl (fun K hK => ?_) AllReadyH.nil
      go_simp
      have HZ9 : Hid (wd.heap.size < x3.heap.size) := HZ1.out
      refine (specRun_any _ _ np F y1 D0 k _ _ _ HC0.out HC1.out).mono ?_
      rintro e x4 ⟨va, Ra, xa, ba, rfl, ho, hs, own, hb⟩
      replace HBW : Hid (Blw w3 x4) := HBW.out.trans hb
      replace HC0 : Hid (KAt 3 (fun x => x < x4.heap.size) x4 (some ⟨x1.heap.size, 0, none⟩) np F) := (HC0.out.blw hb).mono (fun x hx => Nat.lt_of_lt_of_le hx hb.size)
      replace HC1 : Hid (GAt (fun x => x < x4.heap.size) x4 y1 D0) := (HC1.out.blw hb).mono (fun x hx => Nat.lt_of_lt_of_le hx hb.size)
      replace HZB : Hid (Row x4 wd.heap.size 5 (fun i => if i = 0 then .int .i64 0 else if i = 1 then .int .i64 0 else if i = 2 then .slice none 0 0 else if i = 3 then .slice none 0 0 else .bool false)) := HZB.out.blw hb
      replace HZ1 : Hid (wd.heap.size < x4.heap.size) := Nat.lt_of_lt_of_le HZ1.out hb.size
      have HAN : Hid (GAt (fun x => x3.heap.size ≤ x ∧ x < x4.heap.size) x4 va Ra) := own.at
      have HOS : Hid (rgOut np F D0 k Ra xa ba ∧ Ra.small) := ⟨ho, hs⟩
      have HAU : Hid (x4.heap.size ≤ x4.heap.size) := Nat.le_refl _
      have HNZ : Hid (∀ x, (fun x => x3.heap.size ≤ x ∧ x < x4.heap.size) x → x ≠ wd.heap.size) := fun x hx he => by have h9 := HZ9.out; have h8 := hx.1; rw [he] at h8; omega
      clear ho hb hs own
      refine hK.out _ _ ⟨(get5 (HG0.out.blw HBW.out).out.box).1, (get5 (HG0.out.blw HBW.out).out.box).2.1, (get5 (HG0.out.blw HBW.out).out.box).2.2.1, (get5 (HG0.out.blw HBW.out).out.box).2.2.2.1, (get5 (HG0.out.blw HBW.out).out.box).2.2.2.2⟩ (fun hB => ?_)
      clear hK K hB
      try simp only [Act.put, List.setIfInBounds_toArray, List.set_cons_zero, List.set_cons_succ]
      refine wpAnyH_take (i := 6) (oi := { dst := some 32, op := Op.move (Operand.tmp 38), type := 64, pos := _, after := #[{ on := 5, ground := Ground.data }], guard := none }) (v := (.tuple #[GV.val va Ra, .int .i64 xa, .bool ba])) rfl (by kernel_rfl) (by kernel_rfl) (by kernel_rfl) (fun _ _ _ h => h) (Or.inl ⟨by rfl, fun w' hS => by (try dsimp only at hS); go_simp⟩) ⟨(get5 (HG0.out.blw HBW.out).out.box).1, (get5 (HG0.out.blw HBW.out).out.box).2.1, (get5 (HG0.out.blw HBW.out).out.box).2.2.1, (get5 (HG0.out.blw HBW.out).out.box).2.2.2.1, (get5 (HG0.out.blw HBW.out).out.box).2.2.2.2⟩ ?_
      simp only [Act.put, List.setIfInBounds_toArray, List.set_cons_zero, List.set_cons_succ]
      refine wpAnyH_take (i := 7) (oi := { dst := some 39, op := Op.extract (Operand.tmp 32) 0, type := 61, pos := _, after := #[{ on := 6, ground := Ground.data }], guard := none }) (v := (GV.val va Ra)) rfl (by kernel_rfl) (by kernel_rfl) (by kernel_rfl) (fun _ _ _ h => h) (Or.inl ⟨by rfl, fun w' hS => by (try dsimp only at hS); go_simp⟩) ⟨(get5 (HG0.out.blw HBW.out).out.box).1, (get5 (HG0.out.blw HBW.out).out.box).2.1, (get5 (HG0.out.blw HBW.out).out.box).2.2.1, (get5 (HG0.out.blw HBW.out).out.box).2.2.2.1, (get5 (HG0.out.blw HBW.out).out.box).2.2.2.2⟩ ?_
      simp only [Act.put, List.setIfInBounds_toArray, List.set_cons_zero, List.set_cons_succ]
      refine wpAnyH_take (i := 8) (oi := { dst := some 40, op := Op.extract (Operand.tmp 32) 1, type := 3, pos := _, after := #[{ on := 6, ground := Ground.data }, { on := 11, ground := Ground.gcOnly Departure.lateStores }], guard := none }) (v := (.int .i64 xa)) rfl (by kernel_rfl) (by kernel_rfl) (by kernel_rfl) (fun _ _ _ h => h) (Or.inl ⟨by rfl, fun w' hS => by (try dsimp only at hS); go_simp⟩) ⟨(get5 (HG0.out.blw HBW.out).out.box).1, (get5 (HG0.out.blw HBW.out).out.box).2.1, (get5 (HG0.out.blw HBW.out).out.box).2.2.1, (get5 (HG0.out.blw HBW.out).out.box).2.2.2.1, (get5 (HG0.out.blw HBW.out).out.box).2.2.2.2⟩ ?_
      simp only [Act.put, List.setIfInBounds_toArray, List.set_cons_zero, List.set_cons_succ]
      refine wpAnyH_take (i := 9) (oi := { dst := some 41, op := Op.extract (Operand.tmp 32) 2, type := 4, pos := _, after := #[{ on := 6, ground := Ground.data }, { on := 12, ground := Ground.gcOnly Departure.lateStores }], guard := none }) (v := (.bool ba)) rfl (by kernel_rfl) (by kernel_rfl) (by kernel_rfl) (fun _ _ _ h => h) (Or.inl ⟨by rfl, fun w' hS => by (try dsimp only at hS); go_simp⟩) ⟨(get5 (HG0.out.blw HBW.out).out.box).1, (get5 (HG0.out.blw HBW.out).out.box).2.1, (get5 (HG0.out.blw HBW.out).out.box).2.2.1, (get5 (HG0.out.blw HBW.out).out.box).2.2.2.1, (get5 (HG0.out.blw HBW.out).out.box).2.2.2.2⟩ ?_
      simp only [Act.put, List.setIfInBounds_toArray, List.set_cons_zero, List.set_cons_succ]
      refine wpAnyH_ready (rs := [11]) (by kernel_rfl) (by simp) ?_
      refine AllReadyH.cons (o := { dst := none, op := Op.store 61 (Operand.tmp 8) (Operand.tmp 39), type := 0, pos := _, after := #[{ on := 10, ground := Ground.data }, { on := 7, ground := Ground.data }, { on := 5, ground := Ground.chain }, { on := 0, ground := Ground.phase }, { on := 1, ground := Ground.phase }, { on := 2, ground := Ground.phase }, { on := 3, ground := Ground.phase }, { on := 4, ground := Ground.phase }, { on := 5, ground := Ground.phase }, { on := 6, ground := Ground.phase }, { on := 7, ground := Ground.phase }, { on := 8, ground := Ground.textOnly Departure.lateStores }, { on := 9, ground := Ground.textOnly Departure.lateStores }, { on := 10, ground := Ground.phase }], guard := none }) rfl (fun K hK => ?_) AllReadyH.nil
      obtain ⟨t0, t1, t2, t3, t4⟩ := get5 HZB.out
      have f0 := HZB.out.frozen 0
      have f1 := HZB.out.frozen 1
      have f2 := HZB.out.frozen 2
      have f3 := HZB.out.frozen 3
      have f4 := HZB.out.frozen 4
      have m1 := set5_modG x4 wd.heap.size (.int .i64 Ra.at_) (.int .i64 Ra.acc) (.slice va.a1 Ra.nc va.c1) (.slice va.a2 Ra.nt va.c2) (.bool Ra.d) (X := fun x => x = wd.heap.size) rfl
      have m2 := m1.size
      have HFA : Hid (GAt (fun x => x < (((((x4.setCell ⟨wd.heap.size, 0, none⟩ (.int .i64 Ra.at_)).setCell ⟨wd.heap.size, 1, none⟩ (.int .i64 Ra.acc)).setCell ⟨wd.heap.size, 2, none⟩ (.slice va.a1 Ra.nc va.c1)).setCell ⟨wd.heap.size, 3, none⟩ (.slice va.a2 Ra.nt va.c2)).setCell ⟨wd.heap.size, 4, none⟩ (.bool Ra.d)).heap.size) (((((x4.setCell ⟨wd.heap.size, 0, none⟩ (.int .i64 Ra.at_)).setCell ⟨wd.heap.size, 1, none⟩ (.int .i64 Ra.acc)).setCell ⟨wd.heap.size, 2, none⟩ (.slice va.a1 Ra.nc va.c1)).setCell ⟨wd.heap.size, 3, none⟩ (.slice va.a2 Ra.nt va.c2)).setCell ⟨wd.heap.size, 4, none⟩ (.bool Ra.d)) va Ra) := (HAN.out.mod m1 (fun x hx he => HNZ.out x hx he)).mono (fun x hx => Nat.lt_of_lt_of_le (Nat.lt_of_lt_of_le hx.2 HAU.out) m2)
      have HFB : Hid (Row (((((x4.setCell ⟨wd.heap.size, 0, none⟩ (.int .i64 Ra.at_)).setCell ⟨wd.heap.size, 1, none⟩ (.int .i64 Ra.acc)).setCell ⟨wd.heap.size, 2, none⟩ (.slice va.a1 Ra.nc va.c1)).setCell ⟨wd.heap.size, 3, none⟩ (.slice va.a2 Ra.nt va.c2)).setCell ⟨wd.heap.size, 4, none⟩ (.bool Ra.d)) wd.heap.size 5 (gb va Ra)) := set5_all HZB.out _ _ _ _ _
      replace HBW : Hid (Blw w3 (((((x4.setCell ⟨wd.heap.size, 0, none⟩ (.int .i64 Ra.at_)).setCell ⟨wd.heap.size, 1, none⟩ (.int .i64 Ra.acc)).setCell ⟨wd.heap.size, 2, none⟩ (.slice va.a1 Ra.nc va.c1)).setCell ⟨wd.heap.size, 3, none⟩ (.slice va.a2 Ra.nt va.c2)).setCell ⟨wd.heap.size, 4, none⟩ (.bool Ra.d))) := Mod.blw HBW.out m1 (fun i hi => by have h9 := HZL.out; omega)
      clear m1 m2
      go_simp
      refine hK.out _ _ ⟨(get5 (HG0.out.blw HBW.out).out.box).1, (get5 (HG0.out.blw HBW.out).out.box).2.1, (get5 (HG0.out.blw HBW.out).out.box).2.2.1, (get5 (HG0.out.blw HBW.out).out.box).2.2.2.1, (get5 (HG0.out.blw HBW.out).out.box).2.2.2.2⟩ (fun hB => ?_)
      clear hK K hB
      try simp only [Act.put, List.setIfInBounds_toArray, List.set_cons_zero, List.set_cons_succ]
      clear t0 t1 t2 t3 t4 f0 f1 f2 f3 f4
      refine wpAnyH_take (i := 12) (oi := { dst := some 9, op := Op.assign (Operand.tmp 40), type := 3, pos := _, after := #[{ on := 8, ground := Ground.data }, { on := 11, ground := Ground.chain }, { on := 0, ground := Ground.phase }, { on := 1, ground := Ground.phase }, { on := 2, ground := Ground.phase }, { on := 3, ground := Ground.phase }, { on := 4, ground := Ground.phase }, { on := 5, ground := Ground.phase }, { on := 6, ground := Ground.phase }, { on := 7, ground := Ground.phase }, { on := 8, ground := Ground.phase }, { on := 9, ground := Ground.textOnly Departure.lateStores }, { on := 10, ground := Ground.phase }, { on := 11, ground := Ground.phase }], guard := none }) (v := (.int .i64 xa)) rfl (by kernel_rfl) (by kernel_rfl) (by kernel_rfl) (fun _ _ _ h => h) (Or.inl ⟨by rfl, fun w' hS => by (try dsimp only at hS); go_simp⟩) ⟨(get5 (HG0.out.blw HBW.out).out.box).1, (get5 (HG0.out.blw HBW.out).out.box).2.1, (get5 (HG0.out.blw HBW.out).out.box).2.2.1, (get5 (HG0.out.blw HBW.out).out.box).2.2.2.1, (get5 (HG0.out.blw HBW.out).out.box).2.2.2.2⟩ ?_
      simp only [Act.put, List.setIfInBounds_toArray, List.set_cons_zero, List.set_cons_succ]
      refine wpAnyH_take (i := 13) (oi := { dst := some 10, op := Op.assign (Operand.tmp 41), type := 4, pos := _, after := #[{ on := 9, ground := Ground.data }, { on := 12, ground := Ground.chain }, { on := 0, ground := Ground.phase }, { on := 1, ground := Ground.phase }, { on := 2, ground := Ground.phase }, { on := 3, ground := Ground.phase }, { on := 4, ground := Ground.phase }, { on := 5, ground := Ground.phase }, { on := 6, ground := Ground.phase }, { on := 7, ground := Ground.phase }, { on := 8, ground := Ground.phase }, { on := 9, ground := Ground.phase }, { on := 10, ground := Ground.phase }, { on := 11, ground := Ground.phase }, { on := 12, ground := Ground.phase }], guard := none }) (v := (.bool ba)) rfl (by kernel_rfl) (by kernel_rfl) (by kernel_rfl) (fun _ _ _ h => h) (Or.inl ⟨by rfl, fun w' hS => by (try dsimp only at hS); go_simp⟩) ⟨(get5 (HG0.out.blw HBW.out).out.box).1, (get5 (HG0.out.blw HBW.out).out.box).2.1, (get5 (HG0.out.blw HBW.out).out.box).2.2.1, (get5 (HG0.out.blw HBW.out).out.box).2.2.2.1, (get5 (HG0.out.blw HBW.out).out.box).2.2.2.2⟩ ?_
      simp only [Act.put, List.setIfInBounds_toArray, List.set_cons_zero, List.set_cons_succ]
      refine wpAnyH_done (by kernel_rfl) ?_ _
      refine NoPanic.normal ?_
      go_wp2_with fail
      go_meet
      exact ⟨va, Ra, xa, ba, _, rfl, rfl, rfl, HOS.out.1, HOS.out.2, HFA.out, HFB.out, HBW.out⟩
  case rest =>
    obtain ⟨v3, R3, x3, b3, z3, rfl, rfl, rfl, ho, hs, hat, hbx, hb⟩ := hcut
    generalize wc = w4 at *
    have hz := hb.size
    have HN0 : Hid (w.heap.size + 1 ≤ w4.heap.size) := by have h1 := HG0.out.1 (w.heap.size + 0) (by omega); show _ ≤ _; omega
    replace HP : Hid (St (fun x => x < w.heap.size) (fun W => KAt 3 (fun x => x < w.heap.size) W ap np F) w4) := HP.out.blw hb
    replace HG0 : Hid (St (fun x => x < w.heap.size + 1) (ArgG w.heap.size w.heap.size g0 D0) w4) := HG0.out.blw hb
    replace HB : Hid (Blw w w4) := HB.out.trans hb
    have HO3 : Hid (rgOut np F D0 k R3 x3 b3) := ho
    have HSR : Hid (R3.small) := hs
    have hzl := hbx.lt
    have H3 : Hid (St (fun x => x < w4.heap.size) (ArgG w4.heap.size z3 v3 R3) w4) := ArgG.st ⟨hat, hbx⟩ (Nat.le_refl _) hzl (Nat.le_refl _)
    clear hb hat hbx hz hzl ho hs
    go_wp2_with fail
    refine (toInsS_any ap cp np F _ _ hnp2 HP.out.out).mono ?_
    rintro e w5 ⟨rfl, row, hb⟩
    try clear hr0
    have hlt := row.lt
    have hz := hb.size
    have HN1 : Hid (w4.heap.size ≤ w4.heap.size ∧ w4.heap.size < w5.heap.size) := ⟨by have o0 := HN0.out; omega, hlt⟩
    have h4P : KOwn 3 (fun x => w4.heap.size ≤ x ∧ x < w5.heap.size) w5 (some ⟨w4.heap.size, 0, none⟩) np F := kown3 row (by omega) HN1.out
    replace HP : Hid (St (fun x => x < w.heap.size) (fun W => KAt 3 (fun x => x < w.heap.size) W ap np F) w5) := HP.out.blw hb
    replace HG0 : Hid (St (fun x => x < w.heap.size + 1) (ArgG w.heap.size w.heap.size g0 D0) w5) := HG0.out.blw hb
    replace H3 : Hid (St (fun x => x < w4.heap.size) (ArgG w4.heap.size z3 v3 R3) w5) := H3.out.blw hb
    replace HB : Hid (Blw w w5) := HB.out.trans hb
    have H4P : Hid (St (fun x => w4.heap.size ≤ x ∧ x < w5.heap.size) (fun W => KOwn 3 (fun x => w4.heap.size ≤ x ∧ x < w5.heap.size) W (some ⟨w4.heap.size, 0, none⟩) np F) w5) := KOwn.st h4P (fun x hx => hx.2)
    clear hb row hz hlt h4P
    obtain ⟨p00, p01, p02, p03, p04⟩ := get5 HG0.out.out.box
    go_wp2_with fail
    clear p00 p01 p02 p03 p04
    refine (toGuest_any g0 D0 _ _ SM0.out HG0.out.out.at_).mono ?_
    rintro e w6 ⟨v40, rfl, own, hb⟩
    have hz := hb.size
    have hA : Blw w6 (w6.alloc (.cells #[.int .i64 D0.at_, .int .i64 D0.acc, .slice v40.a1 D0.nc v40.c1, .slice v40.a2 D0.nt v40.c2, .bool D0.d] 61)) := (Blw.refl _).alloc _
    have HN2 : Hid (w5.heap.size ≤ w5.heap.size ∧ w5.heap.size ≤ w6.heap.size) := ⟨by have o0 := HN0.out; have o1 := HN1.out; omega, hz⟩
    have h4G0 : BBG (fun x => w5.heap.size ≤ x ∧ x < w6.heap.size + 1) w6.heap.size v40 D0 D0 (w6.alloc (.cells #[.int .i64 D0.at_, .int .i64 D0.acc, .slice v40.a1 D0.nc v40.c1, .slice v40.a2 D0.nt v40.c2, .bool D0.d] 61)) := ⟨(own.blw hA).mono (fun x hx => by have ho := HN2.out; exact ⟨⟨by omega, by omega⟩, by omega⟩), row5 w6 _ _ _ _ _ 61⟩
    replace HP : Hid (St (fun x => x < w.heap.size) (fun W => KAt 3 (fun x => x < w.heap.size) W ap np F) (w6.alloc (.cells #[.int .i64 D0.at_, .int .i64 D0.acc, .slice v40.a1 D0.nc v40.c1, .slice v40.a2 D0.nt v40.c2, .bool D0.d] 61))) := HP.out.blw (hb.trans hA)
    replace HG0 : Hid (St (fun x => x < w.heap.size + 1) (ArgG w.heap.size w.heap.size g0 D0) (w6.alloc (.cells #[.int .i64 D0.at_, .int .i64 D0.acc, .slice v40.a1 D0.nc v40.c1, .slice v40.a2 D0.nt v40.c2, .bool D0.d] 61))) := HG0.out.blw (hb.trans hA)
    replace H3 : Hid (St (fun x => x < w4.heap.size) (ArgG w4.heap.size z3 v3 R3) (w6.alloc (.cells #[.int .i64 D0.at_, .int .i64 D0.acc, .slice v40.a1 D0.nc v40.c1, .slice v40.a2 D0.nt v40.c2, .bool D0.d] 61))) := H3.out.blw (hb.trans hA)
    replace H4P : Hid (St (fun x => w4.heap.size ≤ x ∧ x < w5.heap.size) (fun W => KOwn 3 (fun x => w4.heap.size ≤ x ∧ x < w5.heap.size) W (some ⟨w4.heap.size, 0, none⟩) np F) (w6.alloc (.cells #[.int .i64 D0.at_, .int .i64 D0.acc, .slice v40.a1 D0.nc v40.c1, .slice v40.a2 D0.nt v40.c2, .bool D0.d] 61))) := H4P.out.blw (hb.trans hA)
    replace HB : Hid (Blw w (w6.alloc (.cells #[.int .i64 D0.at_, .int .i64 D0.acc, .slice v40.a1 D0.nc v40.c1, .slice v40.a2 D0.nt v40.c2, .bool D0.d] 61))) := HB.out.trans (hb.trans hA)
    have H4G0 : Hid (St (fun x => w5.heap.size ≤ x ∧ x < w6.heap.size + 1) (BBG (fun x => w5.heap.size ≤ x ∧ x < w6.heap.size + 1) w6.heap.size v40 D0 D0) (w6.alloc (.cells #[.int .i64 D0.at_, .int .i64 D0.acc, .slice v40.a1 D0.nc v40.c1, .slice v40.a2 D0.nt v40.c2, .bool D0.d] 61))) := BBG.st h4G0 (by have ho := HN2.out; exact ⟨by omega, by omega⟩) (fun x hx => by simp only [World.size_alloc]; omega)
    clear hb hA own hz h4G0
    obtain ⟨p00, p01, p02, p03, p04⟩ := get5 H4G0.out.out.box
    go_wp2_with fail
    clear p00 p01 p02 p03 p04
    have HN3 : Hid (w6.heap.size + 1 ≤ (w6.alloc (.cells #[.int .i64 D0.at_, .int .i64 D0.acc, .slice v40.a1 D0.nc v40.c1, .slice v40.a2 D0.nt v40.c2, .bool D0.d] 61)).heap.size) := by show _ ≤ _; simp only [World.size_alloc]; have o0 := HN0.out; have o1 := HN1.out; have o2 := HN2.out; omega
    generalize w6.alloc (.cells #[.int .i64 D0.at_, .int .i64 D0.acc, .slice v40.a1 D0.nc v40.c1, .slice v40.a2 D0.nt v40.c2, .bool D0.d] 61) = w7 at *
    refine (implRun_any (some ⟨w4.heap.size, 0, none⟩) np np F v40 D0 k _ _ _ (H4P.out.out.at) H4G0.out.out.own.at (fun x hx => by have := H4G0.out.1 x hx.1; omega)).mono ?_
    rintro e w8 ⟨v5, R5, x5, b5, rfl, ho, hs, own, hb⟩
    have hz := hb.size
    obtain ⟨eR, ex, eb⟩ := rgOut_same ho HO3.out
    subst eR ex eb
    have HN4 : Hid (w6.heap.size + 1 ≤ w7.heap.size ∧ w7.heap.size ≤ w8.heap.size) := by have o0 := HN0.out; have o1 := HN1.out; have o2 := HN2.out; have o3 := HN3.out; have hh := hz; exact ⟨by omega, by omega⟩
    have hA : Blw w8 (w8.alloc (.cells #[.int .i64 R5.at_, .int .i64 R5.acc, .slice v5.a1 R5.nc v5.c1, .slice v5.a2 R5.nt v5.c2, .bool R5.d] 61)) := (Blw.refl _).alloc _
    have h5 : BBG (fun x => w6.heap.size + 1 ≤ x ∧ x < w8.heap.size + 1) w8.heap.size v5 R5 R5 (w8.alloc (.cells #[.int .i64 R5.at_, .int .i64 R5.acc, .slice v5.a1 R5.nc v5.c1, .slice v5.a2 R5.nt v5.c2, .bool R5.d] 61)) := ⟨(own.blw hA).mono (fun x hx => by have ho := HN4.out; exact ⟨⟨by omega, by omega⟩, by omega⟩), row5 w8 _ _ _ _ _ 61⟩
    replace HP : Hid (St (fun x => x < w.heap.size) (fun W => KAt 3 (fun x => x < w.heap.size) W ap np F) (w8.alloc (.cells #[.int .i64 R5.at_, .int .i64 R5.acc, .slice v5.a1 R5.nc v5.c1, .slice v5.a2 R5.nt v5.c2, .bool R5.d] 61))) := HP.out.blw (hb.trans hA)
    replace HG0 : Hid (St (fun x => x < w.heap.size + 1) (ArgG w.heap.size w.heap.size g0 D0) (w8.alloc (.cells #[.int .i64 R5.at_, .int .i64 R5.acc, .slice v5.a1 R5.nc v5.c1, .slice v5.a2 R5.nt v5.c2, .bool R5.d] 61))) := HG0.out.blw (hb.trans hA)
    replace H3 : Hid (St (fun x => x < w4.heap.size) (ArgG w4.heap.size z3 v3 R5) (w8.alloc (.cells #[.int .i64 R5.at_, .int .i64 R5.acc, .slice v5.a1 R5.nc v5.c1, .slice v5.a2 R5.nt v5.c2, .bool R5.d] 61))) := H3.out.blw (hb.trans hA)
    replace H4P : Hid (St (fun x => w4.heap.size ≤ x ∧ x < w5.heap.size) (fun W => KOwn 3 (fun x => w4.heap.size ≤ x ∧ x < w5.heap.size) W (some ⟨w4.heap.size, 0, none⟩) np F) (w8.alloc (.cells #[.int .i64 R5.at_, .int .i64 R5.acc, .slice v5.a1 R5.nc v5.c1, .slice v5.a2 R5.nt v5.c2, .bool R5.d] 61))) := H4P.out.blw (hb.trans hA)
    replace H4G0 : Hid (St (fun x => w5.heap.size ≤ x ∧ x < w6.heap.size + 1) (BBG (fun x => w5.heap.size ≤ x ∧ x < w6.heap.size + 1) w6.heap.size v40 D0 D0) (w8.alloc (.cells #[.int .i64 R5.at_, .int .i64 R5.acc, .slice v5.a1 R5.nc v5.c1, .slice v5.a2 R5.nt v5.c2, .bool R5.d] 61))) := H4G0.out.blw (hb.trans hA)
    replace HB : Hid (Blw w (w8.alloc (.cells #[.int .i64 R5.at_, .int .i64 R5.acc, .slice v5.a1 R5.nc v5.c1, .slice v5.a2 R5.nt v5.c2, .bool R5.d] 61))) := HB.out.trans (hb.trans hA)
    have H5 : Hid (St (fun x => w6.heap.size + 1 ≤ x ∧ x < w8.heap.size + 1) (BBG (fun x => w6.heap.size + 1 ≤ x ∧ x < w8.heap.size + 1) w8.heap.size v5 R5 R5) (w8.alloc (.cells #[.int .i64 R5.at_, .int .i64 R5.acc, .slice v5.a1 R5.nc v5.c1, .slice v5.a2 R5.nt v5.c2, .bool R5.d] 61))) := BBG.st h5 (by have ho := HN4.out; exact ⟨by omega, by omega⟩) (fun x hx => by simp only [World.size_alloc]; omega)
    clear hb hA own hz ho hs h5
    have hnx : (x5 != x5) = false := by simp
    have hne : (b5 != b5) = false := by simp
    obtain ⟨p00, p01, p02, p03, p04⟩ := get5 H5.out.out.box
    obtain ⟨p10, p11, p12, p13, p14⟩ := get5 H3.out.out.box
    go_wp2_with fail
    clear p00 p01 p02 p03 p04 p10 p11 p12 p13 p14
    have HN5 : Hid (w8.heap.size + 1 ≤ (w8.alloc (.cells #[.int .i64 R5.at_, .int .i64 R5.acc, .slice v5.a1 R5.nc v5.c1, .slice v5.a2 R5.nt v5.c2, .bool R5.d] 61)).heap.size) := by show _ ≤ _; simp only [World.size_alloc]; have o0 := HN0.out; have o1 := HN1.out; have o2 := HN2.out; have o3 := HN3.out; have o4 := HN4.out; omega
    generalize w8.alloc (.cells #[.int .i64 R5.at_, .int .i64 R5.acc, .slice v5.a1 R5.nc v5.c1, .slice v5.a2 R5.nt v5.c2, .bool R5.d] 61) = w9 at *
    refine (eqGuest_same v5 v3 R5 _ H5.out.out.own.at H3.out.out.at_).mono ?_
    rintro e w10 ⟨rfl, hb⟩
    replace HP : Hid (St (fun x => x < w.heap.size) (fun W => KAt 3 (fun x => x < w.heap.size) W ap np F) w10) := HP.out.blw hb
    replace HG0 : Hid (St (fun x => x < w.heap.size + 1) (ArgG w.heap.size w.heap.size g0 D0) w10) := HG0.out.blw hb
    replace H3 : Hid (St (fun x => x < w4.heap.size) (ArgG w4.heap.size z3 v3 R5) w10) := H3.out.blw hb
    replace H4P : Hid (St (fun x => w4.heap.size ≤ x ∧ x < w5.heap.size) (fun W => KOwn 3 (fun x => w4.heap.size ≤ x ∧ x < w5.heap.size) W (some ⟨w4.heap.size, 0, none⟩) np F) w10) := H4P.out.blw hb
    replace H4G0 : Hid (St (fun x => w5.heap.size ≤ x ∧ x < w6.heap.size + 1) (BBG (fun x => w5.heap.size ≤ x ∧ x < w6.heap.size + 1) w6.heap.size v40 D0 D0) w10) := H4G0.out.blw hb
    replace H5 : Hid (St (fun x => w6.heap.size + 1 ≤ x ∧ x < w8.heap.size + 1) (BBG (fun x => w6.heap.size + 1 ≤ x ∧ x < w8.heap.size + 1) w8.heap.size v5 R5 R5) w10) := H5.out.blw hb
    replace HB : Hid (Blw w w10) := HB.out.trans hb
    clear hb
    go_wp2_with fail
    refine (toInsS_any ap cp np F _ _ hnp2 HP.out.out).mono ?_
    rintro e w11 ⟨rfl, row, hb⟩
    have hlt := row.lt
    have C6 : Hid (KAt 3 (fun x => x < w11.heap.size) w11 (some ⟨w10.heap.size, 0, none⟩) np F) := (kown3 row (by omega) (X := fun x => x < w11.heap.size) hlt).at
    replace HP : Hid (St (fun x => x < w.heap.size) (fun W => KAt 3 (fun x => x < w.heap.size) W ap np F) w11) := HP.out.blw hb
    replace HG0 : Hid (St (fun x => x < w.heap.size + 1) (ArgG w.heap.size w.heap.size g0 D0) w11) := HG0.out.blw hb
    replace H3 : Hid (St (fun x => x < w4.heap.size) (ArgG w4.heap.size z3 v3 R5) w11) := H3.out.blw hb
    replace H4P : Hid (St (fun x => w4.heap.size ≤ x ∧ x < w5.heap.size) (fun W => KOwn 3 (fun x => w4.heap.size ≤ x ∧ x < w5.heap.size) W (some ⟨w4.heap.size, 0, none⟩) np F) w11) := H4P.out.blw hb
    replace H4G0 : Hid (St (fun x => w5.heap.size ≤ x ∧ x < w6.heap.size + 1) (BBG (fun x => w5.heap.size ≤ x ∧ x < w6.heap.size + 1) w6.heap.size v40 D0 D0) w11) := H4G0.out.blw hb
    replace H5 : Hid (St (fun x => w6.heap.size + 1 ≤ x ∧ x < w8.heap.size + 1) (BBG (fun x => w6.heap.size + 1 ≤ x ∧ x < w8.heap.size + 1) w8.heap.size v5 R5 R5) w11) := H5.out.blw hb
    replace HB : Hid (Blw w w11) := HB.out.trans hb
    clear hb row hlt
    go_wp2_with fail
    refine (eqInsS_same _ _ _ _ np F _ (H4P.out.out.at) C6.out).mono ?_
    rintro e w12 ⟨rfl, hb⟩
    replace HP : Hid (St (fun x => x < w.heap.size) (fun W => KAt 3 (fun x => x < w.heap.size) W ap np F) w12) := HP.out.blw hb
    replace HG0 : Hid (St (fun x => x < w.heap.size + 1) (ArgG w.heap.size w.heap.size g0 D0) w12) := HG0.out.blw hb
    replace H3 : Hid (St (fun x => x < w4.heap.size) (ArgG w4.heap.size z3 v3 R5) w12) := H3.out.blw hb
    replace H4P : Hid (St (fun x => w4.heap.size ≤ x ∧ x < w5.heap.size) (fun W => KOwn 3 (fun x => w4.heap.size ≤ x ∧ x < w5.heap.size) W (some ⟨w4.heap.size, 0, none⟩) np F) w12) := H4P.out.blw hb
    replace H4G0 : Hid (St (fun x => w5.heap.size ≤ x ∧ x < w6.heap.size + 1) (BBG (fun x => w5.heap.size ≤ x ∧ x < w6.heap.size + 1) w6.heap.size v40 D0 D0) w12) := H4G0.out.blw hb
    replace H5 : Hid (St (fun x => w6.heap.size + 1 ≤ x ∧ x < w8.heap.size + 1) (BBG (fun x => w6.heap.size + 1 ≤ x ∧ x < w8.heap.size + 1) w8.heap.size v5 R5 R5) w12) := H5.out.blw hb
    replace HB : Hid (Blw w w12) := HB.out.trans hb
    clear hb C6
    go_upto_region 16 with fail
    go_cut [77] from 73 to 77 (fun c wx => c = .bool false ∧ Blw w12 wx)
    case first =>
      have A0 : ∀ w', Blw w12 w' → w'.cell? ⟨w.heap.size, 0, none⟩ = some (.int .i64 D0.at_) := fun w' hh => (get5 (HG0.out.blw hh).out.box).1
      have A1 : ∀ w', Blw w12 w' → w'.cell? ⟨w.heap.size, 1, none⟩ = some (.int .i64 D0.acc) := fun w' hh => (get5 (HG0.out.blw hh).out.box).2.1
      have A2 : ∀ w', Blw w12 w' → w'.cell? ⟨w.heap.size, 2, none⟩ = some (.slice g0.a1 D0.nc g0.c1) := fun w' hh => (get5 (HG0.out.blw hh).out.box).2.2.1
      have A3 : ∀ w', Blw w12 w' → w'.cell? ⟨w.heap.size, 3, none⟩ = some (.slice g0.a2 D0.nt g0.c2) := fun w' hh => (get5 (HG0.out.blw hh).out.box).2.2.2.1
      have A4 : ∀ w', Blw w12 w' → w'.cell? ⟨w.heap.size, 4, none⟩ = some (.bool D0.d) := fun w' hh => (get5 (HG0.out.blw hh).out.box).2.2.2.2
      have B0 : ∀ w', Blw w12 w' → w'.cell? ⟨w6.heap.size, 0, none⟩ = some (.int .i64 D0.at_) := fun w' hh => (get5 (H4G0.out.blw hh).out.box).1
      have B1 : ∀ w', Blw w12 w' → w'.cell? ⟨w6.heap.size, 1, none⟩ = some (.int .i64 D0.acc) := fun w' hh => (get5 (H4G0.out.blw hh).out.box).2.1
      have B2 : ∀ w', Blw w12 w' → w'.cell? ⟨w6.heap.size, 2, none⟩ = some (.slice v40.a1 D0.nc v40.c1) := fun w' hh => (get5 (H4G0.out.blw hh).out.box).2.2.1
      have B3 : ∀ w', Blw w12 w' → w'.cell? ⟨w6.heap.size, 3, none⟩ = some (.slice v40.a2 D0.nt v40.c2) := fun w' hh => (get5 (H4G0.out.blw hh).out.box).2.2.2.1
      have B4 : ∀ w', Blw w12 w' → w'.cell? ⟨w6.heap.size, 4, none⟩ = some (.bool D0.d) := fun w' hh => (get5 (H4G0.out.blw hh).out.box).2.2.2.2
      go_region_held3 (fun w' => Blw w12 w') ((first | exact (Blw.refl _).drew | assumption | exact Blw.trans (by assumption) (by assumption))) (first
        | (go_at_call 72; refine (toGuest_any g0 D0 _ _ SM0.out (HG0.out.blw (by assumption)).out.at_).mono ?_; rintro e w70 ⟨v6, rfl, o6, hb7⟩)
        | (go_at_call 73; refine (eqGuest_same v40 v6 D0 _ (H4G0.out.blw (by assumption)).out.own.at o6.at).mono ?_; rintro e w80 ⟨rfl, hb8⟩))
      all_goals go_wp2_with fail
      all_goals go_meet
      all_goals exact ⟨rfl, by assumption⟩
    case rest =>
      obtain ⟨rfl, hb⟩ := hcut
      replace HP : Hid (St (fun x => x < w.heap.size) (fun W => KAt 3 (fun x => x < w.heap.size) W ap np F) wc) := HP.out.blw hb
      replace HG0 : Hid (St (fun x => x < w.heap.size + 1) (ArgG w.heap.size w.heap.size g0 D0) wc) := HG0.out.blw hb
      replace H3 : Hid (St (fun x => x < w4.heap.size) (ArgG w4.heap.size z3 v3 R5) wc) := H3.out.blw hb
      replace H4P : Hid (St (fun x => w4.heap.size ≤ x ∧ x < w5.heap.size) (fun W => KOwn 3 (fun x => w4.heap.size ≤ x ∧ x < w5.heap.size) W (some ⟨w4.heap.size, 0, none⟩) np F) wc) := H4P.out.blw hb
      replace H4G0 : Hid (St (fun x => w5.heap.size ≤ x ∧ x < w6.heap.size + 1) (BBG (fun x => w5.heap.size ≤ x ∧ x < w6.heap.size + 1) w6.heap.size v40 D0 D0) wc) := H4G0.out.blw hb
      replace H5 : Hid (St (fun x => w6.heap.size + 1 ≤ x ∧ x < w8.heap.size + 1) (BBG (fun x => w6.heap.size + 1 ≤ x ∧ x < w8.heap.size + 1) w8.heap.size v5 R5 R5) wc) := H5.out.blw hb
      replace HB : Hid (Blw w wc) := HB.out.trans hb
      clear hb
      generalize wc = w13 at *
      go_wp2_with fail
      refine (markInsS_any _ np np F _ (1) _ (by omega) (by omega) H4P.out.out).mono ?_
      rintro e w14 ⟨rfl, own, hm⟩
      have s4 := hm.size
      replace HP : Hid (St (fun x => x < w.heap.size) (fun W => KAt 3 (fun x => x < w.heap.size) W ap np F) w14) := HP.out.mod hm (fun x hx hz => by have o0 := HN0.out; have o1 := HN1.out; have o2 := HN2.out; have o3 := HN3.out; have o4 := HN4.out; have o5 := HN5.out; have hz' : w4.heap.size ≤ x ∧ x < w5.heap.size := hz; have hx' : x < w.heap.size := hx; omega)
      replace HG0 : Hid (St (fun x => x < w.heap.size + 1) (ArgG w.heap.size w.heap.size g0 D0) w14) := HG0.out.mod hm (fun x hx hz => by have o0 := HN0.out; have o1 := HN1.out; have o2 := HN2.out; have o3 := HN3.out; have o4 := HN4.out; have o5 := HN5.out; have hz' : w4.heap.size ≤ x ∧ x < w5.heap.size := hz; have hx' : x < w.heap.size + 1 := hx; omega)
      replace H3 : Hid (St (fun x => x < w4.heap.size) (ArgG w4.heap.size z3 v3 R5) w14) := H3.out.mod hm (fun x hx hz => by have o0 := HN0.out; have o1 := HN1.out; have o2 := HN2.out; have o3 := HN3.out; have o4 := HN4.out; have o5 := HN5.out; have hz' : w4.heap.size ≤ x ∧ x < w5.heap.size := hz; have hx' : x < w4.heap.size := hx; omega)
      replace H4G0 : Hid (St (fun x => w5.heap.size ≤ x ∧ x < w6.heap.size + 1) (BBG (fun x => w5.heap.size ≤ x ∧ x < w6.heap.size + 1) w6.heap.size v40 D0 D0) w14) := H4G0.out.mod hm (fun x hx hz => by have o0 := HN0.out; have o1 := HN1.out; have o2 := HN2.out; have o3 := HN3.out; have o4 := HN4.out; have o5 := HN5.out; have hz' : w4.heap.size ≤ x ∧ x < w5.heap.size := hz; have hx' : w5.heap.size ≤ x ∧ x < w6.heap.size + 1 := hx; omega)
      replace H5 : Hid (St (fun x => w6.heap.size + 1 ≤ x ∧ x < w8.heap.size + 1) (BBG (fun x => w6.heap.size + 1 ≤ x ∧ x < w8.heap.size + 1) w8.heap.size v5 R5 R5) w14) := H5.out.mod hm (fun x hx hz => by have o0 := HN0.out; have o1 := HN1.out; have o2 := HN2.out; have o3 := HN3.out; have o4 := HN4.out; have o5 := HN5.out; have hz' : w4.heap.size ≤ x ∧ x < w5.heap.size := hz; have hx' : w6.heap.size + 1 ≤ x ∧ x < w8.heap.size + 1 := hx; omega)
      replace HB : Hid (Blw w w14) := Mod.blw HB.out hm (fun x hz => by have o0 := HN0.out; have o1 := HN1.out; have o2 := HN2.out; have o3 := HN3.out; have o4 := HN4.out; have o5 := HN5.out; have hz' : w4.heap.size ≤ x ∧ x < w5.heap.size := hz; omega)
      replace H4P : Hid (St (fun x => w4.heap.size ≤ x ∧ x < w5.heap.size) (fun W => KOwn 3 (fun x => w4.heap.size ≤ x ∧ x < w5.heap.size) W (some ⟨w4.heap.size, 0, none⟩) np (mkK 3 (1))) w14) := KOwn.st own (fun x hx => Nat.lt_of_lt_of_le (H4P.out.1 x hx) s4)
      clear own hm s4
      have htM0 : D0.total ≤ 1048576 := SM0.out
      obtain ⟨p00, p01, p02, p03, p04⟩ := get5 H4G0.out.out.box
      go_wp2_with fail
      clear p00 p01 p02 p03 p04
      refine (markGuest_any v40 D0 _ (1 + 3 * (np : Int)) _ SM0.out (by omega) (by omega) (fun x hx => H4G0.out.1 x hx.1) H4G0.out.out.own).mono ?_
      rintro e w15 ⟨rfl, own, hm⟩
      have bx4 := H4G0.out.out.box.mod hm (fun hh => hh.2 rfl)
      have s4 := hm.size
      replace HP : Hid (St (fun x => x < w.heap.size) (fun W => KAt 3 (fun x => x < w.heap.size) W ap np F) w15) := HP.out.mod hm (fun x hx hz => by have o0 := HN0.out; have o1 := HN1.out; have o2 := HN2.out; have o3 := HN3.out; have o4 := HN4.out; have o5 := HN5.out; have hz' : w5.heap.size ≤ x ∧ x < w6.heap.size + 1 := hz.1; have hx' : x < w.heap.size := hx; omega)
      replace HG0 : Hid (St (fun x => x < w.heap.size + 1) (ArgG w.heap.size w.heap.size g0 D0) w15) := HG0.out.mod hm (fun x hx hz => by have o0 := HN0.out; have o1 := HN1.out; have o2 := HN2.out; have o3 := HN3.out; have o4 := HN4.out; have o5 := HN5.out; have hz' : w5.heap.size ≤ x ∧ x < w6.heap.size + 1 := hz.1; have hx' : x < w.heap.size + 1 := hx; omega)
      replace H3 : Hid (St (fun x => x < w4.heap.size) (ArgG w4.heap.size z3 v3 R5) w15) := H3.out.mod hm (fun x hx hz => by have o0 := HN0.out; have o1 := HN1.out; have o2 := HN2.out; have o3 := HN3.out; have o4 := HN4.out; have o5 := HN5.out; have hz' : w5.heap.size ≤ x ∧ x < w6.heap.size + 1 := hz.1; have hx' : x < w4.heap.size := hx; omega)
      replace H4P : Hid (St (fun x => w4.heap.size ≤ x ∧ x < w5.heap.size) (fun W => KOwn 3 (fun x => w4.heap.size ≤ x ∧ x < w5.heap.size) W (some ⟨w4.heap.size, 0, none⟩) np (mkK 3 (1))) w15) := H4P.out.mod hm (fun x hx hz => by have o0 := HN0.out; have o1 := HN1.out; have o2 := HN2.out; have o3 := HN3.out; have o4 := HN4.out; have o5 := HN5.out; have hz' : w5.heap.size ≤ x ∧ x < w6.heap.size + 1 := hz.1; have hx' : w4.heap.size ≤ x ∧ x < w5.heap.size := hx; omega)
      replace H5 : Hid (St (fun x => w6.heap.size + 1 ≤ x ∧ x < w8.heap.size + 1) (BBG (fun x => w6.heap.size + 1 ≤ x ∧ x < w8.heap.size + 1) w8.heap.size v5 R5 R5) w15) := H5.out.mod hm (fun x hx hz => by have o0 := HN0.out; have o1 := HN1.out; have o2 := HN2.out; have o3 := HN3.out; have o4 := HN4.out; have o5 := HN5.out; have hz' : w5.heap.size ≤ x ∧ x < w6.heap.size + 1 := hz.1; have hx' : w6.heap.size + 1 ≤ x ∧ x < w8.heap.size + 1 := hx; omega)
      replace HB : Hid (Blw w w15) := Mod.blw HB.out hm (fun x hz => by have o0 := HN0.out; have o1 := HN1.out; have o2 := HN2.out; have o3 := HN3.out; have o4 := HN4.out; have o5 := HN5.out; have hz' : w5.heap.size ≤ x ∧ x < w6.heap.size + 1 := hz.1; omega)
      replace H4G0 : Hid (St (fun x => w5.heap.size ≤ x ∧ x < w6.heap.size + 1) (BBG (fun x => w5.heap.size ≤ x ∧ x < w6.heap.size + 1) w6.heap.size v40 D0 (D0.marked (1 + 3 * (np : Int)))) w15) := BBG.st ⟨own, bx4⟩ (by have o0 := HN0.out; have o1 := HN1.out; have o2 := HN2.out; have o3 := HN3.out; have o4 := HN4.out; have o5 := HN5.out; exact (by omega : w5.heap.size ≤ w6.heap.size ∧ w6.heap.size < w6.heap.size + 1)) (fun x hx => Nat.lt_of_lt_of_le (H4G0.out.1 x hx) s4)
      clear own hm bx4 s4
      have k1 : ¬ (1 + 3 * (np : Int) + (D0.total : Int) < 0) := by omega
      obtain ⟨p00, p01, p02, p03, p04⟩ := get5 H5.out.out.box
      obtain ⟨p10, p11, p12, p13, p14⟩ := get5 H3.out.out.box
      go_wp2_with fail
      clear p00 p01 p02 p03 p04 p10 p11 p12 p13 p14
      refine (eqGuest_same v5 v3 R5 _ H5.out.out.own.at H3.out.out.at_).mono ?_
      rintro e w16 ⟨rfl, hb⟩
      replace HP : Hid (St (fun x => x < w.heap.size) (fun W => KAt 3 (fun x => x < w.heap.size) W ap np F) w16) := HP.out.blw hb
      replace HG0 : Hid (St (fun x => x < w.heap.size + 1) (ArgG w.heap.size w.heap.size g0 D0) w16) := HG0.out.blw hb
      replace H3 : Hid (St (fun x => x < w4.heap.size) (ArgG w4.heap.size z3 v3 R5) w16) := H3.out.blw hb
      replace H4P : Hid (St (fun x => w4.heap.size ≤ x ∧ x < w5.heap.size) (fun W => KOwn 3 (fun x => w4.heap.size ≤ x ∧ x < w5.heap.size) W (some ⟨w4.heap.size, 0, none⟩) np (mkK 3 (1))) w16) := H4P.out.blw hb
      replace H4G0 : Hid (St (fun x => w5.heap.size ≤ x ∧ x < w6.heap.size + 1) (BBG (fun x => w5.heap.size ≤ x ∧ x < w6.heap.size + 1) w6.heap.size v40 D0 (D0.marked (1 + 3 * (np : Int)))) w16) := H4G0.out.blw hb
      replace H5 : Hid (St (fun x => w6.heap.size + 1 ≤ x ∧ x < w8.heap.size + 1) (BBG (fun x => w6.heap.size + 1 ≤ x ∧ x < w8.heap.size + 1) w8.heap.size v5 R5 R5) w16) := H5.out.blw hb
      replace HB : Hid (Blw w w16) := HB.out.trans hb
      clear hb
      clear k1
      have htR : R5.total ≤ 1048576 := HSR.out
      obtain ⟨p00, p01, p02, p03, p04⟩ := get5 H5.out.out.box
      go_wp2_with fail
      clear p00 p01 p02 p03 p04
      refine (markGuest_any v5 R5 _ 1 _ HSR.out (by omega) (by omega) (fun x hx => H5.out.1 x hx.1) H5.out.out.own).mono ?_
      rintro e w17 ⟨rfl, own, hm⟩
      have bx5 := H5.out.out.box.mod hm (fun hh => hh.2 rfl)
      have s4 := hm.size
      replace HP : Hid (St (fun x => x < w.heap.size) (fun W => KAt 3 (fun x => x < w.heap.size) W ap np F) w17) := HP.out.mod hm (fun x hx hz => by have o0 := HN0.out; have o1 := HN1.out; have o2 := HN2.out; have o3 := HN3.out; have o4 := HN4.out; have o5 := HN5.out; have hz' : w6.heap.size + 1 ≤ x ∧ x < w8.heap.size + 1 := hz.1; have hx' : x < w.heap.size := hx; omega)
      replace HG0 : Hid (St (fun x => x < w.heap.size + 1) (ArgG w.heap.size w.heap.size g0 D0) w17) := HG0.out.mod hm (fun x hx hz => by have o0 := HN0.out; have o1 := HN1.out; have o2 := HN2.out; have o3 := HN3.out; have o4 := HN4.out; have o5 := HN5.out; have hz' : w6.heap.size + 1 ≤ x ∧ x < w8.heap.size + 1 := hz.1; have hx' : x < w.heap.size + 1 := hx; omega)
      replace H3 : Hid (St (fun x => x < w4.heap.size) (ArgG w4.heap.size z3 v3 R5) w17) := H3.out.mod hm (fun x hx hz => by have o0 := HN0.out; have o1 := HN1.out; have o2 := HN2.out; have o3 := HN3.out; have o4 := HN4.out; have o5 := HN5.out; have hz' : w6.heap.size + 1 ≤ x ∧ x < w8.heap.size + 1 := hz.1; have hx' : x < w4.heap.size := hx; omega)
      replace H4P : Hid (St (fun x => w4.heap.size ≤ x ∧ x < w5.heap.size) (fun W => KOwn 3 (fun x => w4.heap.size ≤ x ∧ x < w5.heap.size) W (some ⟨w4.heap.size, 0, none⟩) np (mkK 3 (1))) w17) := H4P.out.mod hm (fun x hx hz => by have o0 := HN0.out; have o1 := HN1.out; have o2 := HN2.out; have o3 := HN3.out; have o4 := HN4.out; have o5 := HN5.out; have hz' : w6.heap.size + 1 ≤ x ∧ x < w8.heap.size + 1 := hz.1; have hx' : w4.heap.size ≤ x ∧ x < w5.heap.size := hx; omega)
      replace H4G0 : Hid (St (fun x => w5.heap.size ≤ x ∧ x < w6.heap.size + 1) (BBG (fun x => w5.heap.size ≤ x ∧ x < w6.heap.size + 1) w6.heap.size v40 D0 (D0.marked (1 + 3 * (np : Int)))) w17) := H4G0.out.mod hm (fun x hx hz => by have o0 := HN0.out; have o1 := HN1.out; have o2 := HN2.out; have o3 := HN3.out; have o4 := HN4.out; have o5 := HN5.out; have hz' : w6.heap.size + 1 ≤ x ∧ x < w8.heap.size + 1 := hz.1; have hx' : w5.heap.size ≤ x ∧ x < w6.heap.size + 1 := hx; omega)
      replace HB : Hid (Blw w w17) := Mod.blw HB.out hm (fun x hz => by have o0 := HN0.out; have o1 := HN1.out; have o2 := HN2.out; have o3 := HN3.out; have o4 := HN4.out; have o5 := HN5.out; have hz' : w6.heap.size + 1 ≤ x ∧ x < w8.heap.size + 1 := hz.1; omega)
      replace H5 : Hid (St (fun x => w6.heap.size + 1 ≤ x ∧ x < w8.heap.size + 1) (BBG (fun x => w6.heap.size + 1 ≤ x ∧ x < w8.heap.size + 1) w8.heap.size v5 R5 (R5.marked 1)) w17) := BBG.st ⟨own, bx5⟩ (by have o0 := HN0.out; have o1 := HN1.out; have o2 := HN2.out; have o3 := HN3.out; have o4 := HN4.out; have o5 := HN5.out; exact (by omega : w6.heap.size + 1 ≤ w8.heap.size ∧ w8.heap.size < w8.heap.size + 1)) (fun x hx => Nat.lt_of_lt_of_le (H5.out.1 x hx) s4)
      clear own hm bx5 s4
      have k1 : ¬ (1 + (R5.total : Int) < 0) := by omega
      have k2 : ((1 + (R5.total : Int)) != (1 + (R5.total : Int))) = false := by simp
      obtain ⟨p00, p01, p02, p03, p04⟩ := get5 H5.out.out.box
      go_wp2_with fail
      clear p00 p01 p02 p03 p04
      refine (heldGuest_any v5 R5 _ 1 _ HSR.out (by omega) (by omega) H5.out.out.own).mono ?_
      rintro e w18 ⟨rfl, hb⟩
      replace HP : Hid (St (fun x => x < w.heap.size) (fun W => KAt 3 (fun x => x < w.heap.size) W ap np F) w18) := HP.out.blw hb
      replace HG0 : Hid (St (fun x => x < w.heap.size + 1) (ArgG w.heap.size w.heap.size g0 D0) w18) := HG0.out.blw hb
      replace H3 : Hid (St (fun x => x < w4.heap.size) (ArgG w4.heap.size z3 v3 R5) w18) := H3.out.blw hb
      replace H4P : Hid (St (fun x => w4.heap.size ≤ x ∧ x < w5.heap.size) (fun W => KOwn 3 (fun x => w4.heap.size ≤ x ∧ x < w5.heap.size) W (some ⟨w4.heap.size, 0, none⟩) np (mkK 3 (1))) w18) := H4P.out.blw hb
      replace H4G0 : Hid (St (fun x => w5.heap.size ≤ x ∧ x < w6.heap.size + 1) (BBG (fun x => w5.heap.size ≤ x ∧ x < w6.heap.size + 1) w6.heap.size v40 D0 (D0.marked (1 + 3 * (np : Int)))) w18) := H4G0.out.blw hb
      replace H5 : Hid (St (fun x => w6.heap.size + 1 ≤ x ∧ x < w8.heap.size + 1) (BBG (fun x => w6.heap.size + 1 ≤ x ∧ x < w8.heap.size + 1) w8.heap.size v5 R5 (R5.marked 1)) w18) := H5.out.blw hb
      replace HB : Hid (Blw w w18) := HB.out.trans hb
      clear hb
      go_upto_region 31 with fail
      go_cut [19, 20, 21] from 19 to 122 (fun c0 c1 c2 wx => DrGn w18 (rgOut np F D0 k) c0 c1 c2 wx)
      case first =>
        have HBW : Hid (Blw w18 w18.drew) := (Blw.refl _).drew
        refine wp_region_noPanic ?_
        refine wp_region_held_drew (S := fun w' => w'.cell? ⟨w.heap.size, 0, none⟩ = some (.int .i64 D0.at_) ∧ w'.cell? ⟨w.heap.size, 1, none⟩ = some (.int .i64 D0.acc) ∧ w'.cell? ⟨w.heap.size, 2, none⟩ = some (.slice g0.a1 D0.nc g0.c1) ∧ w'.cell? ⟨w.heap.size, 3, none⟩ = some (.slice g0.a2 D0.nt g0.c2) ∧ w'.cell? ⟨w.heap.size, 4, none⟩ = some (.bool D0.d)) (by kernel_rfl) ⟨(get5 (HG0.out.blw HBW.out).out.box).1, (get5 (HG0.out.blw HBW.out).out.box).2.1, (get5 (HG0.out.blw HBW.out).out.box).2.2.1, (get5 (HG0.out.blw HBW.out).out.box).2.2.2.1, (get5 (HG0.out.blw HBW.out).out.box).2.2.2.2⟩ (fun hB => ?_)
        clear hB
        generalize w18.drew = wd at *
        refine wpAnyH_take (i := 0) (oi := { dst := some 114, op := Op.move (Operand.tmp 0), type := 89, pos := _, after := #[], guard := none }) (v := (.slice ap np cp)) rfl (by kernel_rfl) (by kernel_rfl) (by kernel_rfl) (fun _ _ _ h => h) (Or.inl ⟨by rfl, fun w' hS => by (try dsimp only at hS); go_simp⟩) ⟨(get5 (HG0.out.blw HBW.out).out.box).1, (get5 (HG0.out.blw HBW.out).out.box).2.1, (get5 (HG0.out.blw HBW.out).out.box).2.2.1, (get5 (HG0.out.blw HBW.out).out.box).2.2.2.1, (get5 (HG0.out.blw HBW.out).out.box).2.2.2.2⟩ ?_
        simp only [Act.put, List.setIfInBounds_toArray, List.set_cons_zero, List.set_cons_succ]
        refine wpAnyH_take (i := 2) (oi := { dst := some 116, op := Op.load 94 (Operand.tmp 4), type := 94, pos := _, after := #[], guard := none }) (v := (GV.val g0 D0)) rfl (by kernel_rfl) (by kernel_rfl) (by kernel_rfl) (fun _ _ _ h => h) (Or.inl ⟨by rfl, fun w' hS => by (try dsimp only at hS); go_simp⟩) ⟨(get5 (HG0.out.blw HBW.out).out.box).1, (get5 (HG0.out.blw HBW.out).out.box).2.1, (get5 (HG0.out.blw HBW.out).out.box).2.2.1, (get5 (HG0.out.blw HBW.out).out.box).2.2.2.1, (get5 (HG0.out.blw HBW.out).out.box).2.2.2.2⟩ ?_
        simp only [Act.put, List.setIfInBounds_toArray, List.set_cons_zero, List.set_cons_succ]
        refine wpAnyH_take (i := 4) (oi := { dst := some 118, op := Op.move (Operand.tmp 2), type := 3, pos := _, after := #[], guard := none }) (v := (.int .i64 k)) rfl (by kernel_rfl) (by kernel_rfl) (by kernel_rfl) (fun _ _ _ h => h) (Or.inl ⟨by rfl, fun w' hS => by (try dsimp only at hS); go_simp⟩) ⟨(get5 (HG0.out.blw HBW.out).out.box).1, (get5 (HG0.out.blw HBW.out).out.box).2.1, (get5 (HG0.out.blw HBW.out).out.box).2.2.1, (get5 (HG0.out.blw HBW.out).out.box).2.2.2.1, (get5 (HG0.out.blw HBW.out).out.box).2.2.2.2⟩ ?_
        simp only [Act.put, List.setIfInBounds_toArray, List.set_cons_zero, List.set_cons_succ]
        refine wpAnyH_ready (rs := [1, 10]) (by kernel_rfl) (by simp) ?_
        refine AllReadyH.cons (o := { dst := some 115, op := Op.call { callee := Callee.value (Operand.func 69), args := #[Operand.tmp 114], argTypes := #[89] }, type := 59, pos := _, after := #[{ on := 0, ground := Ground.data }], guard := none }) rfl (fun K hK => ?_) (AllReadyH.cons (o := { dst := some 19, op := Op.alloc 61, type := 0, pos := _, after := #[], guard := none }) rfl (fun K hK => ?_) AllReadyH.nil)
        · go_simp
          refine (toInsS_any ap cp np F _ _ hnp2 (HP.out.blw HBW.out).out).mono ?_
          rintro e x1 ⟨rfl, row, hb⟩
          have hlt := row.lt
          have HN_ : Hid (KAt 3 (fun x => x < x1.heap.size) x1 (some ⟨wd.heap.size, 0, none⟩) np F) := (kown3 row (by omega) (X := fun x => x < x1.heap.size) hlt).at
          clear row hlt
          replace HBW : Hid (Blw w18 x1) := HBW.out.trans hb
          have HC0 := HN_
          clear HN_ hb
          refine hK.out _ _ ⟨(get5 (HG0.out.blw HBW.out).out.box).1, (get5 (HG0.out.blw HBW.out).out.box).2.1, (get5 (HG0.out.blw HBW.out).out.box).2.2.1, (get5 (HG0.out.blw HBW.out).out.box).2.2.2.1, (get5 (HG0.out.blw HBW.out).out.box).2.2.2.2⟩ (fun hB => ?_)
          clear hK K hB
          try simp only [Act.put, List.setIfInBounds_toArray, List.set_cons_zero, List.set_cons_succ]
          refine wpAnyH_ready (rs := [3, 10]) (by kernel_rfl) (by simp) ?_
          refine AllReadyH.cons (o := { dst := some 117, op := Op.call { callee := Callee.value (Operand.func 72), args := #[Operand.tmp 116], argTypes := #[94] }, type := 61, pos := _, after := #[{ on := 2, ground := Ground.data }, { on := 1, ground := Ground.chain }], guard := none }) rfl (fun K hK => ?_) (AllReadyH.cons (o := { dst := some 19, op := Op.alloc 61, type := 0, pos := _, after := #[], guard := none }) rfl (fun K hK => ?_) AllReadyH.nil)
          · go_simp
            refine (toGuest_any g0 D0 _ _ SM0.out (HG0.out.blw HBW.out).out.at_).mono ?_
            rintro e x2 ⟨y1, rfl, own, hb⟩
            have HN_ : Hid (GAt (fun x => x < x2.heap.size) x2 y1 D0) := own.at.mono (fun x hx => hx.2)
            clear own
            replace HBW : Hid (Blw w18 x2) := HBW.out.trans hb
            replace HC0 : Hid (KAt 3 (fun x => x < x2.heap.size) x2 (some ⟨wd.heap.size, 0, none⟩) np F) := (HC0.out.blw hb).mono (fun x hx => Nat.lt_of_lt_of_le hx hb.size)
            have HC1 := HN_
            clear HN_ hb
            refine hK.out _ _ ⟨(get5 (HG0.out.blw HBW.out).out.box).1, (get5 (HG0.out.blw HBW.out).out.box).2.1, (get5 (HG0.out.blw HBW.out).out.box).2.2.1, (get5 (HG0.out.blw HBW.out).out.box).2.2.2.1, (get5 (HG0.out.blw HBW.out).out.box).2.2.2.2⟩ (fun hB => ?_)
            clear hK K hB
            try simp only [Act.put, List.setIfInBounds_toArray, List.set_cons_zero, List.set_cons_succ]
            refine wpAnyH_ready (rs := [5, 10]) (by kernel_rfl) (by simp) ?_
            refine AllReadyH.cons (o := { dst := some 119, op := Op.call { callee := Callee.value (Operand.func 38), args := #[Operand.tmp 115, Operand.tmp 117, Operand.tmp 118], argTypes := #[59, 61, 3] }, type := 64, pos := _, after := #[{ on := 1, ground := Ground.data }, { on := 3, ground := Ground.data }, { on := 4, ground := Ground.data }, { on := 3, ground := Ground.chain }], guard := none }) rfl (fun K hK => ?_) (AllReadyH.cons (o := { dst := some 19, op := Op.alloc 61, type := 0, pos := _, after := #[], guard := none }) rfl (fun K hK => ?_) AllReadyH.nil)
            · go_simp
              refine (implRun_any _ _ np F y1 D0 k _ _ _ HC0.out HC1.out (fun x hx => hx)).mono ?_
              rintro e x3 ⟨va, Ra, xa, ba, rfl, ho, hs, own, hb⟩
              replace HBW : Hid (Blw w18 x3) := HBW.out.trans hb
              replace HC0 : Hid (KAt 3 (fun x => x < x3.heap.size) x3 (some ⟨wd.heap.size, 0, none⟩) np F) := (HC0.out.blw hb).mono (fun x hx => Nat.lt_of_lt_of_le hx hb.size)
              replace HC1 : Hid (GAt (fun x => x < x3.heap.size) x3 y1 D0) := (HC1.out.blw hb).mono (fun x hx => Nat.lt_of_lt_of_le hx hb.size)
              have HAN : Hid (GAt (fun x => x2.heap.size ≤ x ∧ x < x3.heap.size) x3 va Ra) := own.at
              have HOS : Hid (rgOut np F D0 k Ra xa ba ∧ Ra.small) := ⟨ho, hs⟩
              have HAU : Hid (x3.heap.size ≤ x3.heap.size) := Nat.le_refl _
              clear ho hb hs own
              refine hK.out _ _ ⟨(get5 (HG0.out.blw HBW.out).out.box).1, (get5 (HG0.out.blw HBW.out).out.box).2.1, (get5 (HG0.out.blw HBW.out).out.box).2.2.1, (get5 (HG0.out.blw HBW.out).out.box).2.2.2.1, (get5 (HG0.out.blw HBW.out).out.box).2.2.2.2⟩ (fun hB => ?_)
              clear hK K hB
              try simp only [Act.put, List.setIfInBounds_toArray, List.set_cons_zero, List.set_cons_succ]
              refine wpAnyH_take (i := 6) (oi := { dst := some 113, op := Op.move (Operand.tmp 119), type := 64, pos := _, after := #[{ on := 5, ground := Ground.data }], guard := none }) (v := (.tuple #[GV.val va Ra, .int .i64 xa, .bool ba])) rfl (by kernel_rfl) (by kernel_rfl) (by kernel_rfl) (fun _ _ _ h => h) (Or.inl ⟨by rfl, fun w' hS => by (try dsimp only at hS); go_simp⟩) ⟨(get5 (HG0.out.blw HBW.out).out.box).1, (get5 (HG0.out.blw HBW.out).out.box).2.1, (get5 (HG0.out.blw HBW.out).out.box).2.2.1, (get5 (HG0.out.blw HBW.out).out.box).2.2.2.1, (get5 (HG0.out.blw HBW.out).out.box).2.2.2.2⟩ ?_
              simp only [Act.put, List.setIfInBounds_toArray, List.set_cons_zero, List.set_cons_succ]
              refine wpAnyH_take (i := 7) (oi := { dst := some 120, op := Op.extract (Operand.tmp 113) 0, type := 61, pos := _, after := #[{ on := 6, ground := Ground.data }], guard := none }) (v := (GV.val va Ra)) rfl (by kernel_rfl) (by kernel_rfl) (by kernel_rfl) (fun _ _ _ h => h) (Or.inl ⟨by rfl, fun w' hS => by (try dsimp only at hS); go_simp⟩) ⟨(get5 (HG0.out.blw HBW.out).out.box).1, (get5 (HG0.out.blw HBW.out).out.box).2.1, (get5 (HG0.out.blw HBW.out).out.box).2.2.1, (get5 (HG0.out.blw HBW.out).out.box).2.2.2.1, (get5 (HG0.out.blw HBW.out).out.box).2.2.2.2⟩ ?_
              simp only [Act.put, List.setIfInBounds_toArray, List.set_cons_zero, List.set_cons_succ]
              refine wpAnyH_take (i := 8) (oi := { dst := some 121, op := Op.extract (Operand.tmp 113) 1, type := 3, pos := _, after := #[{ on := 6, ground := Ground.data }, { on := 11, ground := Ground.gcOnly Departure.lateStores }], guard := none }) (v := (.int .i64 xa)) rfl (by kernel_rfl) (by kernel_rfl) (by kernel_rfl) (fun _ _ _ h => h) (Or.inl ⟨by rfl, fun w' hS => by (try dsimp only at hS); go_simp⟩) ⟨(get5 (HG0.out.blw HBW.out).out.box).1, (get5 (HG0.out.blw HBW.out).out.box).2.1, (get5 (HG0.out.blw HBW.out).out.box).2.2.1, (get5 (HG0.out.blw HBW.out).out.box).2.2.2.1, (get5 (HG0.out.blw HBW.out).out.box).2.2.2.2⟩ ?_
              simp only [Act.put, List.setIfInBounds_toArray, List.set_cons_zero, List.set_cons_succ]
              refine wpAnyH_take (i := 9) (oi := { dst := some 122, op := Op.extract (Operand.tmp 113) 2, type := 4, pos := _, after := #[{ on := 6, ground := Ground.data }, { on := 12, ground := Ground.gcOnly Departure.lateStores }], guard := none }) (v := (.bool ba)) rfl (by kernel_rfl) (by kernel_rfl) (by kernel_rfl) (fun _ _ _ h => h) (Or.inl ⟨by rfl, fun w' hS => by (try dsimp only at hS); go_simp⟩) ⟨(get5 (HG0.out.blw HBW.out).out.box).1, (get5 (HG0.out.blw HBW.out).out.box).2.1, (get5 (HG0.out.blw HBW.out).out.box).2.2.1, (get5 (HG0.out.blw HBW.out).out.box).2.2.2.1, (get5 (HG0.out.blw HBW.out).out.box).2.2.2.2⟩ ?_
              simp only [Act.put, List.setIfInBounds_toArray, List.set_cons_zero, List.set_cons_succ]
              refine wpAnyH_ready (rs := [10]) (by kernel_rfl) (by simp) ?_
              refine AllReadyH.cons (o := { dst := some 19, op := Op.alloc 61, type := 0, pos := _, after := #[], guard := none }) rfl (fun K hK => ?_) AllReadyH.nil
              go_simp
              have hb : Blw x3 (x3.alloc (.cells #[.int .i64 0, .int .i64 0, .slice none 0 0, .slice none 0 0, .bool false] 61)) := (Blw.refl _).alloc _
              have HZB : Hid (Row (x3.alloc (.cells #[.int .i64 0, .int .i64 0, .slice none 0 0, .slice none 0 0, .bool false] 61)) x3.heap.size 5 (fun i => if i = 0 then .int .i64 0 else if i = 1 then .int .i64 0 else if i = 2 then .slice none 0 0 else if i = 3 then .slice none 0 0 else .bool false)) := row5 x3 (.int .i64 0) (.int .i64 0) (.slice none 0 0) (.slice none 0 0) (.bool false) 61
              have HZ1 : Hid (x3.heap.size < (x3.alloc (.cells #[.int .i64 0, .int .i64 0, .slice none 0 0, .slice none 0 0, .bool false] 61)).heap.size) := by show _ < _; simp
              have HZL : Hid (w18.heap.size ≤ x3.heap.size) := HBW.out.size
              have HNZ : Hid (∀ x, (fun x => x2.heap.size ≤ x ∧ x < x3.heap.size) x → x ≠ x3.heap.size) := fun x hx he => by have h9 := HAU.out; have h8 := hx.2; rw [he] at h8; omega
              generalize x3.alloc (.cells #[.int .i64 0, .int .i64 0, .slice none 0 0, .slice none 0 0, .bool false] 61) = x4 at *
              replace HBW : Hid (Blw w18 x4) := HBW.out.trans hb
              replace HC0 : Hid (KAt 3 (fun x => x < x4.heap.size) x4 (some ⟨wd.heap.size, 0, none⟩) np F) := (HC0.out.blw hb).mono (fun x hx => Nat.lt_of_lt_of_le hx hb.size)
              replace HC1 : Hid (GAt (fun x => x < x4.heap.size) x4 y1 D0) := (HC1.out.blw hb).mono (fun x hx => Nat.lt_of_lt_of_le hx hb.size)
              replace HAN : Hid (GAt (fun x => x2.heap.size ≤ x ∧ x < x3.heap.size) x4 va Ra) := HAN.out.blw hb
              replace HAU : Hid (x3.heap.size ≤ x4.heap.size) := Nat.le_trans HAU.out hb.size
              clear hb
              refine hK.out _ _ ⟨(get5 (HG0.out.blw HBW.out).out.box).1, (get5 (HG0.out.blw HBW.out).out.box).2.1, (get5 (HG0.out.blw HBW.out).out.box).2.2.1, (get5 (HG0.out.blw HBW.out).out.box).2.2.2.1, (get5 (HG0.out.blw HBW.out).out.box).2.2.2.2⟩ (fun hB => ?_)
              clear hK K hB
              try simp only [Act.put, List.setIfInBounds_toArray, List.set_cons_zero, List.set_cons_succ]
              refine wpAnyH_ready (rs := [11]) (by kernel_rfl) (by simp) ?_
              refine AllReadyH.cons (o := { dst := none, op := Op.store 61 (Operand.tmp 19) (Operand.tmp 120), type := 0, pos := _, after := #[{ on := 10, ground := Ground.data }, { on := 7, ground := Ground.data }, { on := 5, ground := Ground.chain }, { on := 0, ground := Ground.phase }, { on := 1, ground := Ground.phase }, { on := 2, ground := Ground.phase }, { on := 3, ground := Ground.phase }, { on := 4, ground := Ground.phase }, { on := 5, ground := Ground.phase }, { on := 6, ground := Ground.phase }, { on := 7, ground := Ground.phase }, { on := 8, ground := Ground.textOnly Departure.lateStores }, { on := 9, ground := Ground.textOnly Departure.lateStores }, { on := 10, ground := Ground.phase }], guard := none }) rfl (fun K hK => ?_) AllReadyH.nil
              obtain ⟨t0, t1, t2, t3, t4⟩ := get5 HZB.out
              have f0 := HZB.out.frozen 0
              have f1 := HZB.out.frozen 1
              have f2 := HZB.out.frozen 2
              have f3 := HZB.out.frozen 3
              have f4 := HZB.out.frozen 4
              have m1 := set5_modG x4 x3.heap.size (.int .i64 Ra.at_) (.int .i64 Ra.acc) (.slice va.a1 Ra.nc va.c1) (.slice va.a2 Ra.nt va.c2) (.bool Ra.d) (X := fun x => x = x3.heap.size) rfl
              have m2 := m1.size
              have HFA : Hid (GAt (fun x => x < (((((x4.setCell ⟨x3.heap.size, 0, none⟩ (.int .i64 Ra.at_)).setCell ⟨x3.heap.size, 1, none⟩ (.int .i64 Ra.acc)).setCell ⟨x3.heap.size, 2, none⟩ (.slice va.a1 Ra.nc va.c1)).setCell ⟨x3.heap.size, 3, none⟩ (.slice va.a2 Ra.nt va.c2)).setCell ⟨x3.heap.size, 4, none⟩ (.bool Ra.d)).heap.size) (((((x4.setCell ⟨x3.heap.size, 0, none⟩ (.int .i64 Ra.at_)).setCell ⟨x3.heap.size, 1, none⟩ (.int .i64 Ra.acc)).setCell ⟨x3.heap.size, 2, none⟩ (.slice va.a1 Ra.nc va.c1)).setCell ⟨x3.heap.size, 3, none⟩ (.slice va.a2 Ra.nt va.c2)).setCell ⟨x3.heap.size, 4, none⟩ (.bool Ra.d)) va Ra) := (HAN.out.mod m1 (fun x hx he => HNZ.out x hx he)).mono (fun x hx => Nat.lt_of_lt_of_le (Nat.lt_of_lt_of_le hx.2 HAU.out) m2)
              have HFB : Hid (Row (((((x4.setCell ⟨x3.heap.size, 0, none⟩ (.int .i64 Ra.at_)).setCell ⟨x3.heap.size, 1, none⟩ (.int .i64 Ra.acc)).setCell ⟨x3.heap.size, 2, none⟩ (.slice va.a1 Ra.nc va.c1)).setCell ⟨x3.heap.size, 3, none⟩ (.slice va.a2 Ra.nt va.c2)).setCell ⟨x3.heap.size, 4, none⟩ (.bool Ra.d)) x3.heap.size 5 (gb va Ra)) := set5_all HZB.out _ _ _ _ _
              replace HBW : Hid (Blw w18 (((((x4.setCell ⟨x3.heap.size, 0, none⟩ (.int .i64 Ra.at_)).setCell ⟨x3.heap.size, 1, none⟩ (.int .i64 Ra.acc)).setCell ⟨x3.heap.size, 2, none⟩ (.slice va.a1 Ra.nc va.c1)).setCell ⟨x3.heap.size, 3, none⟩ (.slice va.a2 Ra.nt va.c2)).setCell ⟨x3.heap.size, 4, none⟩ (.bool Ra.d))) := Mod.blw HBW.out m1 (fun i hi => by have h9 := HZL.out; omega)
              clear m1 m2
              go_simp
              refine hK.out _ _ ⟨(get5 (HG0.out.blw HBW.out).out.box).1, (get5 (HG0.out.blw HBW.out).out.box).2.1, (get5 (HG0.out.blw HBW.out).out.box).2.2.1, (get5 (HG0.out.blw HBW.out).out.box).2.2.2.1, (get5 (HG0.out.blw HBW.out).out.box).2.2.2.2⟩ (fun hB => ?_)
              clear hK K hB
              try simp only [Act.put, List.setIfInBounds_toArray, List.set_cons_zero, List.set_cons_succ]
              clear t0 t1 t2 t3 t4 f0 f1 f2 f3 f4
              refine wpAnyH_take (i := 12) (oi := { dst := some 20, op := Op.assign (Operand.tmp 121), type := 3, pos := _, after := #[{ on := 8, ground := Ground.data }, { on := 11, ground := Ground.chain }, { on := 0, ground := Ground.phase }, { on := 1, ground := Ground.phase }, { on := 2, ground := Ground.phase }, { on := 3, ground := Ground.phase }, { on := 4, ground := Ground.phase }, { on := 5, ground := Ground.phase }, { on := 6, ground := Ground.phase }, { on := 7, ground := Ground.phase }, { on := 8, ground := Ground.phase }, { on := 9, ground := Ground.textOnly Departure.lateStores }, { on := 10, ground := Ground.phase }, { on := 11, ground := Ground.phase }], guard := none }) (v := (.int .i64 xa)) rfl (by kernel_rfl) (by kernel_rfl) (by kernel_rfl) (fun _ _ _ h => h) (Or.inl ⟨by rfl, fun w' hS => by (try dsimp only at hS); go_simp⟩) ⟨(get5 (HG0.out.blw HBW.out).out.box).1, (get5 (HG0.out.blw HBW.out).out.box).2.1, (get5 (HG0.out.blw HBW.out).out.box).2.2.1, (get5 (HG0.out.blw HBW.out).out.box).2.2.2.1, (get5 (HG0.out.blw HBW.out).out.box).2.2.2.2⟩ ?_
              simp only [Act.put, List.setIfInBounds_toArray, List.set_cons_zero, List.set_cons_succ]
              refine wpAnyH_take (i := 13) (oi := { dst := some 21, op := Op.assign (Operand.tmp 122), type := 4, pos := _, after := #[{ on := 9, ground := Ground.data }, { on := 12, ground := Ground.chain }, { on := 0, ground := Ground.phase }, { on := 1, ground := Ground.phase }, { on := 2, ground := Ground.phase }, { on := 3, ground := Ground.phase }, { on := 4, ground := Ground.phase }, { on := 5, ground := Ground.phase }, { on := 6, ground := Ground.phase }, { on := 7, ground := Ground.phase }, { on := 8, ground := Ground.phase }, { on := 9, ground := Ground.phase }, { on := 10, ground := Ground.phase }, { on := 11, ground := Ground.phase }, { on := 12, ground := Ground.phase }], guard := none }) (v := (.bool ba)) rfl (by kernel_rfl) (by kernel_rfl) (by kernel_rfl) (fun _ _ _ h => h) (Or.inl ⟨by rfl, fun w' hS => by (try dsimp only at hS); go_simp⟩) ⟨(get5 (HG0.out.blw HBW.out).out.box).1, (get5 (HG0.out.blw HBW.out).out.box).2.1, (get5 (HG0.out.blw HBW.out).out.box).2.2.1, (get5 (HG0.out.blw HBW.out).out.box).2.2.2.1, (get5 (HG0.out.blw HBW.out).out.box).2.2.2.2⟩ ?_
              simp only [Act.put, List.setIfInBounds_toArray, List.set_cons_zero, List.set_cons_succ]
              refine wpAnyH_done (by kernel_rfl) ?_ _
              refine NoPanic.normal ?_
              go_wp2_with fail
              go_meet
              exact ⟨va, Ra, xa, ba, _, rfl, rfl, rfl, HOS.out.1, HOS.out.2, HFA.out, HFB.out, HBW.out⟩
            · go_simp
              have hb : Blw x2 (x2.alloc (.cells #[.int .i64 0, .int .i64 0, .slice none 0 0, .slice none 0 0, .bool false] 61)) := (Blw.refl _).alloc _
              have HZB : Hid (Row (x2.alloc (.cells #[.int .i64 0, .int .i64 0, .slice none 0 0, .slice none 0 0, .bool false] 61)) x2.heap.size 5 (fun i => if i = 0 then .int .i64 0 else if i = 1 then .int .i64 0 else if i = 2 then .slice none 0 0 else if i = 3 then .slice none 0 0 else .bool false)) := row5 x2 (.int .i64 0) (.int .i64 0) (.slice none 0 0) (.slice none 0 0) (.bool false) 61
              have HZ1 : Hid (x2.heap.size < (x2.alloc (.cells #[.int .i64 0, .int .i64 0, .slice none 0 0, .slice none 0 0, .bool false] 61)).heap.size) := by show _ < _; simp
              have HZL : Hid (w18.heap.size ≤ x2.heap.size) := HBW.out.size
              generalize x2.alloc (.cells #[.int .i64 0, .int .i64 0, .slice none 0 0, .slice none 0 0, .bool false] 61) = x3 at *
              replace HBW : Hid (Blw w18 x3) := HBW.out.trans hb
              replace HC0 : Hid (KAt 3 (fun x => x < x3.heap.size) x3 (some ⟨wd.heap.size, 0, none⟩) np F) := (HC0.out.blw hb).mono (fun x hx => Nat.lt_of_lt_of_le hx hb.size)
              replace HC1 : Hid (GAt (fun x => x < x3.heap.size) x3 y1 D0) := (HC1.out.blw hb).mono (fun x hx => Nat.lt_of_lt_of_le hx hb.size)
              clear hb
              refine hK.out _ _ ⟨(get5 (HG0.out.blw HBW.out).out.box).1, (get5 (HG0.out.blw HBW.out).out.box).2.1, (get5 (HG0.out.blw HBW.out).out.box).2.2.1, (get5 (HG0.out.blw HBW.out).out.box).2.2.2.1, (get5 (HG0.out.blw HBW.out).out.box).2.2.2.2⟩ (fun hB => ?_)
              clear hK K hB
              try simp only [Act.put, List.setIfInBounds_toArray, List.set_cons_zero, List.set_cons_succ]
              refine wpAnyH_ready (rs := [5]) (by kernel_rfl) (by simp) ?_
              refine AllReadyH.cons (o := { dst := some 119, op := Op.call { callee := Callee.value (Operand.func 38), args := #[Operand.tmp 115, Operand.tmp 117, Operand.tmp 118], argTypes := #[59, 61, 3] }, type := 64, pos := _, after := #[{ on := 1, ground := Ground.data }, { on := 3, ground := Ground.data }, { on := 4, ground := Ground.data }, { on := 3, ground := Ground.chain }], guard := none }) rfl (fun K hK => ?_) AllReadyH.nil
              go_simp
              have HZ9 : Hid (x2.heap.size < x3.heap.size) := HZ1.out
              refine (implRun_any _ _ np F y1 D0 k _ _ _ HC0.out HC1.out (fun x hx => hx)).mono ?_
              rintro e x4 ⟨va, Ra, xa, ba, rfl, ho, hs, own, hb⟩
              replace HBW : Hid (Blw w18 x4) := HBW.out.trans hb
              replace HC0 : Hid (KAt 3 (fun x => x < x4.heap.size) x4 (some ⟨wd.heap.size, 0, none⟩) np F) := (HC0.out.blw hb).mono (fun x hx => Nat.lt_of_lt_of_le hx hb.size)
              replace HC1 : Hid (GAt (fun x => x < x4.heap.size) x4 y1 D0) := (HC1.out.blw hb).mono (fun x hx => Nat.lt_of_lt_of_le hx hb.size)
              replace HZB : Hid (Row x4 x2.heap.size 5 (fun i => if i = 0 then .int .i64 0 else if i = 1 then .int .i64 0 else if i = 2 then .slice none 0 0 else if i = 3 then .slice none 0 0 else .bool false)) := HZB.out.blw hb
              replace HZ1 : Hid (x2.heap.size < x4.heap.size) := Nat.lt_of_lt_of_le HZ1.out hb.size
              have HAN : Hid (GAt (fun x => x3.heap.size ≤ x ∧ x < x4.heap.size) x4 va Ra) := own.at
              have HOS : Hid (rgOut np F D0 k Ra xa ba ∧ Ra.small) := ⟨ho, hs⟩
              have HAU : Hid (x4.heap.size ≤ x4.heap.size) := Nat.le_refl _
              have HNZ : Hid (∀ x, (fun x => x3.heap.size ≤ x ∧ x < x4.heap.size) x → x ≠ x2.heap.size) := fun x hx he => by have h9 := HZ9.out; have h8 := hx.1; rw [he] at h8; omega
              clear ho hb hs own
              refine hK.out _ _ ⟨(get5 (HG0.out.blw HBW.out).out.box).1, (get5 (HG0.out.blw HBW.out).out.box).2.1, (get5 (HG0.out.blw HBW.out).out.box).2.2.1, (get5 (HG0.out.blw HBW.out).out.box).2.2.2.1, (get5 (HG0.out.blw HBW.out).out.box).2.2.2.2⟩ (fun hB => ?_)
              clear hK K hB
              try simp only [Act.put, List.setIfInBounds_toArray, List.set_cons_zero, List.set_cons_succ]
              refine wpAnyH_take (i := 6) (oi := { dst := some 113, op := Op.move (Operand.tmp 119), type := 64, pos := _, after := #[{ on := 5, ground := Ground.data }], guard := none }) (v := (.tuple #[GV.val va Ra, .int .i64 xa, .bool ba])) rfl (by kernel_rfl) (by kernel_rfl) (by kernel_rfl) (fun _ _ _ h => h) (Or.inl ⟨by rfl, fun w' hS => by (try dsimp only at hS); go_simp⟩) ⟨(get5 (HG0.out.blw HBW.out).out.box).1, (get5 (HG0.out.blw HBW.out).out.box).2.1, (get5 (HG0.out.blw HBW.out).out.box).2.2.1, (get5 (HG0.out.blw HBW.out).out.box).2.2.2.1, (get5 (HG0.out.blw HBW.out).out.box).2.2.2.2⟩ ?_
              simp only [Act.put, List.setIfInBounds_toArray, List.set_cons_zero, List.set_cons_succ]
              refine wpAnyH_take (i := 7) (oi := { dst := some 120, op := Op.extract (Operand.tmp 113) 0, type := 61, pos := _, after := #[{ on := 6, ground := Ground.data }], guard := none }) (v := (GV.val va Ra)) rfl (by kernel_rfl) (by kernel_rfl) (by kernel_rfl) (fun _ _ _ h => h) (Or.inl ⟨by rfl, fun w' hS => by (try dsimp only at hS); go_simp⟩) ⟨(get5 (HG0.out.blw HBW.out).out.box).1, (get5 (HG0.out.blw HBW.out).out.box).2.1, (get5 (HG0.out.blw HBW.out).out.box).2.2.1, (get5 (HG0.out.blw HBW.out).out.box).2.2.2.1, (get5 (HG0.out.blw HBW.out).out.box).2.2.2.2⟩ ?_
              simp only [Act.put, List.setIfInBounds_toArray, List.set_cons_zero, List.set_cons_succ]
              refine wpAnyH_take (i := 8) (oi := { dst := some 121, op := Op.extract (Operand.tmp 113) 1, type := 3, pos := _, after := #[{ on := 6, ground := Ground.data }, { on := 11, ground := Ground.gcOnly Departure.lateStores }], guard := none }) (v := (.int .i64 xa)) rfl (by kernel_rfl) (by kernel_rfl) (by kernel_rfl) (fun _ _ _ h => h) (Or.inl ⟨by rfl, fun w' hS => by (try dsimp only at hS); go_simp⟩) ⟨(get5 (HG0.out.blw HBW.out).out.box).1, (get5 (HG0.out.blw HBW.out).out.box).2.1, (get5 (HG0.out.blw HBW.out).out.box).2.2.1, (get5 (HG0.out.blw HBW.out).out.box).2.2.2.1, (get5 (HG0.out.blw HBW.out).out.box).2.2.2.2⟩ ?_
              simp only [Act.put, List.setIfInBounds_toArray, List.set_cons_zero, List.set_cons_succ]
              refine wpAnyH_take (i := 9) (oi := { dst := some 122, op := Op.extract (Operand.tmp 113) 2, type := 4, pos := _, after := #[{ on := 6, ground := Ground.data }, { on := 12, ground := Ground.gcOnly Departure.lateStores }], guard := none }) (v := (.bool ba)) rfl (by kernel_rfl) (by kernel_rfl) (by kernel_rfl) (fun _ _ _ h => h) (Or.inl ⟨by rfl, fun w' hS => by (try dsimp only at hS); go_simp⟩) ⟨(get5 (HG0.out.blw HBW.out).out.box).1, (get5 (HG0.out.blw HBW.out).out.box).2.1, (get5 (HG0.out.blw HBW.out).out.box).2.2.1, (get5 (HG0.out.blw HBW.out).out.box).2.2.2.1, (get5 (HG0.out.blw HBW.out).out.box).2.2.2.2⟩ ?_
              simp only [Act.put, List.setIfInBounds_toArray, List.set_cons_zero, List.set_cons_succ]
              refine wpAnyH_ready (rs := [11]) (by kernel_rfl) (by simp) ?_
              refine AllReadyH.cons (o := { dst := none, op := Op.store 61 (Operand.tmp 19) (Operand.tmp 120), type := 0, pos := _, after := #[{ on := 10, ground := Ground.data }, { on := 7, ground := Ground.data }, { on := 5, ground := Ground.chain }, { on := 0, ground := Ground.phase }, { on := 1, ground := Ground.phase }, { on := 2, ground := Ground.phase }, { on := 3, ground := Ground.phase }, { on := 4, ground := Ground.phase }, { on := 5, ground := Ground.phase }, { on := 6, ground := Ground.phase }, { on := 7, ground := Ground.phase }, { on := 8, ground := Ground.textOnly Departure.lateStores }, { on := 9, ground := Ground.textOnly Departure.lateStores }, { on := 10, ground := Ground.phase }], guard := none }) rfl (fun K hK => ?_) AllReadyH.nil
              obtain ⟨t0, t1, t2, t3, t4⟩ := get5 HZB.out
              have f0 := HZB.out.frozen 0
              have f1 := HZB.out.frozen 1
              have f2 := HZB.out.frozen 2
              have f3 := HZB.out.frozen 3
              have f4 := HZB.out.frozen 4
              have m1 := set5_modG x4 x2.heap.size (.int .i64 Ra.at_) (.int .i64 Ra.acc) (.slice va.a1 Ra.nc va.c1) (.slice va.a2 Ra.nt va.c2) (.bool Ra.d) (X := fun x => x = x2.heap.size) rfl
              have m2 := m1.size
              have HFA : Hid (GAt (fun x => x < (((((x4.setCell ⟨x2.heap.size, 0, none⟩ (.int .i64 Ra.at_)).setCell ⟨x2.heap.size, 1, none⟩ (.int .i64 Ra.acc)).setCell ⟨x2.heap.size, 2, none⟩ (.slice va.a1 Ra.nc va.c1)).setCell ⟨x2.heap.size, 3, none⟩ (.slice va.a2 Ra.nt va.c2)).setCell ⟨x2.heap.size, 4, none⟩ (.bool Ra.d)).heap.size) (((((x4.setCell ⟨x2.heap.size, 0, none⟩ (.int .i64 Ra.at_)).setCell ⟨x2.heap.size, 1, none⟩ (.int .i64 Ra.acc)).setCell ⟨x2.heap.size, 2, none⟩ (.slice va.a1 Ra.nc va.c1)).setCell ⟨x2.heap.size, 3, none⟩ (.slice va.a2 Ra.nt va.c2)).setCell ⟨x2.heap.size, 4, none⟩ (.bool Ra.d)) va Ra) := (HAN.out.mod m1 (fun x hx he => HNZ.out x hx he)).mono (fun x hx => Nat.lt_of_lt_of_le (Nat.lt_of_lt_of_le hx.2 HAU.out) m2)
              have HFB : Hid (Row (((((x4.setCell ⟨x2.heap.size, 0, none⟩ (.int .i64 Ra.at_)).setCell ⟨x2.heap.size, 1, none⟩ (.int .i64 Ra.acc)).setCell ⟨x2.heap.size, 2, none⟩ (.slice va.a1 Ra.nc va.c1)).setCell ⟨x2.heap.size, 3, none⟩ (.slice va.a2 Ra.nt va.c2)).setCell ⟨x2.heap.size, 4, none⟩ (.bool Ra.d)) x2.heap.size 5 (gb va Ra)) := set5_all HZB.out _ _ _ _ _
              replace HBW : Hid (Blw w18 (((((x4.setCell ⟨x2.heap.size, 0, none⟩ (.int .i64 Ra.at_)).setCell ⟨x2.heap.size, 1, none⟩ (.int .i64 Ra.acc)).setCell ⟨x2.heap.size, 2, none⟩ (.slice va.a1 Ra.nc va.c1)).setCell ⟨x2.heap.size, 3, none⟩ (.slice va.a2 Ra.nt va.c2)).setCell ⟨x2.heap.size, 4, none⟩ (.bool Ra.d))) := Mod.blw HBW.out m1 (fun i hi => by have h9 := HZL.out; omega)
              clear m1 m2
              go_simp
              refine hK.out _ _ ⟨(get5 (HG0.out.blw HBW.out).out.box).1, (get5 (HG0.out.blw HBW.out).out.box).2.1, (get5 (HG0.out.blw HBW.out).out.box).2.2.1, (get5 (HG0.out.blw HBW.out).out.box).2.2.2.1, (get5 (HG0.out.blw HBW.out).out.box).2.2.2.2⟩ (fun hB => ?_)
              clear hK K hB
              try simp only [Act.put, List.setIfInBounds_toArray, List.set_cons_zero, List.set_cons_succ]
              clear t0 t1 t2 t3 t4 f0 f1 f2 f3 f4
              refine wpAnyH_take (i := 12) (oi := { dst := some 20, op := Op.assign (Operand.tmp 121), type := 3, pos := _, after := #[{ on := 8, ground := Ground.data }, { on := 11, ground := Ground.chain }, { on := 0, ground := Ground.phase }, { on := 1, ground := Ground.phase }, { on := 2, ground := Ground.phase }, { on := 3, ground := Ground.phase }, { on := 4, ground := Ground.phase }, { on := 5, ground := Ground.phase }, { on := 6, ground := Ground.phase }, { on := 7, ground := Ground.phase }, { on := 8, ground := Ground.phase }, { on := 9, ground := Ground.textOnly Departure.lateStores }, { on := 10, ground := Ground.phase }, { on := 11, ground := Ground.phase }], guard := none }) (v := (.int .i64 xa)) rfl (by kernel_rfl) (by kernel_rfl) (by kernel_rfl) (fun _ _ _ h => h) (Or.inl ⟨by rfl, fun w' hS => by (try dsimp only at hS); go_simp⟩) ⟨(get5 (HG0.out.blw HBW.out).out.box).1, (get5 (HG0.out.blw HBW.out).out.box).2.1, (get5 (HG0.out.blw HBW.out).out.box).2.2.1, (get5 (HG0.out.blw HBW.out).out.box).2.2.2.1, (get5 (HG0.out.blw HBW.out).out.box).2.2.2.2⟩ ?_
              simp only [Act.put, List.setIfInBounds_toArray, List.set_cons_zero, List.set_cons_succ]
              refine wpAnyH_take (i := 13) (oi := { dst := some 21, op := Op.assign (Operand.tmp 122), type := 4, pos := _, after := #[{ on := 9, ground := Ground.data }, { on := 12, ground := Ground.chain }, { on := 0, ground := Ground.phase }, { on := 1, ground := Ground.phase }, { on := 2, ground := Ground.phase }, { on := 3, ground := Ground.phase }, { on := 4, ground := Ground.phase }, { on := 5, ground := Ground.phase }, { on := 6, ground := Ground.phase }, { on := 7, ground := Ground.phase }, { on := 8, ground := Ground.phase }, { on := 9, ground := Ground.phase }, { on := 10, ground := Ground.phase }, { on := 11, ground := Ground.phase }, { on := 12, ground := Ground.phase }], guard := none }) (v := (.bool ba)) rfl (by kernel_rfl) (by kernel_rfl) (by kernel_rfl) (fun _ _ _ h => h) (Or.inl ⟨by rfl, fun w' hS => by (try dsimp only at hS); go_simp⟩) ⟨(get5 (HG0.out.blw HBW.out).out.box).1, (get5 (HG0.out.blw HBW.out).out.box).2.1, (get5 (HG0.out.blw HBW.out).out.box).2.2.1, (get5 (HG0.out.blw HBW.out).out.box).2.2.2.1, (get5 (HG0.out.blw HBW.out).out.box).2.2.2.2⟩ ?_
              simp only [Act.put, List.setIfInBounds_toArray, List.set_cons_zero, List.set_cons_succ]
              refine wpAnyH_done (by kernel_rfl) ?_ _
              refine NoPanic.normal ?_
              go_wp2_with fail
              go_meet
              exact ⟨va, Ra, xa, ba, _, rfl, rfl, rfl, HOS.out.1, HOS.out.2, HFA.out, HFB.out, HBW.out⟩
          · go_simp
            have hb : Blw x1 (x1.alloc (.cells #[.int .i64 0, .int .i64 0, .slice none 0 0, .slice none 0 0, .bool false] 61)) := (Blw.refl _).alloc _
            have HZB : Hid (Row (x1.alloc (.cells #[.int .i64 0, .int .i64 0, .slice none 0 0, .slice none 0 0, .bool false] 61)) x1.heap.size 5 (fun i => if i = 0 then .int .i64 0 else if i = 1 then .int .i64 0 else if i = 2 then .slice none 0 0 else if i = 3 then .slice none 0 0 else .bool false)) := row5 x1 (.int .i64 0) (.int .i64 0) (.slice none 0 0) (.slice none 0 0) (.bool false) 61
            have HZ1 : Hid (x1.heap.size < (x1.alloc (.cells #[.int .i64 0, .int .i64 0, .slice none 0 0, .slice none 0 0, .bool false] 61)).heap.size) := by show _ < _; simp
            have HZL : Hid (w18.heap.size ≤ x1.heap.size) := HBW.out.size
            generalize x1.alloc (.cells #[.int .i64 0, .int .i64 0, .slice none 0 0, .slice none 0 0, .bool false] 61) = x2 at *
            replace HBW : Hid (Blw w18 x2) := HBW.out.trans hb
            replace HC0 : Hid (KAt 3 (fun x => x < x2.heap.size) x2 (some ⟨wd.heap.size, 0, none⟩) np F) := (HC0.out.blw hb).mono (fun x hx => Nat.lt_of_lt_of_le hx hb.size)
            clear hb
            refine hK.out _ _ ⟨(get5 (HG0.out.blw HBW.out).out.box).1, (get5 (HG0.out.blw HBW.out).out.box).2.1, (get5 (HG0.out.blw HBW.out).out.box).2.2.1, (get5 (HG0.out.blw HBW.out).out.box).2.2.2.1, (get5 (HG0.out.blw HBW.out).out.box).2.2.2.2⟩ (fun hB => ?_)
            clear hK K hB
            try simp only [Act.put, List.setIfInBounds_toArray, List.set_cons_zero, List.set_cons_succ]
            refine wpAnyH_ready (rs := [3]) (by kernel_rfl) (by simp) ?_
            refine AllReadyH.cons (o := { dst := some 117, op := Op.call { callee := Callee.value (Operand.func 72), args := #[Operand.tmp 116], argTypes := #[94] }, type := 61, pos := _, after := #[{ on := 2, ground := Ground.data }, { on := 1, ground := Ground.chain }], guard := none }) rfl (fun K hK => ?_) AllReadyH.nil
            go_simp
            refine (toGuest_any g0 D0 _ _ SM0.out (HG0.out.blw HBW.out).out.at_).mono ?_
            rintro e x3 ⟨y1, rfl, own, hb⟩
            have HN_ : Hid (GAt (fun x => x < x3.heap.size) x3 y1 D0) := own.at.mono (fun x hx => hx.2)
            clear own
            replace HBW : Hid (Blw w18 x3) := HBW.out.trans hb
            replace HC0 : Hid (KAt 3 (fun x => x < x3.heap.size) x3 (some ⟨wd.heap.size, 0, none⟩) np F) := (HC0.out.blw hb).mono (fun x hx => Nat.lt_of_lt_of_le hx hb.size)
            replace HZB : Hid (Row x3 x1.heap.size 5 (fun i => if i = 0 then .int .i64 0 else if i = 1 then .int .i64 0 else if i = 2 then .slice none 0 0 else if i = 3 then .slice none 0 0 else .bool false)) := HZB.out.blw hb
            replace HZ1 : Hid (x1.heap.size < x3.heap.size) := Nat.lt_of_lt_of_le HZ1.out hb.size
            have HC1 := HN_
            clear HN_ hb
            refine hK.out _ _ ⟨(get5 (HG0.out.blw HBW.out).out.box).1, (get5 (HG0.out.blw HBW.out).out.box).2.1, (get5 (HG0.out.blw HBW.out).out.box).2.2.1, (get5 (HG0.out.blw HBW.out).out.box).2.2.2.1, (get5 (HG0.out.blw HBW.out).out.box).2.2.2.2⟩ (fun hB => ?_)
            clear hK K hB
            try simp only [Act.put, List.setIfInBounds_toArray, List.set_cons_zero, List.set_cons_succ]
            refine wpAnyH_ready (rs := [5]) (by kernel_rfl) (by simp) ?_
            refine AllReadyH.cons (o := { dst := some 119, op := Op.call { callee := Callee.value (Operand.func 38), args := #[Operand.tmp 115, Operand.tmp 117, Operand.tmp 118], argTypes := #[59, 61, 3] }, type := 64, pos := _, after := #[{ on := 1, ground := Ground.data }, { on := 3, ground := Ground.data }, { on := 4, ground := Ground.data }, { on := 3, ground := Ground.chain }], guard := none }) rfl (fun K hK => ?_) AllReadyH.nil
            go_simp
            have HZ9 : Hid (x1.heap.size < x3.heap.size) := HZ1.out
            refine (implRun_any _ _ np F y1 D0 k _ _ _ HC0.out HC1.out (fun x hx => hx)).mono ?_
            rintro e x4 ⟨va, Ra, xa, ba, rfl, ho, hs, own, hb⟩
            replace HBW : Hid (Blw w18 x4) := HBW.out.trans hb
            replace HC0 : Hid (KAt 3 (fun x => x < x4.heap.size) x4 (some ⟨wd.heap.size, 0, none⟩) np F) := (HC0.out.blw hb).mono (fun x hx => Nat.lt_of_lt_of_le hx hb.size)
            replace HC1 : Hid (GAt (fun x => x < x4.heap.size) x4 y1 D0) := (HC1.out.blw hb).mono (fun x hx => Nat.lt_of_lt_of_le hx hb.size)
            replace HZB : Hid (Row x4 x1.heap.size 5 (fun i => if i = 0 then .int .i64 0 else if i = 1 then .int .i64 0 else if i = 2 then .slice none 0 0 else if i = 3 then .slice none 0 0 else .bool false)) := HZB.out.blw hb
            replace HZ1 : Hid (x1.heap.size < x4.heap.size) := Nat.lt_of_lt_of_le HZ1.out hb.size
            have HAN : Hid (GAt (fun x => x3.heap.size ≤ x ∧ x < x4.heap.size) x4 va Ra) := own.at
            have HOS : Hid (rgOut np F D0 k Ra xa ba ∧ Ra.small) := ⟨ho, hs⟩
            have HAU : Hid (x4.heap.size ≤ x4.heap.size) := Nat.le_refl _
            have HNZ : Hid (∀ x, (fun x => x3.heap.size ≤ x ∧ x < x4.heap.size) x → x ≠ x1.heap.size) := fun x hx he => by have h9 := HZ9.out; have h8 := hx.1; rw [he] at h8; omega
            clear ho hb hs own
            refine hK.out _ _ ⟨(get5 (HG0.out.blw HBW.out).out.box).1, (get5 (HG0.out.blw HBW.out).out.box).2.1, (get5 (HG0.out.blw HBW.out).out.box).2.2.1, (get5 (HG0.out.blw HBW.out).out.box).2.2.2.1, (get5 (HG0.out.blw HBW.out).out.box).2.2.2.2⟩ (fun hB => ?_)
            clear hK K hB
            try simp only [Act.put, List.setIfInBounds_toArray, List.set_cons_zero, List.set_cons_succ]
            refine wpAnyH_take (i := 6) (oi := { dst := some 113, op := Op.move (Operand.tmp 119), type := 64, pos := _, after := #[{ on := 5, ground := Ground.data }], guard := none }) (v := (.tuple #[GV.val va Ra, .int .i64 xa, .bool ba])) rfl (by kernel_rfl) (by kernel_rfl) (by kernel_rfl) (fun _ _ _ h => h) (Or.inl ⟨by rfl, fun w' hS => by (try dsimp only at hS); go_simp⟩) ⟨(get5 (HG0.out.blw HBW.out).out.box).1, (get5 (HG0.out.blw HBW.out).out.box).2.1, (get5 (HG0.out.blw HBW.out).out.box).2.2.1, (get5 (HG0.out.blw HBW.out).out.box).2.2.2.1, (get5 (HG0.out.blw HBW.out).out.box).2.2.2.2⟩ ?_
            simp only [Act.put, List.setIfInBounds_toArray, List.set_cons_zero, List.set_cons_succ]
            refine wpAnyH_take (i := 7) (oi := { dst := some 120, op := Op.extract (Operand.tmp 113) 0, type := 61, pos := _, after := #[{ on := 6, ground := Ground.data }], guard := none }) (v := (GV.val va Ra)) rfl (by kernel_rfl) (by kernel_rfl) (by kernel_rfl) (fun _ _ _ h => h) (Or.inl ⟨by rfl, fun w' hS => by (try dsimp only at hS); go_simp⟩) ⟨(get5 (HG0.out.blw HBW.out).out.box).1, (get5 (HG0.out.blw HBW.out).out.box).2.1, (get5 (HG0.out.blw HBW.out).out.box).2.2.1, (get5 (HG0.out.blw HBW.out).out.box).2.2.2.1, (get5 (HG0.out.blw HBW.out).out.box).2.2.2.2⟩ ?_
            simp only [Act.put, List.setIfInBounds_toArray, List.set_cons_zero, List.set_cons_succ]
            refine wpAnyH_take (i := 8) (oi := { dst := some 121, op := Op.extract (Operand.tmp 113) 1, type := 3, pos := _, after := #[{ on := 6, ground := Ground.data }, { on := 11, ground := Ground.gcOnly Departure.lateStores }], guard := none }) (v := (.int .i64 xa)) rfl (by kernel_rfl) (by kernel_rfl) (by kernel_rfl) (fun _ _ _ h => h) (Or.inl ⟨by rfl, fun w' hS => by (try dsimp only at hS); go_simp⟩) ⟨(get5 (HG0.out.blw HBW.out).out.box).1, (get5 (HG0.out.blw HBW.out).out.box).2.1, (get5 (HG0.out.blw HBW.out).out.box).2.2.1, (get5 (HG0.out.blw HBW.out).out.box).2.2.2.1, (get5 (HG0.out.blw HBW.out).out.box).2.2.2.2⟩ ?_
            simp only [Act.put, List.setIfInBounds_toArray, List.set_cons_zero, List.set_cons_succ]
            refine wpAnyH_take (i := 9) (oi := { dst := some 122, op := Op.extract (Operand.tmp 113) 2, type := 4, pos := _, after := #[{ on := 6, ground := Ground.data }, { on := 12, ground := Ground.gcOnly Departure.lateStores }], guard := none }) (v := (.bool ba)) rfl (by kernel_rfl) (by kernel_rfl) (by kernel_rfl) (fun _ _ _ h => h) (Or.inl ⟨by rfl, fun w' hS => by (try dsimp only at hS); go_simp⟩) ⟨(get5 (HG0.out.blw HBW.out).out.box).1, (get5 (HG0.out.blw HBW.out).out.box).2.1, (get5 (HG0.out.blw HBW.out).out.box).2.2.1, (get5 (HG0.out.blw HBW.out).out.box).2.2.2.1, (get5 (HG0.out.blw HBW.out).out.box).2.2.2.2⟩ ?_
            simp only [Act.put, List.setIfInBounds_toArray, List.set_cons_zero, List.set_cons_succ]
            refine wpAnyH_ready (rs := [11]) (by kernel_rfl) (by simp) ?_
            refine AllReadyH.cons (o := { dst := none, op := Op.store 61 (Operand.tmp 19) (Operand.tmp 120), type := 0, pos := _, after := #[{ on := 10, ground := Ground.data }, { on := 7, ground := Ground.data }, { on := 5, ground := Ground.chain }, { on := 0, ground := Ground.phase }, { on := 1, ground := Ground.phase }, { on := 2, ground := Ground.phase }, { on := 3, ground := Ground.phase }, { on := 4, ground := Ground.phase }, { on := 5, ground := Ground.phase }, { on := 6, ground := Ground.phase }, { on := 7, ground := Ground.phase }, { on := 8, ground := Ground.textOnly Departure.lateStores }, { on := 9, ground := Ground.textOnly Departure.lateStores }, { on := 10, ground := Ground.phase }], guard := none }) rfl (fun K hK => ?_) AllReadyH.nil
            obtain ⟨t0, t1, t2, t3, t4⟩ := get5 HZB.out
            have f0 := HZB.out.frozen 0
            have f1 := HZB.out.frozen 1
            have f2 := HZB.out.frozen 2
            have f3 := HZB.out.frozen 3
            have f4 := HZB.out.frozen 4
            have m1 := set5_modG x4 x1.heap.size (.int .i64 Ra.at_) (.int .i64 Ra.acc) (.slice va.a1 Ra.nc va.c1) (.slice va.a2 Ra.nt va.c2) (.bool Ra.d) (X := fun x => x = x1.heap.size) rfl
            have m2 := m1.size
            have HFA : Hid (GAt (fun x => x < (((((x4.setCell ⟨x1.heap.size, 0, none⟩ (.int .i64 Ra.at_)).setCell ⟨x1.heap.size, 1, none⟩ (.int .i64 Ra.acc)).setCell ⟨x1.heap.size, 2, none⟩ (.slice va.a1 Ra.nc va.c1)).setCell ⟨x1.heap.size, 3, none⟩ (.slice va.a2 Ra.nt va.c2)).setCell ⟨x1.heap.size, 4, none⟩ (.bool Ra.d)).heap.size) (((((x4.setCell ⟨x1.heap.size, 0, none⟩ (.int .i64 Ra.at_)).setCell ⟨x1.heap.size, 1, none⟩ (.int .i64 Ra.acc)).setCell ⟨x1.heap.size, 2, none⟩ (.slice va.a1 Ra.nc va.c1)).setCell ⟨x1.heap.size, 3, none⟩ (.slice va.a2 Ra.nt va.c2)).setCell ⟨x1.heap.size, 4, none⟩ (.bool Ra.d)) va Ra) := (HAN.out.mod m1 (fun x hx he => HNZ.out x hx he)).mono (fun x hx => Nat.lt_of_lt_of_le (Nat.lt_of_lt_of_le hx.2 HAU.out) m2)
            have HFB : Hid (Row (((((x4.setCell ⟨x1.heap.size, 0, none⟩ (.int .i64 Ra.at_)).setCell ⟨x1.heap.size, 1, none⟩ (.int .i64 Ra.acc)).setCell ⟨x1.heap.size, 2, none⟩ (.slice va.a1 Ra.nc va.c1)).setCell ⟨x1.heap.size, 3, none⟩ (.slice va.a2 Ra.nt va.c2)).setCell ⟨x1.heap.size, 4, none⟩ (.bool Ra.d)) x1.heap.size 5 (gb va Ra)) := set5_all HZB.out _ _ _ _ _
            replace HBW : Hid (Blw w18 (((((x4.setCell ⟨x1.heap.size, 0, none⟩ (.int .i64 Ra.at_)).setCell ⟨x1.heap.size, 1, none⟩ (.int .i64 Ra.acc)).setCell ⟨x1.heap.size, 2, none⟩ (.slice va.a1 Ra.nc va.c1)).setCell ⟨x1.heap.size, 3, none⟩ (.slice va.a2 Ra.nt va.c2)).setCell ⟨x1.heap.size, 4, none⟩ (.bool Ra.d))) := Mod.blw HBW.out m1 (fun i hi => by have h9 := HZL.out; omega)
            clear m1 m2
            go_simp
            refine hK.out _ _ ⟨(get5 (HG0.out.blw HBW.out).out.box).1, (get5 (HG0.out.blw HBW.out).out.box).2.1, (get5 (HG0.out.blw HBW.out).out.box).2.2.1, (get5 (HG0.out.blw HBW.out).out.box).2.2.2.1, (get5 (HG0.out.blw HBW.out).out.box).2.2.2.2⟩ (fun hB => ?_)
            clear hK K hB
            try simp only [Act.put, List.setIfInBounds_toArray, List.set_cons_zero, List.set_cons_succ]
            clear t0 t1 t2 t3 t4 f0 f1 f2 f3 f4
            refine wpAnyH_take (i := 12) (oi := { dst := some 20, op := Op.assign (Operand.tmp 121), type := 3, pos := _, after := #[{ on := 8, ground := Ground.data }, { on := 11, ground := Ground.chain }, { on := 0, ground := Ground.phase }, { on := 1, ground := Ground.phase }, { on := 2, ground := Ground.phase }, { on := 3, ground := Ground.phase }, { on := 4, ground := Ground.phase }, { on := 5, ground := Ground.phase }, { on := 6, ground := Ground.phase }, { on := 7, ground := Ground.phase }, { on := 8, ground := Ground.phase }, { on := 9, ground := Ground.textOnly Departure.lateStores }, { on := 10, ground := Ground.phase }, { on := 11, ground := Ground.phase }], guard := none }) (v := (.int .i64 xa)) rfl (by kernel_rfl) (by kernel_rfl) (by kernel_rfl) (fun _ _ _ h => h) (Or.inl ⟨by rfl, fun w' hS => by (try dsimp only at hS); go_simp⟩) ⟨(get5 (HG0.out.blw HBW.out).out.box).1, (get5 (HG0.out.blw HBW.out).out.box).2.1, (get5 (HG0.out.blw HBW.out).out.box).2.2.1, (get5 (HG0.out.blw HBW.out).out.box).2.2.2.1, (get5 (HG0.out.blw HBW.out).out.box).2.2.2.2⟩ ?_
            simp only [Act.put, List.setIfInBounds_toArray, List.set_cons_zero, List.set_cons_succ]
            refine wpAnyH_take (i := 13) (oi := { dst := some 21, op := Op.assign (Operand.tmp 122), type := 4, pos := _, after := #[{ on := 9, ground := Ground.data }, { on := 12, ground := Ground.chain }, { on := 0, ground := Ground.phase }, { on := 1, ground := Ground.phase }, { on := 2, ground := Ground.phase }, { on := 3, ground := Ground.phase }, { on := 4, ground := Ground.phase }, { on := 5, ground := Ground.phase }, { on := 6, ground := Ground.phase }, { on := 7, ground := Ground.phase }, { on := 8, ground := Ground.phase }, { on := 9, ground := Ground.phase }, { on := 10, ground := Ground.phase }, { on := 11, ground := Ground.phase }, { on := 12, ground := Ground.phase }], guard := none }) (v := (.bool ba)) rfl (by kernel_rfl) (by kernel_rfl) (by kernel_rfl) (fun _ _ _ h => h) (Or.inl ⟨by rfl, fun w' hS => by (try dsimp only at hS); go_simp⟩) ⟨(get5 (HG0.out.blw HBW.out).out.box).1, (get5 (HG0.out.blw HBW.out).out.box).2.1, (get5 (HG0.out.blw HBW.out).out.box).2.2.1, (get5 (HG0.out.blw HBW.out).out.box).2.2.2.1, (get5 (HG0.out.blw HBW.out).out.box).2.2.2.2⟩ ?_
            simp only [Act.put, List.setIfInBounds_toArray, List.set_cons_zero, List.set_cons_succ]
            refine wpAnyH_done (by kernel_rfl) ?_ _
            refine NoPanic.normal ?_
            go_wp2_with fail
            go_meet
            exact ⟨va, Ra, xa, ba, _, rfl, rfl, rfl, HOS.out.1, HOS.out.2, HFA.out, HFB.out, HBW.out⟩
        · go_simp
          have hb : Blw wd (wd.alloc (.cells #[.int .i64 0, .int .i64 0, .slice none 0 0, .slice none 0 0, .bool false] 61)) := (Blw.refl _).alloc _
          have HZB : Hid (Row (wd.alloc (.cells #[.int .i64 0, .int .i64 0, .slice none 0 0, .slice none 0 0, .bool false] 61)) wd.heap.size 5 (fun i => if i = 0 then .int .i64 0 else if i = 1 then .int .i64 0 else if i = 2 then .slice none 0 0 else if i = 3 then .slice none 0 0 else .bool false)) := row5 wd (.int .i64 0) (.int .i64 0) (.slice none 0 0) (.slice none 0 0) (.bool false) 61
          have HZ1 : Hid (wd.heap.size < (wd.alloc (.cells #[.int .i64 0, .int .i64 0, .slice none 0 0, .slice none 0 0, .bool false] 61)).heap.size) := by show _ < _; simp
          have HZL : Hid (w18.heap.size ≤ wd.heap.size) := HBW.out.size
          generalize wd.alloc (.cells #[.int .i64 0, .int .i64 0, .slice none 0 0, .slice none 0 0, .bool false] 61) = x1 at *
          replace HBW : Hid (Blw w18 x1) := HBW.out.trans hb
          clear hb
          refine hK.out _ _ ⟨(get5 (HG0.out.blw HBW.out).out.box).1, (get5 (HG0.out.blw HBW.out).out.box).2.1, (get5 (HG0.out.blw HBW.out).out.box).2.2.1, (get5 (HG0.out.blw HBW.out).out.box).2.2.2.1, (get5 (HG0.out.blw HBW.out).out.box).2.2.2.2⟩ (fun hB => ?_)
          clear hK K hB
          try simp only [Act.put, List.setIfInBounds_toArray, List.set_cons_zero, List.set_cons_succ]
          refine wpAnyH_ready (rs := [1]) (by kernel_rfl) (by simp) ?_
          refine AllReadyH.cons (o := { dst := some 115, op := Op.call { callee := Callee.value (Operand.func 69), args := #[Operand.tmp 114], argTypes := #[89] }, type := 59, pos := _, after := #[{ on := 0, ground := Ground.data }], guard := none }) rfl (fun K hK => ?_) AllReadyH.nil
          go_simp
          refine (toInsS_any ap cp np F _ _ hnp2 (HP.out.blw HBW.out).out).mono ?_
          rintro e x2 ⟨rfl, row, hb⟩
          have hlt := row.lt
          have HN_ : Hid (KAt 3 (fun x => x < x2.heap.size) x2 (some ⟨x1.heap.size, 0, none⟩) np F) := (kown3 row (by omega) (X := fun x => x < x2.heap.size) hlt).at
          clear row hlt
          replace HBW : Hid (Blw w18 x2) := HBW.out.trans hb
          replace HZB : Hid (Row x2 wd.heap.size 5 (fun i => if i = 0 then .int .i64 0 else if i = 1 then .int .i64 0 else if i = 2 then .slice none 0 0 else if i = 3 then .slice none 0 0 else .bool false)) := HZB.out.blw hb
          replace HZ1 : Hid (wd.heap.size < x2.heap.size) := Nat.lt_of_lt_of_le HZ1.out hb.size
          have HC0 := HN_
          clear HN_ hb
          refine hK.out _ _ ⟨(get5 (HG0.out.blw HBW.out).out.box).1, (get5 (HG0.out.blw HBW.out).out.box).2.1, (get5 (HG0.out.blw HBW.out).out.box).2.2.1, (get5 (HG0.out.blw HBW.out).out.box).2.2.2.1, (get5 (HG0.out.blw HBW.out).out.box).2.2.2.2⟩ (fun hB => ?_)
          clear hK K hB
          try simp only [Act.put, List.setIfInBounds_toArray, List.set_cons_zero, List.set_cons_succ]
          refine wpAnyH_ready (rs := [3]) (by kernel_rfl) (by simp) ?_
          refine AllReadyH.cons (o := { dst := some 117, op := Op.call { callee := Callee.value (Operand.func 72), args := #[Operand.tmp 116], argTypes := #[94] }, type := 61, pos := _, after := #[{ on := 2, ground := Ground.data }, { on := 1, ground := Ground.chain }], guard := none }) rfl (fun K hK => ?_) AllReadyH.nil
          go_simp
          refine (toGuest_any g0 D0 _ _ SM0.out (HG0.out.blw HBW.out).out.at_).mono ?_
          rintro e x3 ⟨y1, rfl, own, hb⟩
          have HN_ : Hid (GAt (fun x => x < x3.heap.size) x3 y1 D0) := own.at.mono (fun x hx => hx.2)
          clear own
          replace HBW : Hid (Blw w18 x3) := HBW.out.trans hb
          replace HC0 : Hid (KAt 3 (fun x => x < x3.heap.size) x3 (some ⟨x1.heap.size, 0, none⟩) np F) := (HC0.out.blw hb).mono (fun x hx => Nat.lt_of_lt_of_le hx hb.size)
          replace HZB : Hid (Row x3 wd.heap.size 5 (fun i => if i = 0 then .int .i64 0 else if i = 1 then .int .i64 0 else if i = 2 then .slice none 0 0 else if i = 3 then .slice none 0 0 else .bool false)) := HZB.out.blw hb
          replace HZ1 : Hid (wd.heap.size < x3.heap.size) := Nat.lt_of_lt_of_le HZ1.out hb.size
          have HC1 := HN_
          clear HN_ hb
          refine hK.out _ _ ⟨(get5 (HG0.out.blw HBW.out).out.box).1, (get5 (HG0.out.blw HBW.out).out.box).2.1, (get5 (HG0.out.blw HBW.out).out.box).2.2.1, (get5 (HG0.out.blw HBW.out).out.box).2.2.2.1, (get5 (HG0.out.blw HBW.out).out.box).2.2.2.2⟩ (fun hB => ?_)
          clear hK K hB
          try simp only [Act.put, List.setIfInBounds_toArray, List.set_cons_zero, List.set_cons_succ]
          refine wpAnyH_ready (rs := [5]) (by kernel_rfl) (by simp) ?_
          refine AllReadyH.cons (o := { dst := some 119, op := Op.call { callee := Callee.value (Operand.func 38), args := #[Operand.tmp 115, Operand.tmp 117, Operand.tmp 118], argTypes := #[59, 61, 3] }, type := 64, pos := _, after := #[{ on := 1, ground := Ground.data }, { on := 3, ground := Ground.data }, { on := 4, ground := Ground.data }, { on := 3, ground := Ground.chain }], guard := none }) rfl (fun K hK => ?_) AllReadyH.nil
          go_simp
          have HZ9 : Hid (wd.heap.size < x3.heap.size) := HZ1.out
          refine (implRun_any _ _ np F y1 D0 k _ _ _ HC0.out HC1.out (fun x hx => hx)).mono ?_
          rintro e x4 ⟨va, Ra, xa, ba, rfl, ho, hs, own, hb⟩
          replace HBW : Hid (Blw w18 x4) := HBW.out.trans hb
          replace HC0 : Hid (KAt 3 (fun x => x < x4.heap.size) x4 (some ⟨x1.heap.size, 0, none⟩) np F) := (HC0.out.blw hb).mono (fun x hx => Nat.lt_of_lt_of_le hx hb.size)
          replace HC1 : Hid (GAt (fun x => x < x4.heap.size) x4 y1 D0) := (HC1.out.blw hb).mono (fun x hx => Nat.lt_of_lt_of_le hx hb.size)
          replace HZB : Hid (Row x4 wd.heap.size 5 (fun i => if i = 0 then .int .i64 0 else if i = 1 then .int .i64 0 else if i = 2 then .slice none 0 0 else if i = 3 then .slice none 0 0 else .bool false)) := HZB.out.blw hb
          replace HZ1 : Hid (wd.heap.size < x4.heap.size) := Nat.lt_of_lt_of_le HZ1.out hb.size
          have HAN : Hid (GAt (fun x => x3.heap.size ≤ x ∧ x < x4.heap.size) x4 va Ra) := own.at
          have HOS : Hid (rgOut np F D0 k Ra xa ba ∧ Ra.small) := ⟨ho, hs⟩
          have HAU : Hid (x4.heap.size ≤ x4.heap.size) := Nat.le_refl _
          have HNZ : Hid (∀ x, (fun x => x3.heap.size ≤ x ∧ x < x4.heap.size) x → x ≠ wd.heap.size) := fun x hx he => by have h9 := HZ9.out; have h8 := hx.1; rw [he] at h8; omega
          clear ho hb hs own
          refine hK.out _ _ ⟨(get5 (HG0.out.blw HBW.out).out.box).1, (get5 (HG0.out.blw HBW.out).out.box).2.1, (get5 (HG0.out.blw HBW.out).out.box).2.2.1, (get5 (HG0.out.blw HBW.out).out.box).2.2.2.1, (get5 (HG0.out.blw HBW.out).out.box).2.2.2.2⟩ (fun hB => ?_)
          clear hK K hB
          try simp only [Act.put, List.setIfInBounds_toArray, List.set_cons_zero, List.set_cons_succ]
          refine wpAnyH_take (i := 6) (oi := { dst := some 113, op := Op.move (Operand.tmp 119), type := 64, pos := _, after := #[{ on := 5, ground := Ground.data }], guard := none }) (v := (.tuple #[GV.val va Ra, .int .i64 xa, .bool ba])) rfl (by kernel_rfl) (by kernel_rfl) (by kernel_rfl) (fun _ _ _ h => h) (Or.inl ⟨by rfl, fun w' hS => by (try dsimp only at hS); go_simp⟩) ⟨(get5 (HG0.out.blw HBW.out).out.box).1, (get5 (HG0.out.blw HBW.out).out.box).2.1, (get5 (HG0.out.blw HBW.out).out.box).2.2.1, (get5 (HG0.out.blw HBW.out).out.box).2.2.2.1, (get5 (HG0.out.blw HBW.out).out.box).2.2.2.2⟩ ?_
          simp only [Act.put, List.setIfInBounds_toArray, List.set_cons_zero, List.set_cons_succ]
          refine wpAnyH_take (i := 7) (oi := { dst := some 120, op := Op.extract (Operand.tmp 113) 0, type := 61, pos := _, after := #[{ on := 6, ground := Ground.data }], guard := none }) (v := (GV.val va Ra)) rfl (by kernel_rfl) (by kernel_rfl) (by kernel_rfl) (fun _ _ _ h => h) (Or.inl ⟨by rfl, fun w' hS => by (try dsimp only at hS); go_simp⟩) ⟨(get5 (HG0.out.blw HBW.out).out.box).1, (get5 (HG0.out.blw HBW.out).out.box).2.1, (get5 (HG0.out.blw HBW.out).out.box).2.2.1, (get5 (HG0.out.blw HBW.out).out.box).2.2.2.1, (get5 (HG0.out.blw HBW.out).out.box).2.2.2.2⟩ ?_
          simp only [Act.put, List.setIfInBounds_toArray, List.set_cons_zero, List.set_cons_succ]
          refine wpAnyH_take (i := 8) (oi := { dst := some 121, op := Op.extract (Operand.tmp 113) 1, type := 3, pos := _, after := #[{ on := 6, ground := Ground.data }, { on := 11, ground := Ground.gcOnly Departure.lateStores }], guard := none }) (v := (.int .i64 xa)) rfl (by kernel_rfl) (by kernel_rfl) (by kernel_rfl) (fun _ _ _ h => h) (Or.inl ⟨by rfl, fun w' hS => by (try dsimp only at hS); go_simp⟩) ⟨(get5 (HG0.out.blw HBW.out).out.box).1, (get5 (HG0.out.blw HBW.out).out.box).2.1, (get5 (HG0.out.blw HBW.out).out.box).2.2.1, (get5 (HG0.out.blw HBW.out).out.box).2.2.2.1, (get5 (HG0.out.blw HBW.out).out.box).2.2.2.2⟩ ?_
          simp only [Act.put, List.setIfInBounds_toArray, List.set_cons_zero, List.set_cons_succ]
          refine wpAnyH_take (i := 9) (oi := { dst := some 122, op := Op.extract (Operand.tmp 113) 2, type := 4, pos := _, after := #[{ on := 6, ground := Ground.data }, { on := 12, ground := Ground.gcOnly Departure.lateStores }], guard := none }) (v := (.bool ba)) rfl (by kernel_rfl) (by kernel_rfl) (by kernel_rfl) (fun _ _ _ h => h) (Or.inl ⟨by rfl, fun w' hS => by (try dsimp only at hS); go_simp⟩) ⟨(get5 (HG0.out.blw HBW.out).out.box).1, (get5 (HG0.out.blw HBW.out).out.box).2.1, (get5 (HG0.out.blw HBW.out).out.box).2.2.1, (get5 (HG0.out.blw HBW.out).out.box).2.2.2.1, (get5 (HG0.out.blw HBW.out).out.box).2.2.2.2⟩ ?_
          simp only [Act.put, List.setIfInBounds_toArray, List.set_cons_zero, List.set_cons_succ]
          refine wpAnyH_ready (rs := [11]) (by kernel_rfl) (by simp) ?_
          refine AllReadyH.cons (o := { dst := none, op := Op.store 61 (Operand.tmp 19) (Operand.tmp 120), type := 0, pos := _, after := #[{ on := 10, ground := Ground.data }, { on := 7, ground := Ground.data }, { on := 5, ground := Ground.chain }, { on := 0, ground := Ground.phase }, { on := 1, ground := Ground.phase }, { on := 2, ground := Ground.phase }, { on := 3, ground := Ground.phase }, { on := 4, ground := Ground.phase }, { on := 5, ground := Ground.phase }, { on := 6, ground := Ground.phase }, { on := 7, ground := Ground.phase }, { on := 8, ground := Ground.textOnly Departure.lateStores }, { on := 9, ground := Ground.textOnly Departure.lateStores }, { on := 10, ground := Ground.phase }], guard := none }) rfl (fun K hK => ?_) AllReadyH.nil
          obtain ⟨t0, t1, t2, t3, t4⟩ := get5 HZB.out
          have f0 := HZB.out.frozen 0
          have f1 := HZB.out.frozen 1
          have f2 := HZB.out.frozen 2
          have f3 := HZB.out.frozen 3
          have f4 := HZB.out.frozen 4
          have m1 := set5_modG x4 wd.heap.size (.int .i64 Ra.at_) (.int .i64 Ra.acc) (.slice va.a1 Ra.nc va.c1) (.slice va.a2 Ra.nt va.c2) (.bool Ra.d) (X := fun x => x = wd.heap.size) rfl
          have m2 := m1.size
          have HFA : Hid (GAt (fun x => x < (((((x4.setCell ⟨wd.heap.size, 0, none⟩ (.int .i64 Ra.at_)).setCell ⟨wd.heap.size, 1, none⟩ (.int .i64 Ra.acc)).setCell ⟨wd.heap.size, 2, none⟩ (.slice va.a1 Ra.nc va.c1)).setCell ⟨wd.heap.size, 3, none⟩ (.slice va.a2 Ra.nt va.c2)).setCell ⟨wd.heap.size, 4, none⟩ (.bool Ra.d)).heap.size) (((((x4.setCell ⟨wd.heap.size, 0, none⟩ (.int .i64 Ra.at_)).setCell ⟨wd.heap.size, 1, none⟩ (.int .i64 Ra.acc)).setCell ⟨wd.heap.size, 2, none⟩ (.slice va.a1 Ra.nc va.c1)).setCell ⟨wd.heap.size, 3, none⟩ (.slice va.a2 Ra.nt va.c2)).setCell ⟨wd.heap.size, 4, none⟩ (.bool Ra.d)) va Ra) := (HAN.out.mod m1 (fun x hx he => HNZ.out x hx he)).mono (fun x hx => Nat.lt_of_lt_of_le (Nat.lt_of_lt_of_le hx.2 HAU.out) m2)
          have HFB : Hid (Row (((((x4.setCell ⟨wd.heap.size, 0, none⟩ (.int .i64 Ra.at_)).setCell ⟨wd.heap.size, 1, none⟩ (.int .i64 Ra.acc)).setCell ⟨wd.heap.size, 2, none⟩ (.slice va.a1 Ra.nc va.c1)).setCell ⟨wd.heap.size, 3, none⟩ (.slice va.a2 Ra.nt va.c2)).setCell ⟨wd.heap.size, 4, none⟩ (.bool Ra.d)) wd.heap.size 5 (gb va Ra)) := set5_all HZB.out _ _ _ _ _
          replace HBW : Hid (Blw w18 (((((x4.setCell ⟨wd.heap.size, 0, none⟩ (.int .i64 Ra.at_)).setCell ⟨wd.heap.size, 1, none⟩ (.int .i64 Ra.acc)).setCell ⟨wd.heap.size, 2, none⟩ (.slice va.a1 Ra.nc va.c1)).setCell ⟨wd.heap.size, 3, none⟩ (.slice va.a2 Ra.nt va.c2)).setCell ⟨wd.heap.size, 4, none⟩ (.bool Ra.d))) := Mod.blw HBW.out m1 (fun i hi => by have h9 := HZL.out; omega)
          clear m1 m2
          go_simp
          refine hK.out _ _ ⟨(get5 (HG0.out.blw HBW.out).out.box).1, (get5 (HG0.out.blw HBW.out).out.box).2.1, (get5 (HG0.out.blw HBW.out).out.box).2.2.1, (get5 (HG0.out.blw HBW.out).out.box).2.2.2.1, (get5 (HG0.out.blw HBW.out).out.box).2.2.2.2⟩ (fun hB => ?_)
          clear hK K hB
          try simp only [Act.put, List.setIfInBounds_toArray, List.set_cons_zero, List.set_cons_succ]
          clear t0 t1 t2 t3 t4 f0 f1 f2 f3 f4
          refine wpAnyH_take (i := 12) (oi := { dst := some 20, op := Op.assign (Operand.tmp 121), type := 3, pos := _, after := #[{ on := 8, ground := Ground.data }, { on := 11, ground := Ground.chain }, { on := 0, ground := Ground.phase }, { on := 1, ground := Ground.phase }, { on := 2, ground := Ground.phase }, { on := 3, ground := Ground.phase }, { on := 4, ground := Ground.phase }, { on := 5, ground := Ground.phase }, { on := 6, ground := Ground.phase }, { on := 7, ground := Ground.phase }, { on := 8, ground := Ground.phase }, { on := 9, ground := Ground.textOnly Departure.lateStores }, { on := 10, ground := Ground.phase }, { on := 11, ground := Ground.phase }], guard := none }) (v := (.int .i64 xa)) rfl (by kernel_rfl) (by kernel_rfl) (by kernel_rfl) (fun _ _ _ h => h) (Or.inl ⟨by rfl, fun w' hS => by (try dsimp only at hS); go_simp⟩) ⟨(get5 (HG0.out.blw HBW.out).out.box).1, (get5 (HG0.out.blw HBW.out).out.box).2.1, (get5 (HG0.out.blw HBW.out).out.box).2.2.1, (get5 (HG0.out.blw HBW.out).out.box).2.2.2.1, (get5 (HG0.out.blw HBW.out).out.box).2.2.2.2⟩ ?_
          simp only [Act.put, List.setIfInBounds_toArray, List.set_cons_zero, List.set_cons_succ]
          refine wpAnyH_take (i := 13) (oi := { dst := some 21, op := Op.assign (Operand.tmp 122), type := 4, pos := _, after := #[{ on := 9, ground := Ground.data }, { on := 12, ground := Ground.chain }, { on := 0, ground := Ground.phase }, { on := 1, ground := Ground.phase }, { on := 2, ground := Ground.phase }, { on := 3, ground := Ground.phase }, { on := 4, ground := Ground.phase }, { on := 5, ground := Ground.phase }, { on := 6, ground := Ground.phase }, { on := 7, ground := Ground.phase }, { on := 8, ground := Ground.phase }, { on := 9, ground := Ground.phase }, { on := 10, ground := Ground.phase }, { on := 11, ground := Ground.phase }, { on := 12, ground := Ground.phase }], guard := none }) (v := (.bool ba)) rfl (by kernel_rfl) (by kernel_rfl) (by kernel_rfl) (fun _ _ _ h => h) (Or.inl ⟨by rfl, fun w' hS => by (try dsimp only at hS); go_simp⟩) ⟨(get5 (HG0.out.blw HBW.out).out.box).1, (get5 (HG0.out.blw HBW.out).out.box).2.1, (get5 (HG0.out.blw HBW.out).out.box).2.2.1, (get5 (HG0.out.blw HBW.out).out.box).2.2.2.1, (get5 (HG0.out.blw HBW.out).out.box).2.2.2.2⟩ ?_
          simp only [Act.put, List.setIfInBounds_toArray, List.set_cons_zero, List.set_cons_succ]
          refine wpAnyH_done (by kernel_rfl) ?_ _
          refine NoPanic.normal ?_
          go_wp2_with fail
          go_meet
          exact ⟨va, Ra, xa, ba, _, rfl, rfl, rfl, HOS.out.1, HOS.out.2, HFA.out, HFB.out, HBW.out⟩
      case rest =>
        obtain ⟨v8, R8, x8, b8, z8, rfl, rfl, rfl, ho, hs, hat, hbx, hb⟩ := hcut
        generalize wc = w19 at *
        obtain ⟨eR, ex, eb⟩ := rgOut_same ho HO3.out
        subst eR ex eb
        have hzl := hbx.lt
        replace HP : Hid (St (fun x => x < w.heap.size) (fun W => KAt 3 (fun x => x < w.heap.size) W ap np F) w19) := HP.out.blw hb
        replace HG0 : Hid (St (fun x => x < w.heap.size + 1) (ArgG w.heap.size w.heap.size g0 D0) w19) := HG0.out.blw hb
        replace H3 : Hid (St (fun x => x < w4.heap.size) (ArgG w4.heap.size z3 v3 R8) w19) := H3.out.blw hb
        replace H4P : Hid (St (fun x => w4.heap.size ≤ x ∧ x < w5.heap.size) (fun W => KOwn 3 (fun x => w4.heap.size ≤ x ∧ x < w5.heap.size) W (some ⟨w4.heap.size, 0, none⟩) np (mkK 3 (1))) w19) := H4P.out.blw hb
        replace H4G0 : Hid (St (fun x => w5.heap.size ≤ x ∧ x < w6.heap.size + 1) (BBG (fun x => w5.heap.size ≤ x ∧ x < w6.heap.size + 1) w6.heap.size v40 D0 (D0.marked (1 + 3 * (np : Int)))) w19) := H4G0.out.blw hb
        replace H5 : Hid (St (fun x => w6.heap.size + 1 ≤ x ∧ x < w8.heap.size + 1) (BBG (fun x => w6.heap.size + 1 ≤ x ∧ x < w8.heap.size + 1) w8.heap.size v5 R8 (R8.marked 1)) w19) := H5.out.blw hb
        replace HB : Hid (Blw w w19) := HB.out.trans hb
        have H8 : Hid (St (fun x => x < w19.heap.size) (ArgG w19.heap.size z8 v8 R8) w19) := ArgG.st ⟨hat, hbx⟩ (Nat.le_refl _) hzl (Nat.le_refl _)
        clear hb hat hbx hzl ho hs
        obtain ⟨p00, p01, p02, p03, p04⟩ := get5 H8.out.out.box
        obtain ⟨p10, p11, p12, p13, p14⟩ := get5 H3.out.out.box
        go_wp2_with fail
        clear p00 p01 p02 p03 p04 p10 p11 p12 p13 p14
        refine (eqGuest_same v8 v3 R8 _ H8.out.out.at_ H3.out.out.at_).mono ?_
        rintro e w20 ⟨rfl, hb⟩
        replace HP : Hid (St (fun x => x < w.heap.size) (fun W => KAt 3 (fun x => x < w.heap.size) W ap np F) w20) := HP.out.blw hb
        replace HG0 : Hid (St (fun x => x < w.heap.size + 1) (ArgG w.heap.size w.heap.size g0 D0) w20) := HG0.out.blw hb
        replace H3 : Hid (St (fun x => x < w4.heap.size) (ArgG w4.heap.size z3 v3 R8) w20) := H3.out.blw hb
        replace H4P : Hid (St (fun x => w4.heap.size ≤ x ∧ x < w5.heap.size) (fun W => KOwn 3 (fun x => w4.heap.size ≤ x ∧ x < w5.heap.size) W (some ⟨w4.heap.size, 0, none⟩) np (mkK 3 (1))) w20) := H4P.out.blw hb
        replace H4G0 : Hid (St (fun x => w5.heap.size ≤ x ∧ x < w6.heap.size + 1) (BBG (fun x => w5.heap.size ≤ x ∧ x < w6.heap.size + 1) w6.heap.size v40 D0 (D0.marked (1 + 3 * (np : Int)))) w20) := H4G0.out.blw hb
        replace H5 : Hid (St (fun x => w6.heap.size + 1 ≤ x ∧ x < w8.heap.size + 1) (BBG (fun x => w6.heap.size + 1 ≤ x ∧ x < w8.heap.size + 1) w8.heap.size v5 R8 (R8.marked 1)) w20) := H5.out.blw hb
        replace H8 : Hid (St (fun x => x < w19.heap.size) (ArgG w19.heap.size z8 v8 R8) w20) := H8.out.blw hb
        replace HB : Hid (Blw w w20) := HB.out.trans hb
        clear hb H8
        obtain ⟨p00, p01, p02, p03, p04⟩ := get5 H5.out.out.box
        go_wp2_with fail
        clear p00 p01 p02 p03 p04
        refine (heldGuest_any v5 R8 _ 1 _ HSR.out (by omega) (by omega) H5.out.out.own).mono ?_
        rintro e w21 ⟨rfl, hb⟩
        replace HP : Hid (St (fun x => x < w.heap.size) (fun W => KAt 3 (fun x => x < w.heap.size) W ap np F) w21) := HP.out.blw hb
        replace HG0 : Hid (St (fun x => x < w.heap.size + 1) (ArgG w.heap.size w.heap.size g0 D0) w21) := HG0.out.blw hb
        replace H3 : Hid (St (fun x => x < w4.heap.size) (ArgG w4.heap.size z3 v3 R8) w21) := H3.out.blw hb
        replace H4P : Hid (St (fun x => w4.heap.size ≤ x ∧ x < w5.heap.size) (fun W => KOwn 3 (fun x => w4.heap.size ≤ x ∧ x < w5.heap.size) W (some ⟨w4.heap.size, 0, none⟩) np (mkK 3 (1))) w21) := H4P.out.blw hb
        replace H4G0 : Hid (St (fun x => w5.heap.size ≤ x ∧ x < w6.heap.size + 1) (BBG (fun x => w5.heap.size ≤ x ∧ x < w6.heap.size + 1) w6.heap.size v40 D0 (D0.marked (1 + 3 * (np : Int)))) w21) := H4G0.out.blw hb
        replace H5 : Hid (St (fun x => w6.heap.size + 1 ≤ x ∧ x < w8.heap.size + 1) (BBG (fun x => w6.heap.size + 1 ≤ x ∧ x < w8.heap.size + 1) w8.heap.size v5 R8 (R8.marked 1)) w21) := H5.out.blw hb
        replace HB : Hid (Blw w w21) := HB.out.trans hb
        clear hb
        go_wp2
        go_ret
        exact ⟨rfl, HB.out⟩
end Go.Proofs.Ytbpdopcdhnemfaa
