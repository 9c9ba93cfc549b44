/- The law on Isolated. -/
import Derived.Test.YtjplodenflkghaaJoin8
namespace Go.Proofs.Ytjplodenflkghaa
open Go.RowKit
set_option linter.unusedSimpArgs false
set_option linter.unusedVariables false
set_option maxRecDepth 10000 in
set_option maxHeartbeats 6400000 in
theorem lawIsoP (b : NV) (B : ND) (c : NV) (C : ND) (w : World) (h : NAt (fun x => x < w.heap.size) w b B) (k : NAt (fun x => x < w.heap.size) w c C) : Calls Try.prog 14 #[b.val B, c.val C] w fun e w' => e = .returned (.bool true) ∧ Blw w w' := by
  have hb1 : Blw w (w.alloc (.cells #[.slice b.g.a1 B.G.n b.g.c1, .slice b.g.a2 B.G.D.n b.g.c2, .slice b.h.a1 B.H.n b.h.c1, .slice b.h.a2 B.H.D.n b.h.c2] 91)) := (Blw.refl _).alloc _
  have hb2 : Blw (w.alloc (.cells #[.slice b.g.a1 B.G.n b.g.c1, .slice b.g.a2 B.G.D.n b.g.c2, .slice b.h.a1 B.H.n b.h.c1, .slice b.h.a2 B.H.D.n b.h.c2] 91)) ((w.alloc (.cells #[.slice b.g.a1 B.G.n b.g.c1, .slice b.g.a2 B.G.D.n b.g.c2, .slice b.h.a1 B.H.n b.h.c1, .slice b.h.a2 B.H.D.n b.h.c2] 91)).alloc (.cells #[.slice c.g.a1 C.G.n c.g.c1, .slice c.g.a2 C.G.D.n c.g.c2, .slice c.h.a1 C.H.n c.h.c1, .slice c.h.a2 C.H.D.n c.h.c2] 91)) := (Blw.refl _).alloc _
  have hb0 := hb1.trans hb2
  have r2 := box4 (w.alloc (.cells #[.slice b.g.a1 B.G.n b.g.c1, .slice b.g.a2 B.G.D.n b.g.c2, .slice b.h.a1 B.H.n b.h.c1, .slice b.h.a2 B.H.D.n b.h.c2] 91)) (.slice c.g.a1 C.G.n c.g.c1) (.slice c.g.a2 C.G.D.n c.g.c2) (.slice c.h.a1 C.H.n c.h.c1) (.slice c.h.a2 C.H.D.n c.h.c2) 91
  rw [World.size_alloc] at r2
  have HA : Hid (St (fun x => x < w.heap.size + 1 + 1) (ArgN w.heap.size w.heap.size b B) ((w.alloc (.cells #[.slice b.g.a1 B.G.n b.g.c1, .slice b.g.a2 B.G.D.n b.g.c2, .slice b.h.a1 B.H.n b.h.c1, .slice b.h.a2 B.H.D.n b.h.c2] 91)).alloc (.cells #[.slice c.g.a1 C.G.n c.g.c1, .slice c.g.a2 C.G.D.n c.g.c2, .slice c.h.a1 C.H.n c.h.c1, .slice c.h.a2 C.H.D.n c.h.c2] 91))) := ArgN.st ⟨h.blw hb0, (box4 w _ _ _ _ 91).blw hb2⟩ (by omega) (by omega) (by simp)
  have HC : Hid (St (fun x => x < w.heap.size + 1 + 1) (ArgN w.heap.size (w.heap.size + 1) c C) ((w.alloc (.cells #[.slice b.g.a1 B.G.n b.g.c1, .slice b.g.a2 B.G.D.n b.g.c2, .slice b.h.a1 B.H.n b.h.c1, .slice b.h.a2 B.H.D.n b.h.c2] 91)).alloc (.cells #[.slice c.g.a1 C.G.n c.g.c1, .slice c.g.a2 C.G.D.n c.g.c2, .slice c.h.a1 C.H.n c.h.c1, .slice c.h.a2 C.H.D.n c.h.c2] 91))) := ArgN.st ⟨k.blw hb0, r2⟩ (by omega) (by omega) (by simp)
  clear h k hb1 hb2 r2
  go_enter Try.func14, Try.ntmps14
  go_wp2_with fail
  refine (szNest_any b B _ 1048576 _ (by omega) (by omega) HA.out.out.at_).mono ?_
  rintro e w1 ⟨r, rfl, hr, hb1⟩
  replace HA : Hid (St (fun x => x < w.heap.size + 1 + 1) (ArgN w.heap.size w.heap.size b B) w1) := HA.out.blw hb1
  replace HC : Hid (St (fun x => x < w.heap.size + 1 + 1) (ArgN w.heap.size (w.heap.size + 1) c C) w1) := HC.out.blw hb1
  replace hb1 := hb0.trans hb1
  clear hb0
  rcases hr with rfl | ⟨q0, q1⟩
  · go_wp2
    go_ret
    exact ⟨rfl, hb1⟩
  have HS : Hid (ND.small B) := ⟨by unfold BD.small; omega, by unfold BD.small; omega⟩
  have hr1 : r ≤ 1048576 := by omega
  have hnn : ¬ r < 0 := by omega
  obtain ⟨p0, p1, p2, p3⟩ := get4 HC.out.out.box
  clear q1
  go_wp2_with fail
  clear p0 p1 p2 p3
  refine (szNest_any c C _ r _ q0 hr1 HC.out.out.at_).mono ?_
  rintro e w2 ⟨r2, rfl, hr2, hb2⟩
  replace HA : Hid (St (fun x => x < w.heap.size + 1 + 1) (ArgN w.heap.size w.heap.size b B) w2) := HA.out.blw hb2
  replace HC : Hid (St (fun x => x < w.heap.size + 1 + 1) (ArgN w.heap.size (w.heap.size + 1) c C) w2) := HC.out.blw hb2
  replace hb2 := hb1.trans hb2
  clear hb1 hnn
  rcases hr2 with rfl | ⟨q2, q3⟩
  · go_wp2
    go_ret
    exact ⟨rfl, hb2⟩
  have HS2 : Hid (ND.small C) := ⟨by unfold BD.small; omega, by unfold BD.small; omega⟩
  have hnn : ¬ r2 < 0 := by omega
  have HB : Hid (Blw w w2) := hb2
  clear q3 hb2 hr1 q0
  go_upto_region 8 with fail
  clear hnn q2
  replace HA : Hid (St (fun x => x < w.heap.size + 1 + 1) (ArgN w.heap.size w.heap.size b B) w2.drew) := HA.out.blw (Blw.refl _).drew
  replace HC : Hid (St (fun x => x < w.heap.size + 1 + 1) (ArgN w.heap.size (w.heap.size + 1) c C) w2.drew) := HC.out.blw (Blw.refl _).drew
  replace HB : Hid (Blw w w2.drew) := HB.out.drew
  have P0 : ∀ w', (Row w' w.heap.size 4 (nb b B) ∧ Row w' (w.heap.size + 1) 4 (nb c C)) → w'.cell? ⟨w.heap.size, 0, none⟩ = some (.slice b.g.a1 B.G.n b.g.c1) ∧ w'.cell? ⟨w.heap.size, 1, none⟩ = some (.slice b.g.a2 B.G.D.n b.g.c2) ∧ w'.cell? ⟨w.heap.size, 2, none⟩ = some (.slice b.h.a1 B.H.n b.h.c1) ∧ w'.cell? ⟨w.heap.size, 3, none⟩ = some (.slice b.h.a2 B.H.D.n b.h.c2) := fun w' hh => get4 hh.1
  have P1 : ∀ w', (Row w' w.heap.size 4 (nb b B) ∧ Row w' (w.heap.size + 1) 4 (nb c C)) → w'.cell? ⟨w.heap.size + 1, 0, none⟩ = some (.slice c.g.a1 C.G.n c.g.c1) ∧ w'.cell? ⟨w.heap.size + 1, 1, none⟩ = some (.slice c.g.a2 C.G.D.n c.g.c2) ∧ w'.cell? ⟨w.heap.size + 1, 2, none⟩ = some (.slice c.h.a1 C.H.n c.h.c1) ∧ w'.cell? ⟨w.heap.size + 1, 3, none⟩ = some (.slice c.h.a2 C.H.D.n c.h.c2) := fun w' hh => get4 hh.2
  refine wp_region_noPanic ?_
  refine wp_region_held_drew (S := (fun w' => Row w' w.heap.size 4 (nb b B) ∧ Row w' (w.heap.size + 1) 4 (nb c C))) (by kernel_rfl) (And.intro HA.out.out.box HC.out.out.box) (fun hB => ?_)
  clear hB
  generalize w2.drew = wd at *
  refine wpAnyH_take (i := 0) (oi := { dst := some 23, op := Op.load 91 (Operand.tmp 2), type := 91, pos := _, after := #[], guard := none }) (v := (.agg #[.slice b.g.a1 B.G.n b.g.c1, .slice b.g.a2 B.G.D.n b.g.c2, .slice b.h.a1 B.H.n b.h.c1, .slice b.h.a2 B.H.D.n b.h.c2])) rfl (by kernel_rfl) (by kernel_rfl) (by kernel_rfl) (fun _ _ _ h => h) (Or.inl ⟨by rfl, fun w' hS => by (try dsimp only at hS); go_simp⟩) (And.intro HA.out.out.box HC.out.out.box) ?_
  simp only [Act.put, List.setIfInBounds_toArray, List.set_cons_zero, List.set_cons_succ]
  refine wpAnyH_take (i := 2) (oi := { dst := some 25, op := Op.load 91 (Operand.tmp 3), type := 91, pos := _, after := #[], guard := none }) (v := (.agg #[.slice c.g.a1 C.G.n c.g.c1, .slice c.g.a2 C.G.D.n c.g.c2, .slice c.h.a1 C.H.n c.h.c1, .slice c.h.a2 C.H.D.n c.h.c2])) rfl (by kernel_rfl) (by kernel_rfl) (by kernel_rfl) (fun _ _ _ h => h) (Or.inl ⟨by rfl, fun w' hS => by (try dsimp only at hS); go_simp⟩) (And.intro HA.out.out.box HC.out.out.box) ?_
  simp only [Act.put, List.setIfInBounds_toArray, List.set_cons_zero, List.set_cons_succ]
  refine wpAnyH_ready (rs := [1]) (by kernel_rfl) (by simp) ?_
  refine AllReadyH.cons (o := { dst := some 24, op := Op.call { callee := Callee.value (Operand.func 71), args := #[Operand.tmp 23], argTypes := #[91] }, type := 60, pos := _, after := #[{ on := 0, ground := Ground.data }], guard := none }) rfl (fun K hK => ?_) AllReadyH.nil
  go_simp
  refine (toNest_any b B _ _ HS.out HA.out.out.at_).mono ?_
  rintro e w3 ⟨b3, rfl, own3, hb3⟩
  have HA3 : Hid (St (fun x => x < w.heap.size + 1 + 1) (ArgN w.heap.size w.heap.size b B) w3) := HA.out.blw hb3
  have HC3 : Hid (St (fun x => x < w.heap.size + 1 + 1) (ArgN w.heap.size (w.heap.size + 1) c C) w3) := HC.out.blw hb3
  have HB3 : Hid (Blw w w3) := HB.out.trans hb3
  have HO3 : Hid (NOwn (fun x => wd.heap.size ≤ x ∧ x < w3.heap.size) w3 b3 B) := own3
  clear own3 hb3
  refine hK.out _ _ (And.intro HA3.out.out.box HC3.out.out.box) (fun hB => ?_)
  clear hK K hB
  try simp only [Act.put, List.setIfInBounds_toArray, List.set_cons_zero, List.set_cons_succ]
  refine wpAnyH_ready (rs := [3]) (by kernel_rfl) (by simp) ?_
  refine AllReadyH.cons (o := { dst := some 26, op := Op.call { callee := Callee.value (Operand.func 71), args := #[Operand.tmp 25], argTypes := #[91] }, type := 60, pos := _, after := #[{ on := 2, ground := Ground.data }, { on := 1, ground := Ground.chain }], guard := none }) rfl (fun K hK => ?_) AllReadyH.nil
  go_simp
  refine (toNest_any c C _ _ HS2.out HC3.out.out.at_).mono ?_
  rintro e w4 ⟨c4, rfl, own4, hb4⟩
  have HA4 : Hid (St (fun x => x < w.heap.size + 1 + 1) (ArgN w.heap.size w.heap.size b B) w4) := HA3.out.blw hb4
  have HC4 : Hid (St (fun x => x < w.heap.size + 1 + 1) (ArgN w.heap.size (w.heap.size + 1) c C) w4) := HC3.out.blw hb4
  have HB4 : Hid (Blw w w4) := HB3.out.trans hb4
  have HO4 : Hid (NOwn (fun x => w3.heap.size ≤ x ∧ x < w4.heap.size) w4 c4 C) := own4
  have HO3b : Hid (NOwn (fun x => wd.heap.size ≤ x ∧ x < w3.heap.size) w4 b3 B) := HO3.out.blw hb4
  clear own4 hb4 HO3
  refine hK.out _ _ (And.intro HA4.out.out.box HC4.out.out.box) (fun hB => ?_)
  clear hK K hB
  try simp only [Act.put, List.setIfInBounds_toArray, List.set_cons_zero, List.set_cons_succ]
  refine wpAnyH_ready (rs := [4]) (by kernel_rfl) (by simp) ?_
  refine AllReadyH.cons (o := { dst := some 27, op := Op.call { callee := Callee.value (Operand.func 55), args := #[Operand.tmp 24, Operand.tmp 26], argTypes := #[60, 60] }, type := 47, pos := _, after := #[{ on := 1, ground := Ground.data }, { on := 3, ground := Ground.data }, { on := 3, ground := Ground.chain }], guard := none }) rfl (fun K hK => ?_) AllReadyH.nil
  go_simp
  refine (specIso_any b3 c4 B C _ _ _ (by have := HS.out.1; unfold BD.small at this; omega) (by have := HS.out.2; unfold BD.small at this; omega) HO3b.out.at (by have := HS2.out.1; unfold BD.small at this; omega) (by have := HS2.out.2; unfold BD.small at this; omega) HO4.out.at).mono ?_
  rintro e w5 ⟨s5, r5, rfl, ho5, hb5⟩
  have HA5 : Hid (St (fun x => x < w.heap.size + 1 + 1) (ArgN w.heap.size w.heap.size b B) w5) := HA4.out.blw hb5
  have HC5 : Hid (St (fun x => x < w.heap.size + 1 + 1) (ArgN w.heap.size (w.heap.size + 1) c C) w5) := HC4.out.blw hb5
  have HB5 : Hid (Blw w w5) := HB4.out.trans hb5
  have HI : Hid (isOut B C s5 r5) := ho5
  clear ho5 hb5 HO4 HO3b
  refine hK.out _ _ (And.intro HA5.out.out.box HC5.out.out.box) (fun hB => ?_)
  clear hK K hB
  try simp only [Act.put, List.setIfInBounds_toArray, List.set_cons_zero, List.set_cons_succ]
  refine wpAnyH_take (i := 5) (oi := { dst := some 22, op := Op.move (Operand.tmp 27), type := 47, pos := _, after := #[{ on := 4, ground := Ground.data }], guard := none }) (v := (.tuple #[.bool s5, .bool r5])) rfl (by kernel_rfl) (by kernel_rfl) (by kernel_rfl) (fun _ _ _ h => h) (Or.inl ⟨by rfl, fun w' hS => by (try dsimp only at hS); go_simp⟩) (And.intro HA5.out.out.box HC5.out.out.box) ?_
  simp only [Act.put, List.setIfInBounds_toArray, List.set_cons_zero, List.set_cons_succ]
  refine wpAnyH_take (i := 6) (oi := { dst := some 28, op := Op.extract (Operand.tmp 22) 0, type := 4, pos := _, after := #[{ on := 5, ground := Ground.data }], guard := none }) (v := (.bool s5)) rfl (by kernel_rfl) (by kernel_rfl) (by kernel_rfl) (fun _ _ _ h => h) (Or.inl ⟨by rfl, fun w' hS => by (try dsimp only at hS); go_simp⟩) (And.intro HA5.out.out.box HC5.out.out.box) ?_
  simp only [Act.put, List.setIfInBounds_toArray, List.set_cons_zero, List.set_cons_succ]
  refine wpAnyH_take (i := 7) (oi := { dst := some 29, op := Op.extract (Operand.tmp 22) 1, type := 4, pos := _, after := #[{ on := 5, ground := Ground.data }, { on := 8, ground := Ground.gcOnly Departure.lateStores }], guard := none }) (v := (.bool r5)) rfl (by kernel_rfl) (by kernel_rfl) (by kernel_rfl) (fun _ _ _ h => h) (Or.inl ⟨by rfl, fun w' hS => by (try dsimp only at hS); go_simp⟩) (And.intro HA5.out.out.box HC5.out.out.box) ?_
  simp only [Act.put, List.setIfInBounds_toArray, List.set_cons_zero, List.set_cons_succ]
  refine wpAnyH_take (i := 8) (oi := { dst := some 6, op := Op.assign (Operand.tmp 28), type := 4, pos := _, after := #[{ on := 6, ground := Ground.data }, { on := 4, ground := Ground.chain }, { on := 0, ground := Ground.phase }, { on := 1, ground := Ground.phase }, { on := 2, ground := Ground.phase }, { on := 3, ground := Ground.phase }, { on := 4, ground := Ground.phase }, { on := 5, ground := Ground.phase }, { on := 6, ground := Ground.phase }, { on := 7, ground := Ground.textOnly Departure.lateStores }], guard := none }) (v := (.bool s5)) rfl (by kernel_rfl) (by kernel_rfl) (by kernel_rfl) (fun _ _ _ h => h) (Or.inl ⟨by rfl, fun w' hS => by (try dsimp only at hS); go_simp⟩) (And.intro HA5.out.out.box HC5.out.out.box) ?_
  simp only [Act.put, List.setIfInBounds_toArray, List.set_cons_zero, List.set_cons_succ]
  refine wpAnyH_take (i := 9) (oi := { dst := some 7, op := Op.assign (Operand.tmp 29), type := 4, pos := _, after := #[{ on := 7, ground := Ground.data }, { on := 8, ground := Ground.chain }, { on := 0, ground := Ground.phase }, { on := 1, ground := Ground.phase }, { on := 2, ground := Ground.phase }, { on := 3, ground := Ground.phase }, { on := 4, ground := Ground.phase }, { on := 5, ground := Ground.phase }, { on := 6, ground := Ground.phase }, { on := 7, ground := Ground.phase }, { on := 8, ground := Ground.phase }], guard := none }) (v := (.bool r5)) rfl (by kernel_rfl) (by kernel_rfl) (by kernel_rfl) (fun _ _ _ h => h) (Or.inl ⟨by rfl, fun w' hS => by (try dsimp only at hS); go_simp⟩) (And.intro HA5.out.out.box HC5.out.out.box) ?_
  simp only [Act.put, List.setIfInBounds_toArray, List.set_cons_zero, List.set_cons_succ]
  refine wpAnyH_done (by kernel_rfl) ?_ _
  refine NoPanic.normal ?_
  clear P0 P1 HA HC HB HA3 HC3 HB3 HA4 HC4 HB4
  obtain ⟨z5, hz5⟩ : ∃ z, z = w5.heap.size := ⟨_, rfl⟩
  have HZ5 : Hid (z5 = w5.heap.size) := hz5
  clear hz5
  obtain ⟨p0, p1, p2, p3⟩ := get4 HA5.out.out.box
  go_wp2_with fail
  clear p0 p1 p2 p3
  refine (toNest_any b B _ _ HS.out HA5.out.out.at_).mono ?_
  rintro e w6 ⟨b6, rfl, own6, hb6⟩
  have hA6 : Blw w6 (w6.alloc (.cells #[.slice b6.g.a1 B.G.n b6.g.c1, .slice b6.g.a2 B.G.D.n b6.g.c2, .slice b6.h.a1 B.H.n b6.h.c1, .slice b6.h.a2 B.H.D.n b6.h.c2] 60)) := (Blw.refl _).alloc _
  have h56 := hb6.size
  have HP6 : Hid (St (fun x => z5 ≤ x ∧ x < w6.heap.size + 1) (BBN (fun x => z5 ≤ x ∧ x < w6.heap.size + 1) w6.heap.size b6 B B) (w6.alloc (.cells #[.slice b6.g.a1 B.G.n b6.g.c1, .slice b6.g.a2 B.G.D.n b6.g.c2, .slice b6.h.a1 B.H.n b6.h.c1, .slice b6.h.a2 B.H.D.n b6.h.c2] 60))) := BBN.st ⟨(own6.blw hA6).mono (fun x hx => ⟨⟨by have := HZ5.out; omega, by omega⟩, by omega⟩), box4 w6 _ _ _ _ 60⟩ ⟨by have := HZ5.out; omega, by omega⟩ (fun x hx => by simp; omega)
  have HA6 : Hid (St (fun x => x < w.heap.size + 1 + 1) (ArgN w.heap.size w.heap.size b B) (w6.alloc (.cells #[.slice b6.g.a1 B.G.n b6.g.c1, .slice b6.g.a2 B.G.D.n b6.g.c2, .slice b6.h.a1 B.H.n b6.h.c1, .slice b6.h.a2 B.H.D.n b6.h.c2] 60))) := (HA5.out.blw hb6).blw hA6
  have HC6 : Hid (St (fun x => x < w.heap.size + 1 + 1) (ArgN w.heap.size (w.heap.size + 1) c C) (w6.alloc (.cells #[.slice b6.g.a1 B.G.n b6.g.c1, .slice b6.g.a2 B.G.D.n b6.g.c2, .slice b6.h.a1 B.H.n b6.h.c1, .slice b6.h.a2 B.H.D.n b6.h.c2] 60))) := (HC5.out.blw hb6).blw hA6
  have HB6 : Hid (Blw w (w6.alloc (.cells #[.slice b6.g.a1 B.G.n b6.g.c1, .slice b6.g.a2 B.G.D.n b6.g.c2, .slice b6.h.a1 B.H.n b6.h.c1, .slice b6.h.a2 B.H.D.n b6.h.c2] 60))) := (HB5.out.trans hb6).trans hA6
  clear own6 hb6 hA6 h56 HA5 HC5 HB5 HZ5
  go_upto_region 10 with fail
  generalize w6.heap.size = z6 at *
  generalize hw6 : (w6.alloc (.cells #[.slice b6.g.a1 B.G.n b6.g.c1, .slice b6.g.a2 B.G.D.n b6.g.c2, .slice b6.h.a1 B.H.n b6.h.c1, .slice b6.h.a2 B.H.D.n b6.h.c2] 60)) = w8 at *
  clear hw6
  obtain ⟨p0, p1, p2, p3⟩ := get4 HC6.out.out.box
  go_wp2_with fail
  clear p0 p1 p2 p3
  refine (toNest_any c C _ _ HS2.out HC6.out.out.at_).mono ?_
  rintro e w7 ⟨c7, rfl, own7, hb7⟩
  have hA7 : Blw w7 (w7.alloc (.cells #[.slice c7.g.a1 C.G.n c7.g.c1, .slice c7.g.a2 C.G.D.n c7.g.c2, .slice c7.h.a1 C.H.n c7.h.c1, .slice c7.h.a2 C.H.D.n c7.h.c2] 60)) := (Blw.refl _).alloc _
  have h87 := hb7.size
  have HP7 : Hid (St (fun x => w8.heap.size ≤ x ∧ x < w7.heap.size + 1) (BBN (fun x => w8.heap.size ≤ x ∧ x < w7.heap.size + 1) w7.heap.size c7 C C) (w7.alloc (.cells #[.slice c7.g.a1 C.G.n c7.g.c1, .slice c7.g.a2 C.G.D.n c7.g.c2, .slice c7.h.a1 C.H.n c7.h.c1, .slice c7.h.a2 C.H.D.n c7.h.c2] 60))) := BBN.st ⟨(own7.blw hA7).mono (fun x hx => ⟨⟨by omega, by omega⟩, by omega⟩), box4 w7 _ _ _ _ 60⟩ ⟨by omega, by omega⟩ (fun x hx => by simp; omega)
  have HA7 : Hid (St (fun x => x < w.heap.size + 1 + 1) (ArgN w.heap.size w.heap.size b B) (w7.alloc (.cells #[.slice c7.g.a1 C.G.n c7.g.c1, .slice c7.g.a2 C.G.D.n c7.g.c2, .slice c7.h.a1 C.H.n c7.h.c1, .slice c7.h.a2 C.H.D.n c7.h.c2] 60))) := (HA6.out.blw hb7).blw hA7
  have HC7 : Hid (St (fun x => x < w.heap.size + 1 + 1) (ArgN w.heap.size (w.heap.size + 1) c C) (w7.alloc (.cells #[.slice c7.g.a1 C.G.n c7.g.c1, .slice c7.g.a2 C.G.D.n c7.g.c2, .slice c7.h.a1 C.H.n c7.h.c1, .slice c7.h.a2 C.H.D.n c7.h.c2] 60))) := (HC6.out.blw hb7).blw hA7
  have HP6b : Hid (St (fun x => z5 ≤ x ∧ x < z6 + 1) (BBN (fun x => z5 ≤ x ∧ x < z6 + 1) z6 b6 B B) (w7.alloc (.cells #[.slice c7.g.a1 C.G.n c7.g.c1, .slice c7.g.a2 C.G.D.n c7.g.c2, .slice c7.h.a1 C.H.n c7.h.c1, .slice c7.h.a2 C.H.D.n c7.h.c2] 60))) := (HP6.out.blw hb7).blw hA7
  have HB7 : Hid (Blw w (w7.alloc (.cells #[.slice c7.g.a1 C.G.n c7.g.c1, .slice c7.g.a2 C.G.D.n c7.g.c2, .slice c7.h.a1 C.H.n c7.h.c1, .slice c7.h.a2 C.H.D.n c7.h.c2] 60))) := (HB6.out.trans hb7).trans hA7
  clear own7 hb7 hA7 h87 HA6 HC6 HB6 HP6
  go_upto_region 11 with fail
  generalize w7.heap.size = z7 at *
  generalize hw7 : (w7.alloc (.cells #[.slice c7.g.a1 C.G.n c7.g.c1, .slice c7.g.a2 C.G.D.n c7.g.c2, .slice c7.h.a1 C.H.n c7.h.c1, .slice c7.h.a2 C.H.D.n c7.h.c2] 60)) = w9 at *
  clear hw7
  obtain ⟨p0, p1, p2, p3⟩ := get4 HP6b.out.out.box
  obtain ⟨s0, s1, s2, s3⟩ := get4 HP7.out.out.box
  go_wp2_with fail
  clear p0 p1 p2 p3 s0 s1 s2 s3
  refine (implIso_any b6 c7 B C _ _ _ HP6b.out.out.own.at (fun x hx => HP6b.out.1 x hx.1) HP7.out.out.own.at (fun x hx => HP7.out.1 x hx.1)).mono ?_
  rintro e wa ⟨sa, ra, rfl, hoa, hba⟩
  obtain ⟨e1, e2⟩ := isOut_same hoa HI.out
  subst e1 e2
  have n1 : (sa != sa) = false := by simp
  have n2 : (ra != ra) = false := by simp
  replace HA7 : Hid (St (fun x => x < w.heap.size + 1 + 1) (ArgN w.heap.size w.heap.size b B) wa) := HA7.out.blw hba
  replace HC7 : Hid (St (fun x => x < w.heap.size + 1 + 1) (ArgN w.heap.size (w.heap.size + 1) c C) wa) := HC7.out.blw hba
  replace HP6b : Hid (St (fun x => z5 ≤ x ∧ x < z6 + 1) (BBN (fun x => z5 ≤ x ∧ x < z6 + 1) z6 b6 B B) wa) := HP6b.out.blw hba
  replace HP7 : Hid (St (fun x => w8.heap.size ≤ x ∧ x < z7 + 1) (BBN (fun x => w8.heap.size ≤ x ∧ x < z7 + 1) z7 c7 C C) wa) := HP7.out.blw hba
  replace HB7 : Hid (Blw w wa) := HB7.out.trans hba
  clear hoa hba HI
  go_upto_region 14 with fail
  go_cut [52] from 48 to 52 (fun cc wx => cc = .bool false ∧ Blw wa wx)
  case first =>
    have A0 : ∀ w', Blw wa w' → w'.cell? ⟨w.heap.size, 0, none⟩ = some (.slice b.g.a1 B.G.n b.g.c1) := fun w' hh => (get4 (HA7.out.blw hh).out.box).1
    have A1 : ∀ w', Blw wa w' → w'.cell? ⟨w.heap.size, 1, none⟩ = some (.slice b.g.a2 B.G.D.n b.g.c2) := fun w' hh => (get4 (HA7.out.blw hh).out.box).2.1
    have A2 : ∀ w', Blw wa w' → w'.cell? ⟨w.heap.size, 2, none⟩ = some (.slice b.h.a1 B.H.n b.h.c1) := fun w' hh => (get4 (HA7.out.blw hh).out.box).2.2.1
    have A3 : ∀ w', Blw wa w' → w'.cell? ⟨w.heap.size, 3, none⟩ = some (.slice b.h.a2 B.H.D.n b.h.c2) := fun w' hh => (get4 (HA7.out.blw hh).out.box).2.2.2
    have B0 : ∀ w', Blw wa w' → w'.cell? ⟨z6, 0, none⟩ = some (.slice b6.g.a1 B.G.n b6.g.c1) := fun w' hh => (get4 (HP6b.out.blw hh).out.box).1
    have B1 : ∀ w', Blw wa w' → w'.cell? ⟨z6, 1, none⟩ = some (.slice b6.g.a2 B.G.D.n b6.g.c2) := fun w' hh => (get4 (HP6b.out.blw hh).out.box).2.1
    have B2 : ∀ w', Blw wa w' → w'.cell? ⟨z6, 2, none⟩ = some (.slice b6.h.a1 B.H.n b6.h.c1) := fun w' hh => (get4 (HP6b.out.blw hh).out.box).2.2.1
    have B3 : ∀ w', Blw wa w' → w'.cell? ⟨z6, 3, none⟩ = some (.slice b6.h.a2 B.H.D.n b6.h.c2) := fun w' hh => (get4 (HP6b.out.blw hh).out.box).2.2.2
    go_region_held3 (fun w' => Blw wa w') ((first | exact (Blw.refl _).drew | assumption | exact Blw.trans (by assumption) (by assumption))) (first
      | (go_at_call 71; refine (toNest_any b B _ _ HS.out (HA7.out.blw (by assumption)).out.at_).mono ?_; rintro e wq1 ⟨bq, rfl, oq, hbq⟩)
      | (go_at_call 72; refine (eqNest_same b6 bq B _ (HP6b.out.blw (by assumption)).out.own.at oq.at).mono ?_; rintro e wq2 ⟨rfl, hbr⟩))
    all_goals go_wp2_with fail
    all_goals go_meet
    all_goals exact ⟨rfl, by assumption⟩
  case rest =>
    obtain ⟨rfl, hb1⟩ := hcut
    replace HC7 : Hid (St (fun x => x < w.heap.size + 1 + 1) (ArgN w.heap.size (w.heap.size + 1) c C) wc) := HC7.out.blw hb1
    replace HP7 : Hid (St (fun x => w8.heap.size ≤ x ∧ x < z7 + 1) (BBN (fun x => w8.heap.size ≤ x ∧ x < z7 + 1) z7 c7 C C) wc) := HP7.out.blw hb1
    replace HB7 : Hid (Blw w wc) := HB7.out.trans hb1
    clear hb1 HA7 HP6b n1 n2
    go_upto_region 16 with fail
    go_cut [57] from 53 to 57 (fun cc wx => cc = .bool false ∧ Blw wc wx)
    case first =>
      have A0 : ∀ w', Blw wc w' → w'.cell? ⟨w.heap.size + 1, 0, none⟩ = some (.slice c.g.a1 C.G.n c.g.c1) := fun w' hh => (get4 (HC7.out.blw hh).out.box).1
      have A1 : ∀ w', Blw wc w' → w'.cell? ⟨w.heap.size + 1, 1, none⟩ = some (.slice c.g.a2 C.G.D.n c.g.c2) := fun w' hh => (get4 (HC7.out.blw hh).out.box).2.1
      have A2 : ∀ w', Blw wc w' → w'.cell? ⟨w.heap.size + 1, 2, none⟩ = some (.slice c.h.a1 C.H.n c.h.c1) := fun w' hh => (get4 (HC7.out.blw hh).out.box).2.2.1
      have A3 : ∀ w', Blw wc w' → w'.cell? ⟨w.heap.size + 1, 3, none⟩ = some (.slice c.h.a2 C.H.D.n c.h.c2) := fun w' hh => (get4 (HC7.out.blw hh).out.box).2.2.2
      have B0 : ∀ w', Blw wc w' → w'.cell? ⟨z7, 0, none⟩ = some (.slice c7.g.a1 C.G.n c7.g.c1) := fun w' hh => (get4 (HP7.out.blw hh).out.box).1
      have B1 : ∀ w', Blw wc w' → w'.cell? ⟨z7, 1, none⟩ = some (.slice c7.g.a2 C.G.D.n c7.g.c2) := fun w' hh => (get4 (HP7.out.blw hh).out.box).2.1
      have B2 : ∀ w', Blw wc w' → w'.cell? ⟨z7, 2, none⟩ = some (.slice c7.h.a1 C.H.n c7.h.c1) := fun w' hh => (get4 (HP7.out.blw hh).out.box).2.2.1
      have B3 : ∀ w', Blw wc w' → w'.cell? ⟨z7, 3, none⟩ = some (.slice c7.h.a2 C.H.D.n c7.h.c2) := fun w' hh => (get4 (HP7.out.blw hh).out.box).2.2.2
      go_region_held3 (fun w' => Blw wc w') ((first | exact (Blw.refl _).drew | assumption | exact Blw.trans (by assumption) (by assumption))) (first
        | (go_at_call 71; refine (toNest_any c C _ _ HS2.out (HC7.out.blw (by assumption)).out.at_).mono ?_; rintro e wq1 ⟨bq, rfl, oq, hbq⟩)
        | (go_at_call 72; refine (eqNest_same c7 bq C _ (HP7.out.blw (by assumption)).out.own.at oq.at).mono ?_; rintro e wq2 ⟨rfl, hbr⟩))
      all_goals go_wp2_with fail
      all_goals go_meet
      all_goals exact ⟨rfl, by assumption⟩
    case rest =>
      obtain ⟨rfl, hb1⟩ := hcut
      have FIN : Hid (Blw w _) := HB7.out.trans hb1
      clear hb1 HC7 HP7 HB7
      go_wp2
      go_ret
      exact ⟨rfl, FIN.out⟩
end Go.Proofs.Ytjplodenflkghaa
